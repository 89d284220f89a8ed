/-
  Two nodes, over plain values: a question that is opened, replied to, opened and heard. No contract here.
-/
import Derived.Test.YtahnbljbhfpldaaGreatDoorEchoU
namespace Go.Proofs.YtahnbljbhfpldaaGreatDoor
set_option maxRecDepth 20000
theorem eseal_right {key : List UInt8} {F : Fr} (hb : tagB key F = true) : rightB (sealF key F) = true := by
  obtain ⟨_, h2⟩ := (tagB_iff key F).1 hb
  unfold rightB
  rw [show coreB (sealF key F) = coreB F from rfl, h2, show (sealF key F).tag = tagL key F from rfl, tagL_length]
  rfl
theorem eseal_get {key : List UInt8} {F : Fr} (hb : tagB key F = true) (hn : F.n < 18446744073709551616) : getE (sealR key F) = 0 ∧ getF (sealR key F) = sealF key F := by
  have h := get_put (sealF key F) hn (eseal_right hb)
  unfold sealR
  rw [if_pos hb]
  exact h
theorem eseal_holds {key : List UInt8} {F : Fr} (hb : tagB key F = true) : holdsB key (sealF key F) = true := by
  unfold holdsB sealF
  rw [tagB_other, tagL_other, hb]
  simp
structure Duet (a b : Ec) : Prop where
  ao : a.ok
  bo : b.ok
  c : a.c = b.c
  ms : a.ms = b.ms
  ne : a.i ≠ b.i
theorem Duet.in8 {a b : Ec} (h : Duet a b) : (0 ≤ a.i ∧ a.i < 8) ∧ 0 ≤ b.i ∧ b.i < 8 := by
  have h1 := (right_of h.ao.cfg).n1
  have h2 := h.ao.node
  have h3 := h.bo.node
  rw [← h.c] at h3
  omega
theorem Duet.keyLen {a b : Ec} (h : Duet a b) : (pairK a.ms a.i b.i).length = 16 := (pairK_len h.ao.ms h.in8.1 h.in8.2 h.ne).2
theorem Duet.ping {a b : Ec} (h : Duet a b) (n : Nat) : tagB (pairK a.ms a.i b.i) (ecPing a.i b.i n) = true := by
  rw [tagB_iff]
  refine ⟨h.keyLen, ?_⟩
  have h8 := h.in8
  have hn := h.ne
  simp [coreB, numsB, inB, ecPing, hn]
  exact ⟨decide_eq_true (by omega), decide_eq_true (by omega)⟩
theorem Duet.pong {a b : Ec} (h : Duet a b) (n : Nat) (m e st ix : Int) (key : List UInt8) (hk : key.length = 16) (hm : 0 ≤ m ∧ m ≤ 1099511627776) (he : 0 ≤ e ∧ e ≤ 65535) (hst : 0 ≤ st ∧ st ≤ 1048576) (hix : 0 ≤ ix ∧ ix ≤ 256) : tagB (pairK a.ms a.i b.i) (ecPong b.i a.i n m e st ix key) = true := by
  rw [tagB_iff]
  refine ⟨h.keyLen, ?_⟩
  have h8 := h.in8
  have hn := h.ne
  have h1 : inB b.i 7 = true := decide_eq_true (by omega)
  have h2 : inB a.i 7 = true := decide_eq_true (by omega)
  have h3 : inB e 65535 = true := decide_eq_true he
  have h4 : inB st 1048576 = true := decide_eq_true hst
  have h5 : inB m 1099511627776 = true := decide_eq_true hm
  have h6 : inB ix 256 = true := decide_eq_true hix
  have h7 : inB 0 1048576 = true := by decide
  have h9 : inB 0 255 = true := by decide
  simp [coreB, numsB, ecPong, h1, h2, h3, h4, h5, h6, h7, h9, hk]
  exact fun e => hn e.symm
theorem Duet.asked {a b : Ec} (h : Duet a b) (own : Int) (hT : timeB own = true) (hct : a.ct < 4294967295) :
    a.askE b.i own = 0 ∧ b.opE (a.askR b.i own) = 0 ∧ b.opF (a.askR b.i own) = sealF (pairK a.ms a.i b.i) (ecPing a.i b.i a.non) := by
  have hE : a.askE b.i own = 0 := by
    rw [Ec.askE_zero]
    refine ⟨⟨h.bo.node.1, ?_, fun e => h.ne e.symm, hT⟩, hct⟩
    rw [h.c]; exact h.bo.node.2
  have hx : a.askR b.i own = sealR (pairK a.ms a.i b.i) (ecPing a.i b.i a.non) := if_pos hE
  obtain ⟨g1, g2⟩ := eseal_get (h.ping a.non) (Ec.non_lt h.ao hct).2
  have hO : b.opE (a.askR b.i own) = 0 := by
    unfold Ec.opE
    rw [hx, g1, if_neg (by simp), g2, if_neg (by simp [sealF, ecPing])]
    have h4 : holdsB (pairK b.ms (sealF (pairK a.ms a.i b.i) (ecPing a.i b.i a.non)).f b.i) (sealF (pairK a.ms a.i b.i) (ecPing a.i b.i a.non)) = true := by
      rw [← h.ms]; exact eseal_holds (h.ping a.non)
    rw [h4]
    rfl
  refine ⟨hE, hO, ?_⟩
  unfold Ec.opF
  rw [if_pos hO, hx, g2]
theorem Duet.replied {a b : Ec} (h : Duet a b) (hct : a.ct < 4294967295) (m e st ix : Int) (key : List UInt8) (hk : key.length = 16) (hm : 0 ≤ m ∧ m ≤ 1099511627776) (he : 0 ≤ e ∧ e ≤ 65535) (hst : 0 ≤ st ∧ st ≤ 1048576) (hix : 0 ≤ ix ∧ ix ≤ 256) (P : Fr) (hP : P = sealF (pairK a.ms a.i b.i) (ecPing a.i b.i a.non)) (a1 : Ec) (h1 : a1.ms = a.ms ∧ a1.i = a.i) :
    b.repE P m e st ix key = 0 ∧ a1.opE (b.repR P m e st ix key) = 0 ∧ a1.opF (b.repR P m e st ix key) = sealF (pairK a.ms a.i b.i) (ecPong b.i a.i a.non m e st ix key) := by
  have hr : b.repB P = true := by
    unfold Ec.repB
    rw [hP, eseal_right (h.ping a.non)]
    simp [sealF, ecPing]
  have hK : pairK b.ms P.f b.i = pairK a.ms a.i b.i := by rw [hP, ← h.ms]; rfl
  have hF : b.repF P m e st ix key = ecPong b.i a.i a.non m e st ix key := by rw [hP]; rfl
  have ht := h.pong a.non m e st ix key hk hm he hst hix
  have hE : b.repE P m e st ix key = 0 := by
    unfold Ec.repE
    rw [if_pos hr, hK, hF]
    exact if_pos ht
  have hR : b.repR P m e st ix key = sealR (pairK a.ms a.i b.i) (ecPong b.i a.i a.non m e st ix key) := by
    unfold Ec.repR
    rw [if_pos hr, hK, hF]
  obtain ⟨g1, g2⟩ := eseal_get ht (Ec.non_lt h.ao hct).2
  have hO : a1.opE (b.repR P m e st ix key) = 0 := by
    unfold Ec.opE
    rw [hR, g1, if_neg (by simp), g2, h1.2, if_neg (by simp [sealF, ecPong])]
    have h4 : holdsB (pairK a1.ms (sealF (pairK a.ms a.i b.i) (ecPong b.i a.i a.non m e st ix key)).f a.i) (sealF (pairK a.ms a.i b.i) (ecPong b.i a.i a.non m e st ix key)) = true := by
      rw [h1.1, show (sealF (pairK a.ms a.i b.i) (ecPong b.i a.i a.non m e st ix key)).f = b.i from rfl, pairK_comm a.ms b.i a.i]
      exact eseal_holds ht
    rw [h4]
    rfl
  refine ⟨hE, hO, ?_⟩
  unfold Ec.opF
  rw [if_pos hO, hR, g2]
theorem Duet.heard {a b : Ec} (h : Duet a b) (own : Int) (hT : timeB own = true) (hct : a.ct < 4294967295) (m e st ix : Int) (key : List UInt8) (hk : key.length = 16) (hm : 0 ≤ m ∧ m ≤ 1099511627776) (he : 0 ≤ e ∧ e ≤ 65535) (hst : 0 ≤ st ∧ st ≤ 1048576) (hix : 0 ≤ ix ∧ ix ≤ 256) (Q : Fr) (hQ : Q = sealF (pairK a.ms a.i b.i) (ecPong b.i a.i a.non m e st ix key)) (now : Int) (hN : timeB now = true) :
    (a.askV b.i own).heE Q now = (if now < own then 6 else if a.c.v < now - own then 12 else 0)
      ∧ (a.askV b.i own).heA Q now = (if (a.askV b.i own).heE Q now = 0 then ⟨b.i, m - now, m + mostN (now - own) (a.c.r + a.c.l) - now, e, st, ix, key⟩ else An.zero) := by
  have hE := (h.asked own hT hct).1
  have hV : a.askV b.i own = { a with ct := a.ct + 1, ws := a.ws.set b.i.toNat (some (a.non, own)) } := if_pos hE
  have hB : (a.askV b.i own).heB Q now = true := by
    unfold Ec.heB
    rw [hQ, eseal_right (h.pong a.non m e st ix key hk hm he hst hix), hN, hV]
    have := h.bo.node
    simp [sealF, ecPong, h.c, this]
  have hA : (a.askV b.i own).at? Q = some (a.non, own) := by
    unfold Ec.at?
    rw [hV, hQ]
    show ((a.ws.set b.i.toNat (some (a.non, own)))[b.i.toNat]?).join = _
    have := h.bo.node
    rw [List.getElem?_set_self (by rw [h.ao.num, h.c]; omega)]
    rfl
  have hH : (a.askV b.i own).heE Q now = (if now < own then 6 else if a.c.v < now - own then 12 else 0) := by
    unfold Ec.heE
    rw [if_pos hB, hA]
    have e1 : a.non = Q.n := by rw [hQ]; rfl
    have e2 : (a.askV b.i own).c.v = a.c.v := by rw [hV]
    simp only [e2, e1]
    simp
  refine ⟨hH, ?_⟩
  unfold Ec.heA
  rw [hA]
  have e2 : (a.askV b.i own).c = a.c := by rw [hV]
  simp only [e2]
  rw [hQ]
  rfl
theorem between {a b x y r : Int} (hr : r = 3) (ha : 0 ≤ a) (h1 : 97 * y ≤ 103 * b) (hx : x = a + b) (hy : 0 ≤ y) : 0 ≤ y ∧ y ≤ mostN x r := by
  refine ⟨hy, ?_⟩
  rw [most_le (by omega), hr, hx]
  omega
theorem ask_read {s : Ec} (h : s.ok) {jj now : Int} (hE : s.askE jj now = 0) : getE (s.askR jj now) = 0 ∧ (getF (s.askR jj now)).k = 2 ∧ (getF (s.askR jj now)).n = s.non := by
  obtain ⟨⟨h1, h2, h3, _⟩, hct⟩ := Ec.askE_zero.1 hE
  have h8 := (right_of h.cfg).n1
  have hn := h.node
  have hl := (pairK_len (ms := s.ms) (i := s.i) (j := jj) h.ms (by omega) (by omega) (fun e => h3 e.symm)).2
  have ht : tagB (pairK s.ms s.i jj) (ecPing s.i jj s.non) = true := by
    rw [tagB_iff]
    refine ⟨hl, ?_⟩
    have hne : ¬ s.i = jj := fun e => h3 e.symm
    simp [coreB, numsB, inB, ecPing, hne]
    exact ⟨decide_eq_true (by omega), decide_eq_true (by omega)⟩
  have hR : s.askR jj now = sealR (pairK s.ms s.i jj) (ecPing s.i jj s.non) := if_pos hE
  obtain ⟨g1, g2⟩ := eseal_get ht (Ec.non_lt h hct).2
  rw [hR, g1, g2]
  exact ⟨rfl, rfl, rfl⟩
theorem heard_once {s : Ec} {F : Fr} {now : Int} (h0 : s.heE F now = 0 ∨ s.heE F now = 12) (t : Int) (hB : (s.heV F now).heB F t = true) : (s.heV F now).heE F t = 6 := by
  have hV : s.heV F now = { s with ws := s.ws.set F.f.toNat none } := if_pos h0
  have hA : (s.heV F now).at? F = none := by
    unfold Ec.at?
    rw [hV]
    show ((s.ws.set F.f.toNat none)[F.f.toNat]?).join = none
    by_cases hl : F.f.toNat < s.ws.length
    · rw [List.getElem?_set_self hl]; rfl
    · rw [List.getElem?_eq_none (by rw [List.length_set]; omega)]; rfl
  unfold Ec.heE
  rw [if_pos hB, hA]
end Go.Proofs.YtahnbljbhfpldaaGreatDoor
