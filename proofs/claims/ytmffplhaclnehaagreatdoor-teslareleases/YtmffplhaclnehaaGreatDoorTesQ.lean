/-
  The program's receiver: a key that anybody told; the three calls.
  One receiver of the program's, act by act, seen from the world in which it was made; the law's config; awake.
  The law's awake.
  A data frame sealed, offered to a receiver with an anchor; over plain values. And what the laws' first steps leave.
-/
import Derived.Test.YtmffplhaclnehaaGreatDoorTesJ
import Derived.Test.YtmffplhaclnehaaGreatDoorTesN
import Derived.Test.YtmffplhaclnehaaGreatDoorSealB
namespace Go.Proofs.YtmffplhaclnehaaGreatDoor
open Go.ChangeShapes Go.WideShapes Go.ChangeAt Go.RowKit
set_option maxRecDepth 20000
theorem tel_no {s : Rv} {e i : Int} {k : List UInt8} (h : telE s e i k ≠ 0) : telR s e i k = (s, []) := if_pos h
theorem tel_yes {s : Rv} {e i : Int} {k : List UInt8} (h : telE s e i k = 0) : telR s e i k = relN k i (s.ix + 1) (telS s i k) (i - s.ix).toNat := if_neg (fun hh => hh h)
def ToldIs (w : World) (R g m : Nat) (v : Value) (s : Rv) (n : Nat) (e i : Int) (k : List UInt8) (ev : Ending) (w' : World) : Prop :=
  ∃ vo u, ev = .returned (.tuple #[vo, u]) ∧ ErrIs u (telE s e i k) ∧ Frs w' vo (telR s e i k).2 ∧ (∀ j, vo.ownBlock = some j → w.heap.size ≤ j) ∧ PGo w R g m v (telR s e i k).1 (n + 16448) w'
set_option maxHeartbeats 6400000 in
theorem ttold_any (w : World) (R : Nat) (s : Rv) (n g m : Nat) (v : Value) (ka : Option Addr) (kc : Nat) (ss : List BSl) (h : PAll w R s n g m v ka kc ss) (hok : s.ok) (hT : TTab w) (hhi : ∀ k, POwn R g m v k → 3 ≤ k) (hn : n ≤ 80000000) (e i : Int) (x : Option Addr) (cx : Nat) (k : List UInt8) (hx : Sees w x cx k) (hk : k.length ≤ 140737488355328) :
    Calls Tryz.prog 43 #[.pointer (some ⟨R, 0, none⟩), .int .i64 e, .int .i64 i, .slice x k.length cx] w fun ev w' => ToldIs w R g m v s n e i k ev w' := by
  have c11 : w.cell? ⟨R, 11, none⟩ = some (.int .i64 s.ep) := h.at'.cell 11 rfl
  have c13 : w.cell? ⟨R, 13, none⟩ = some (.int .i64 s.ix) := h.at'.cell 13 rfl
  have H : Hid (PAll w R s n g m v ka kc ss) := h
  have HT : Hid (TTab w) := hT
  have HX : Hid (Sees w x cx k) := hx
  have HHI : Hid (∀ k, POwn R g m v k → 3 ≤ k) := hhi
  have HOK : Hid s.ok := hok
  have NOT : Hid (∀ N : Int, (N == 0) = false → telE s e i k = N → ∀ w', Below w.heap.size w w' → ∀ t, ToldIs w R g m v s n e i k (.returned (.tuple #[.slice none 0 0, trefV t N])) w') := fun N hN hE w' hb t => by
    have h0 : telE s e i k ≠ 0 := by rw [hE]; simpa using hN
    refine ⟨_, _, rfl, .inr ⟨by rw [hE]; exact hN, t, by rw [hE]⟩, ?_, (fun j hj => by cases hj), ?_⟩
    · rw [tel_no h0]; exact Frs.nil w'
    · rw [tel_no h0]; exact (PGo.same (h.below hb) (Apart.of_below hb)).mono (by omega)
  clear h hT hx hhi hok
  go_enter Tryz.func43, Tryz.ntmps43
  by_cases h1 : s.ep = -1
  · have HE1 : Hid (telE s e i k = 6) := if_pos (.inl (by omega))
    rw [h1] at c11
    clear h1
    go_wp2_with fail
    refine (trefuse_some _ 6 rfl _).mono ?_
    rintro ev w' ⟨rfl, rfl⟩
    unfold trefV
    go_wp2
    go_ret2
    exact NOT.out 6 rfl HE1.out _ (Below.refl _ _) _
  · have d1 : (s.ep == -1) = false := by simpa using h1
    have hep : 0 ≤ s.ep := by rcases HOK.out.ep with h | h <;> omega
    by_cases h2 : s.ep = e
    · have d2 : (s.ep == e) = true := by simpa using h2
      have U1 : Hid (telE s e i k = if keyArg s i k = false then 1 else if i ≤ s.ix then 10 else (folP s.ix s.key i k : Int)) := if_neg (by omega)
      have KK := tiskey_ok w R s ka kc g H.out.at' i x k cx (by omega)
      go_wp2_with fail
      refine KK.mono ?_
      rintro ev w' ⟨rfl, hw'⟩
      subst hw'
      clear KK
      cases hka : keyArg s i k
      · have HE1 : Hid (telE s e i k = 1) := U1.out.trans (if_pos hka)
        clear hka U1
        go_wp2_with fail
        refine (trefuse_some _ 1 rfl _).mono ?_
        rintro ev w' ⟨rfl, rfl⟩
        unfold trefV
        go_wp2
        go_ret2
        exact NOT.out 1 rfl HE1.out _ (Below.refl _ _) _
      · have U2 : Hid (telE s e i k = if i ≤ s.ix then 10 else (folP s.ix s.key i k : Int)) := U1.out.trans (if_neg (by simp [hka]))
        have HKA : Hid (0 ≤ i ∧ i ≤ s.c.k ∧ k.length = 16) := keyArg_iff.1 hka
        clear U1 hka
        by_cases h3 : i ≤ s.ix
        · have HE1 : Hid (telE s e i k = 10) := U2.out.trans (if_pos h3)
          clear U2
          go_wp2_with fail
          refine (trefuse_some _ 10 rfl _).mono ?_
          rintro ev w' ⟨rfl, rfl⟩
          unfold trefV
          go_wp2
          go_ret2
          exact NOT.out 10 rfl HE1.out _ (Below.refl _ _) _
        · have U3 : Hid (telE s e i k = (folP s.ix s.key i k : Int)) := U2.out.trans (if_neg h3)
          have d3 : decide (i ≤ s.ix) = false := decide_eq_false h3
          have KG := tgoon_any w' R s n g m v ka kc ss H.out HT.out i x cx k HX.out hk
          clear U2
          go_wp2_with fail
          refine KG.mono ?_
          rintro ev w1 ⟨u, rfl, hE, hG⟩
          clear KG c11 c13
          rcases hE with ⟨hf, rfl⟩ | ⟨hf, t, rfl⟩
          · have hf0 : folP s.ix s.key i k = 0 := by omega
            rw [if_pos hf0] at hG
            have HZ : Hid (telE s e i k = 0) := U3.out.trans hf
            obtain ⟨v1, kb, kd, ss1, p1, a1', o1⟩ := id hG
            have hh1 : ∀ k, POwn R g m v1 k → 3 ≤ k := fun j hj => by
              rcases PGo.own (w := w') (R := R) (g := g) (m := m) o1 j hj with h | h
              · exact HHI.out j h
              · have := HHI.out R (.inl rfl); have := H.out.at'.lt; omega
            have hx0 : -1 ≤ s.ix ∧ s.ix ≤ 256 := by
              have h4 := okB_keys HOK.out.cfg
              rcases HOK.out.ep with h | h <;> omega
            have hk256 := okB_keys HOK.out.cfg
            obtain ⟨a0, a1, -⟩ := HKA.out
            obtain ⟨cnt, hcnt⟩ : ∃ cnt, cnt = (i - s.ix).toNat := ⟨_, rfl⟩
            have KR := trelease_ok w1 R (telS s i k) n g m v1 kb kd ss1 p1 (telS_ok HOK.out HZ.out) (hG.tabs HHI.out HT.out) hh1 (s.ix + 1) cnt (by omega) (by show i - (s.ix + 1) + 1 = _; omega) (by rcases HOK.out.ep with h | h <;> omega) hep hn
            have w1x : IntKind.i64.wrap (s.ix + 1) = s.ix + 1 := by rw [IntKind.wrap_i64]; omega
            have HA1 : Hid (Apart (POwn R g m v) w' w1 ∧ ∀ j, v1.ownBlock = some j → v.ownBlock = some j ∨ w'.heap.size ≤ j) := ⟨a1', o1⟩
            have HTR : Hid (telR s e i k = relN k i (s.ix + 1) (telS s i k) cnt) := by rw [hcnt]; exact tel_yes HZ.out
            have hc256 : cnt ≤ 257 := by omega
            clear hG p1 hh1 hf hf0 U3 a1' o1 hcnt
            go_wp2_with fail
            refine KR.mono ?_
            rintro ev w2 ⟨vo, rfl, hF, hO, hG2⟩
            have HF : Hid (Frs w2 vo (relN k i (s.ix + 1) (telS s i k) cnt).2 ∧ (∀ j, vo.ownBlock = some j → w1.heap.size ≤ j) ∧ PGo w1 R g m v1 (relN k i (s.ix + 1) (telS s i k) cnt).1 (n + 64 * cnt) w2) := ⟨hF, hO, hG2⟩
            clear hF hO hG2 KR
            go_wp2
            go_ret2
            refine ⟨_, _, rfl, .inl ⟨HZ.out, rfl⟩, by rw [HTR.out]; exact HF.out.1, fun j hj => ?_, ?_⟩
            · exact Nat.le_trans HA1.out.1.size (HF.out.2.1 j hj)
            · rw [HTR.out]
              obtain ⟨v2, k2, k3, ss2, q1, q2, q3⟩ := HF.out.2.2
              refine PGo.mono (n := n + 64 * cnt) ⟨v2, k2, k3, ss2, q1, HA1.out.1.trans q2 (PGo.own HA1.out.2), fun j hj => ?_⟩ (by omega)
              rcases q3 j hj with h | h
              · exact HA1.out.2 j h
              · exact .inr (Nat.le_trans HA1.out.1.size h)
          · have hf0 : ¬ folP s.ix s.key i k = 0 := by simpa using hf
            rw [if_neg hf0] at hG
            have HE1 : Hid (telE s e i k = (folP s.ix s.key i k : Int)) := U3.out
            have HG : Hid (PGo w' R g m v s n w1) := hG
            clear hG U3
            unfold trefV
            go_wp2
            go_ret2
            have h0 : telE s e i k ≠ 0 := by rw [HE1.out]; omega
            refine ⟨_, _, rfl, .inr ⟨by rw [HE1.out]; exact hf, t, by rw [HE1.out]; rfl⟩, ?_, (fun j hj => by cases hj), ?_⟩
            · rw [tel_no h0]; exact Frs.nil w1
            · rw [tel_no h0]; exact HG.out.mono (by omega)
    · have d2 : (s.ep == e) = false := by simpa using h2
      have HE1 : Hid (telE s e i k = 6) := if_pos (.inr (by omega))
      go_wp2_with fail
      refine (trefuse_some _ 6 rfl _).mono ?_
      rintro ev w' ⟨rfl, rfl⟩
      unfold trefV
      go_wp2
      go_ret2
      exact NOT.out 6 rfl HE1.out _ (Below.refl _ _) _
theorem ttell_any (w : World) (R : Nat) (s : Rv) (n : Nat) (F : Nat → Prop) (h : PM w R (s, n) F) (hT : TTab w) (hn : n ≤ 80000000) (e i : Int) (x : Option Addr) (cx : Nat) (k : List UInt8) (hx : Sees w x cx k) (hk : k.length ≤ 140737488355328) :
    Calls Tryz.prog 15 #[.pointer (some ⟨R, 0, none⟩), .int .i64 e, .int .i64 i, .slice x k.length cx] w fun ev w' => ∃ vo, ev = .returned (.tuple #[vo, .int .i64 (telE s e i k)]) ∧ Frs w' vo (telR s e i k).2 ∧ (∀ j, vo.ownBlock = some j → w.heap.size ≤ j) ∧ Left PM w F R ((telR s e i k).1, n + 16448) w' := by
  obtain ⟨g, m, v, ka, kc, ss, h, hok, hhi, rfl⟩ := h
  dsimp only at h hok
  have hM := tmade_ok w R g h.at'.c16
  have KA := ttold_any w R s n g m v ka kc ss h hok hT hhi hn e i x cx k hx hk
  have HT : Hid (TTab w) := hT
  have HO : Hid (s.ok ∧ (∀ k, POwn R g m v k → 3 ≤ k) ∧ R < w.heap.size) := ⟨hok, hhi, h.at'.lt⟩
  clear h hok hhi hT hx hk
  go_enter Tryz.func15, Tryz.ntmps15
  go_wp2_with fail
  refine hM.mono ?_
  rintro ev w1 ⟨rfl, hw1⟩
  subst hw1
  go_wp2_with fail
  refine KA.mono ?_
  rintro ev w2 ⟨vo, u, rfl, hE, hF, hO, hG⟩
  have KN := tnumber_any u _ hE w2 (hG.tabs HO.out.2.1 HT.out).1
  have HG : Hid (Frs w2 vo (telR s e i k).2 ∧ (∀ j, vo.ownBlock = some j → w1.heap.size ≤ j) ∧ PGo w1 R g m v (telR s e i k).1 (n + 16448) w2) := ⟨hF, hO, hG⟩
  clear KA hE hG hF hO hM
  go_wp2_with fail
  refine KN.mono ?_
  rintro ev w3 ⟨rfl, hb3⟩
  clear KN
  go_wp2
  go_ret2
  exact ⟨_, rfl, HG.out.1.below hb3, HG.out.2.1, (HG.out.2.2.below hb3).left (telR_ok HO.out.1 e i k) HO.out.2.1 HO.out.2.2⟩
theorem toffer_any (w : World) (R : Nat) (s : Rv) (n : Nat) (F : Nat → Prop) (h : PM w R (s, n) F) (hT : TTab w) (hn : n ≤ 80000000) (hlo : s.b.lost ≤ 1000000) (x : Option Addr) (cx : Nat) (b : List UInt8) (hx : Sees w x cx b) (hl : b.length ≤ 140737488351232) (M : Int) :
    Calls Tryz.prog 13 #[.pointer (some ⟨R, 0, none⟩), .slice x b.length cx, .int .i64 M] w fun ev w' => ev = .returned (.int .i64 (offE s b M)) ∧ Left PM w F R (offV s b M, n + 65) w' := by
  obtain ⟨g, m, v, ka, kc, ss, h, hok, hhi, rfl⟩ := h
  dsimp only at h hok
  have hM := tmade_ok w R g h.at'.c16
  have KA := toffered_any w R s n g m v ka kc ss h hn hlo x cx b hx hl M
  have HT : Hid (TTab w) := hT
  have HO : Hid (s.ok ∧ (∀ k, POwn R g m v k → 3 ≤ k) ∧ R < w.heap.size) := ⟨hok, hhi, h.at'.lt⟩
  clear h hok hhi hT hx hl
  go_enter Tryz.func13, Tryz.ntmps13
  go_wp2_with fail
  refine hM.mono ?_
  rintro ev w1 ⟨rfl, hw1⟩
  subst hw1
  go_wp2_with fail
  refine KA.mono ?_
  rintro ev w2 ⟨u, rfl, hE, hG⟩
  have KN := tnumber_any u _ hE w2 (hG.tabs HO.out.2.1 HT.out).1
  have HG : Hid (PGo w1 R g m v (offV s b M) (n + 65) w2) := hG
  clear KA hE hG hM
  go_wp2_with fail
  refine KN.mono ?_
  rintro ev w3 ⟨rfl, hb3⟩
  clear KN
  go_wp2
  go_ret
  exact ⟨rfl, (HG.out.below hb3).left (offV_ok HO.out.1 b M) HO.out.2.1 HO.out.2.2⟩
def TSolo (w W : World) (R : Nat) (s : Rv) (n : Nat) : Prop := ∃ F, PM W R (s, n) F ∧ Below w.heap.size w W ∧ ∀ k, F k → w.heap.size ≤ k
theorem TBorn.solo {w W : World} {R : Nat} {c : Cf} {me : Int} (h : TBorn w R c me W) : TSolo w W R (newR c me) 0 := by
  obtain ⟨F, h1, h2, h3⟩ := h; exact ⟨F, h1, h3, h2⟩
theorem TSolo.bel {w W : World} {R : Nat} {s : Rv} {n : Nat} (h : TSolo w W R s n) : Below w.heap.size w W := by
  obtain ⟨F, h1, h2, h3⟩ := h; exact h2
theorem TSolo.ok {w W : World} {R : Nat} {s : Rv} {n : Nat} (h : TSolo w W R s n) : s.ok := by
  obtain ⟨F, h1, h2, h3⟩ := h; exact h1.ok
theorem TSolo.below {w W W' : World} {R : Nat} {s : Rv} {n : Nat} (h : TSolo w W R s n) (hb : Below W.heap.size W W') : TSolo w W' R s n := by
  obtain ⟨F, h1, h2, h3⟩ := h
  exact ⟨F, h1.below hb, h2.trans (hb.mono h2.size), h3⟩
theorem TSolo.mono {w W : World} {R : Nat} {s : Rv} {n n' : Nat} (h : TSolo w W R s n) (hn : n ≤ n') : TSolo w W R s n' := by
  obtain ⟨F, h1, h2, h3⟩ := h
  exact ⟨F, h1.mono hn, h2, h3⟩
theorem Left.solo {w W W' : World} {R : Nat} {F : Nat → Prop} {s : Rv} {n : Nat} (h : Left PM W F R (s, n) W') (hb : Below w.heap.size w W) (hF : ∀ k, F k → w.heap.size ≤ k) : TSolo w W' R s n := by
  obtain ⟨F', h1, h2, h3⟩ := h
  exact ⟨F', h1, h2.below hb hF hb.size, fun k hk => (h3 k hk).elim (hF k) fun h => Nat.le_trans hb.size h⟩
theorem TSolo.anchor {w W : World} {R : Nat} {s : Rv} {n : Nat} (h : TSolo w W R s n) (hT : TTab w) (hn : n ≤ 80000000) (e t i : Int) (x : Option Addr) (cx : Nat) (k : List UInt8) (hx : Sees W x cx k) (hk : k.length ≤ 140737488355328) :
    Calls Tryz.prog 11 #[.pointer (some ⟨R, 0, none⟩), .int .i64 e, .int .i64 t, .int .i64 i, .slice x k.length cx] W fun ev w' => ev = .returned (.int .i64 (ancE s e t i k)) ∧ TSolo w w' R (ancV s e t i k) (n + 64) := by
  obtain ⟨F, h1, h2, h3⟩ := h
  exact (tanchor_any W R s n F h1 (hT.below h2) (by omega) e t i x cx k hx hk).mono fun _ _ ⟨he, hl⟩ => ⟨he, Left.solo hl h2 h3⟩
theorem TSolo.offer {w W : World} {R : Nat} {s : Rv} {n : Nat} (h : TSolo w W R s n) (hT : TTab w) (hn : n ≤ 80000000) (hlo : s.b.lost ≤ 1000000) (x : Option Addr) (cx : Nat) (b : List UInt8) (hx : Sees W x cx b) (hl : b.length ≤ 140737488351232) (M : Int) :
    Calls Tryz.prog 13 #[.pointer (some ⟨R, 0, none⟩), .slice x b.length cx, .int .i64 M] W fun ev w' => ev = .returned (.int .i64 (offE s b M)) ∧ TSolo w w' R (offV s b M) (n + 65) := by
  obtain ⟨F, h1, h2, h3⟩ := h
  exact (toffer_any W R s n F h1 (hT.below h2) hn hlo x cx b hx hl M).mono fun _ _ ⟨he, hl⟩ => ⟨he, Left.solo hl h2 h3⟩
theorem TSolo.tell {w W : World} {R : Nat} {s : Rv} {n : Nat} (h : TSolo w W R s n) (hT : TTab w) (hn : n ≤ 80000000) (e i : Int) (x : Option Addr) (cx : Nat) (k : List UInt8) (hx : Sees W x cx k) (hk : k.length ≤ 140737488355328) :
    Calls Tryz.prog 15 #[.pointer (some ⟨R, 0, none⟩), .int .i64 e, .int .i64 i, .slice x k.length cx] W fun ev w' => ∃ vo, ev = .returned (.tuple #[vo, .int .i64 (telE s e i k)]) ∧ Frs w' vo (telR s e i k).2 ∧ (∀ j, vo.ownBlock = some j → W.heap.size ≤ j) ∧ TSolo w w' R (telR s e i k).1 (n + 16448) := by
  obtain ⟨F, h1, h2, h3⟩ := h
  exact (ttell_any W R s n F h1 (hT.below h2) hn e i x cx k hx hk).mono fun _ _ ⟨vo, he, hf, ho, hl⟩ => ⟨vo, he, hf, ho, Left.solo hl h2 h3⟩
theorem TSolo.epoch {w W : World} {R : Nat} {s : Rv} {n : Nat} (h : TSolo w W R s n) : Calls Tryz.prog 18 #[.pointer (some ⟨R, 0, none⟩)] W fun e w' => e = .returned (.int .i64 s.ep) ∧ w' = W := by
  obtain ⟨F, ⟨g, m, v, ka, kc, ss, h, _⟩, _, _⟩ := h; exact tepoch_ok W R s ka kc g h.at'
theorem TSolo.last {w W : World} {R : Nat} {s : Rv} {n : Nat} (h : TSolo w W R s n) : Calls Tryz.prog 21 #[.pointer (some ⟨R, 0, none⟩)] W fun e w' => e = .returned (.int .i64 s.last) ∧ w' = W := by
  obtain ⟨F, ⟨g, m, v, ka, kc, ss, h, _⟩, _, _⟩ := h; exact tlast_ok W R s ka kc g h.at'
theorem TSolo.waiting {w W : World} {R : Nat} {s : Rv} {n : Nat} (h : TSolo w W R s n) : Calls Tryz.prog 20 #[.pointer (some ⟨R, 0, none⟩)] W fun e w' => e = .returned (.int .i64 (s.b.L.length : Int)) ∧ w' = W := by
  obtain ⟨F, ⟨g, m, v, ka, kc, ss, h, _⟩, _, _⟩ := h; exact twaiting_ok W R s n g m v ka kc ss h
def usC : Cf := ⟨3, 0, 400, 1, 16, 400, 400, 1, 2, 8⟩
theorem usC_ok : okB usC = true := by decide
theorem usual_ok (w : World) : Calls Tryz.prog 22 #[] w fun e w' => e = .returned (.agg (cfC usC)) ∧ Below w.heap.size w w' := by
  have hb : ∀ W, (Instr.build 23 #[(0, .int .i64 3), (2, .int .i64 400), (3, .int .i64 1), (4, .int .i64 16), (5, .int .i64 400), (6, .int .i64 400), (7, .int .i64 1), (8, .int .i64 2), (9, .int .i64 8)]).run Tryz.prog W = .ok (.agg (cfC usC)) W := fun W => by
    kernel_rfl
  have h0 : CfAt (w.alloc (.cells (cfC Cf.zero) 23)) w.heap.size Cf.zero := CfAt.new w _
  have HB : Hid ((Instr.build 23 #[(0, .int .i64 3), (2, .int .i64 400), (3, .int .i64 1), (4, .int .i64 16), (5, .int .i64 400), (6, .int .i64 400), (7, .int .i64 1), (8, .int .i64 2), (9, .int .i64 8)]).run Tryz.prog (w.alloc (.cells (cfC Cf.zero) 23)) = .ok (.agg (cfC usC)) (w.alloc (.cells (cfC Cf.zero) 23))) := hb _
  have HS : Hid ((Instr.storeAt 23 (.pointer (some ⟨w.heap.size, 0, none⟩)) (.agg (cfC usC))).run Tryz.prog (w.alloc (.cells (cfC Cf.zero) 23)) = .ok () ((w.alloc (.cells (cfC Cf.zero) 23)).setRow w.heap.size (cfC usC))) := h0.stores usC
  have HE : Hid (CfAt ((w.alloc (.cells (cfC Cf.zero) 23)).setRow w.heap.size (cfC usC)) w.heap.size usC ∧ Below w.heap.size w ((w.alloc (.cells (cfC Cf.zero) 23)).setRow w.heap.size (cfC usC))) :=
    ⟨h0.stored usC, below_setRow (Go.Joins.below_alloc1 _ _) (Nat.le_refl _) _⟩
  clear hb h0
  go_enter Tryz.func22, Tryz.ntmps22
  go_wp2_with (first | (refine wpList_build_run rfl 23 _ rfl [(0, .int .i64 3), (2, .int .i64 400), (3, .int .i64 1), (4, .int .i64 16), (5, .int .i64 400), (6, .int .i64 400), (7, .int .i64 1), (8, .int .i64 2), (9, .int .i64 8)] _ rfl HB.out ?_) | (refine wpList_store_run rfl 23 _ _ rfl _ _ rfl rfl HS.out ?_) | fail)
  refine bodyPost_ret (res_cf rfl rfl HE.out.1) rfl ?_
  exact ⟨rfl, HE.out.2⟩
theorem wpList_gmake_run {P : Program} {ops : Array Oper} {rest : List Oper} {o : Oper} {a : Act} {w w' : World} {Q : Exit → Act → World → Prop} (hw : Region.wanted o (yielded ops a.tmps) = true) (t : TypeId) (l c : Operand) (ho : o.op = .makeSlice t l c)
    (vl vc r : Value) (hl : a.eval l = vl) (hc : a.eval c = vc) (hrun : (Instr.makeSlice t vl vc).run P w = .ok r w') (h : wpList P ops Q rest (a.put o.dst r) w') : wpList P ops Q (o :: rest) a w := by
  simp only [wpList, hw, if_true]
  left
  unfold Oper.wp execOp
  simp only [ho, hl, hc, Sem.run_bind, hrun, Result.andThen_ok, Sem.run_pure]
  exact h
def nought : List UInt8 := List.replicate 16 0
theorem anc_first : ancE (newR usC 1) 1 2 0 nought = 0 ∧ (ancV (newR usC 1) 1 2 0 nought).ep = 1 := by decide +kernel
set_option maxHeartbeats 1600000 in
theorem tawake_ok (w : World) (hT : TTab w) : Calls Tryz.prog 10 #[] w fun e w' => e = .returned (.bool true) ∧ Below w.heap.size w w' := by
  obtain ⟨i5, hi, hz0, hz1, hz2⟩ := info_parts Tryz.info5
  have k1 := usual_ok w
  have HT : Hid (TTab w) := hT
  clear hT
  go_enter Tryz.func10, Tryz.ntmps10
  go_wp2_with fail
  refine k1.mono ?_
  rintro e w1 ⟨rfl, hb1⟩
  have hz3 : 3 ≤ w1.heap.size := Nat.le_trans HT.out.2.2.two hb1.size
  have k2 := tnew_ok w1 usC 1 hz3 usC_ok (by decide) (by decide)
  clear k1
  go_wp2_with fail
  refine k2.mono ?_
  rintro e w2 ⟨R, rfl, hB⟩
  have hS := hB.solo
  obtain ⟨w3, hrun, hown, hgr⟩ := run_make_full (P := Tryz.prog) w2 w2.heap.size 24 5 i5 (.int .u8 0) 1 Tryz.underlying24 hi hz0 hz1 .i64 .i64 16 (by rw [hz2]; decide) (by decide) (Nat.le_refl _)
  have hb3 : Below w2.heap.size w2 w3 := (Below.refl _ _).grown hgr (Nat.le_refl _) (by simp)
  have hown2 : w3.ownsRow w2.heap.size 5 1 (.slice (some ⟨w2.heap.size, 0, none⟩) 16 16) 16 (nought.map cellOf) := by
    unfold nought; rw [← made_bytes]; exact hown
  have hsee : Sees w3 (some ⟨w2.heap.size, 0, none⟩) 16 nought := by
    obtain ⟨a, cap, he, h⟩ := Sees.of_own hown2
    cases he
    exact h
  have k3 := (hS.below hb3).anchor (HT.out.below hb1) (by omega) 1 2 0 _ _ nought hsee (by decide)
  rw [anc_first.1, show nought.length = 16 from rfl] at k3
  have HM : Hid ((Instr.makeSlice 24 (.int .i64 16) (.int .i64 16)).run Tryz.prog w2 = .ok (.slice (some ⟨w2.heap.size, 0, none⟩) 16 16) w3) := hrun
  have HB1 : Hid (Below w.heap.size w w1) := hb1
  clear k2 hB hS hown hgr hown2 hsee hrun hi hz0 hz1 hz2 hb1 hb3 hz3
  go_wp2_with (first | (refine wpList_gmake_run rfl 24 _ _ rfl _ _ _ rfl rfl HM.out ?_) | fail)
  refine k3.mono ?_
  rintro e w4 ⟨rfl, hS4⟩
  have k4 := hS4.epoch
  rw [anc_first.2] at k4
  have HE : Hid (Below w.heap.size w w4) := HB1.out.trans (hS4.bel.mono HB1.out.size)
  clear k3 hS4 HM
  go_wp2_with fail
  refine k4.mono ?_
  rintro e w5 ⟨rfl, rfl⟩
  clear k4
  go_wp2
  go_ret
  exact ⟨rfl, HE.out⟩
def dF (me ep r : Int) (k0 body : List UInt8) : Fr := ⟨1, me, 0, ep, 0, r, 0, 0, 0, 0, k0, body, []⟩
theorem dF_tag {me ep r : Int} {k0 body key : List UInt8} (h1 : 0 ≤ me ∧ me ≤ 7) (h2 : 0 ≤ ep ∧ ep ≤ 65535) (h3 : 0 ≤ r ∧ r ≤ 1048576) (h4 : k0.length = 16) (h5 : body.length ≤ 16) (h6 : key.length = 16) : tagB key (dF me ep r k0 body) = true := by
  have hn : numsB (dF me ep r k0 body) = true := (numsB_iff _).2 (by
    refine ⟨h1, ?_, h2, ?_, h3, ?_, ?_, ?_⟩ <;> (show (0 : Int) ≤ 0 ∧ (0 : Int) ≤ _; omega))
  rw [tagB_iff]
  refine ⟨h6, ?_⟩
  unfold coreB
  rw [hn]
  simp [dF, h4, h5]
def slB (key : List UInt8) (F : Fr) : List UInt8 := putL (sealF key F)
theorem sl_get {key : List UInt8} {F : Fr} (hb : tagB key F = true) (hn : F.n < 18446744073709551616) : getE (slB key F) = 0 ∧ getF (slB key F) = sealF key F ∧ (slB key F).length ≤ 53 ∧ sealR key F = slB key F ∧ tagE key F = 0 := by
  have hr := seal_right key F hb
  have h := get_put (sealF key F) hn hr
  exact ⟨h.1, h.2, (put_len _ hr).2.1, if_pos hb, if_pos hb⟩
theorem sl_holds {key : List UInt8} {F : Fr} (hb : tagB key F = true) : holdsB key (sealF key F) = true := by
  unfold holdsB sealF
  rw [tagB_other, tagL_other, hb]
  simp
theorem off_sealed {s : Rv} {r M : Int} {k0 body key : List UInt8} (hb : tagB key (dF s.me s.ep r k0 body) = true) (he : 0 ≤ s.ep) (hl : s.last < r) : offB s (slB key (dF s.me s.ep r k0 body)) M = rsecN s.c s.me s.st r M := by
  obtain ⟨g1, g2, _⟩ := sl_get hb (by show (0 : Nat) < _; decide)
  unfold offB
  rw [if_neg (by simp [g1]), g2, if_neg, if_neg, if_neg]
  · rfl
  · show ¬ r ≤ s.last; omega
  · show ¬ (s.ep < 0 ∨ s.ep ≠ s.ep); omega
  · show ¬ ((1 : Int) ≠ 1 ∨ s.me ≠ s.me); omega
theorem anc_new {c : Cf} {me e t : Int} {k : List UInt8} (hk : k.length = 16) (he : 0 ≤ e ∧ e ≤ 65535) (ht : 0 ≤ t ∧ t < 1048576) (hc : 0 ≤ c.k) : ancE (newR c me) e t 0 k = 0 ∧ ancV (newR c me) e t 0 k = ⟨c, me, e, t, 0, k, ⟨c.p.toNat, 0, []⟩, -1⟩ := by
  have ha : ancArg (newR c me) e t 0 k = true := ancArg_iff.2 ⟨he.1, he.2, ht.1, ht.2, by omega, hc, hk⟩
  have hn : ¬ ancArg (newR c me) e t 0 k = false := by simp [ha]
  have h1 : ¬ e < (newR c me).ep := by show ¬ e < -1; omega
  have h2 : (newR c me).ep < e := by show -1 < e; omega
  unfold ancE ancV
  rw [if_neg hn, if_neg hn, if_neg h1, if_neg h1, if_pos h2, if_pos h2]
  exact ⟨rfl, rfl⟩
theorem put_first {p : Nat} (hp : 1 ≤ p) {e i : Int} {x : List UInt8} (ha : argB e i x = true) : bputE ⟨p, 0, []⟩ e i x = 0 ∧ putV ⟨p, 0, []⟩ e i x = ⟨p, 0, [⟨e, i, x⟩]⟩ := by
  have h0 : ¬ (0 = p) := by omega
  simp [bputE, putV, ha, heldB, h0]
theorem rsec_us {me bg ii M : Int} (hm : 0 ≤ me ∧ me < 3) (hb : 0 ≤ bg ∧ bg < 50) (hi : 1 ≤ ii ∧ ii ≤ 16) : rsecN usC me bg (bg + ii) M = (if 0 ≤ M ∧ M ≤ 1099511627776 then (if whN usC me bg ii ≤ M then 12 else 0) else 1) ∧ whB usC me bg ii = true ∧ keyB usC (bg + ii - bg) = true ∧ sinB usC bg (bg + ii) = true := by
  have e1 : bg + ii - bg = ii := by omega
  have s1 : sinB usC bg (bg + ii) = true := by
    simp only [sinB, roundB, Bool.and_eq_true, decide_eq_true_eq]
    exact ⟨⟨usC_ok, by omega⟩, by omega⟩
  have k1 : keyB usC ii = true := by
    simp only [keyB, decide_eq_true_eq]
    exact ⟨hi.1, by show ii ≤ 16; exact hi.2⟩
  have w1 : whB usC me bg ii = true := by
    rw [wh_of usC_ok hb.1 (by omega) hm.1 (by show me < 3; omega) hi.1 (by show ii ≤ 16; omega), decide_eq_true_eq]
    show bg + ii + 1 < 1048576; omega
  refine ⟨?_, w1, by rw [e1]; exact k1, s1⟩
  unfold rsecN secN
  rw [if_pos ⟨hm.1, by show me < 3; omega⟩, if_pos s1, e1, if_pos k1, if_pos w1]
  simp only [timeB, decide_eq_true_eq]
theorem cf_stored (w1 : World) (c : Cf) : ∃ W3, (Instr.storeAt 23 (.pointer (some ⟨w1.heap.size, 0, none⟩)) (.agg (cfC c))).run Tryz.prog (w1.alloc (.cells #[.int .i64 0, .int .i64 0, .int .i64 0, .int .i64 0, .int .i64 0, .int .i64 0, .int .i64 0, .int .i64 0, .int .i64 0, .int .i64 0] 23)) = .ok () W3 ∧ CfAt W3 w1.heap.size c ∧ Below w1.heap.size w1 W3 := by
  have h2 : CfAt (w1.alloc (.cells (cfC Cf.zero) 23)) w1.heap.size Cf.zero := CfAt.new w1 _
  exact ⟨_, h2.stores c, h2.stored c, below_setRow (Go.Joins.below_alloc1 _ _) (Nat.le_refl _) _⟩
theorem u8_in {n : Int} (h : (Lit.int .u8 n).wf = true) : 0 ≤ n ∧ n < 256 := by
  simp [Lit.wf, IntKind.min, IntKind.max, IntKind.signed, IntKind.bits] at h
  omega
theorem dF_build (w : World) (me ep r : Int) (k0 : List UInt8) (hk : k0.length = 16) (x : Option Addr) (cx : Nat) : (Instr.build 61 #[(0, .int .i64 1), (1, .int .i64 me), (3, .int .i64 ep), (5, .int .i64 r), (10, .slice x 16 cx)]).run Tryz.prog w = .ok (.agg (frC (dF me ep r k0 []) ⟨x, cx, none, 0, none, 0⟩)) w := by
  have e : frC (dF me ep r k0 []) ⟨x, cx, none, 0, none, 0⟩ = #[.int .i64 1, .int .i64 me, .int .i64 0, .int .i64 ep, .int .i64 0, .int .i64 r, .int .u64 0, .int .i64 0, .int .i64 0, .int .i64 0, .slice x 16 cx, .slice none 0 0, .slice none 0 0] := by
    simp [frC, frL, dF, hk]
  rw [e]
  exact run_build w 61 _ _ (by kernel_rfl)
end Go.Proofs.YtmffplhaclnehaaGreatDoor
