/-
  What a receiver releases when keys of one chain are told, over plain values: only what holds, rising; and all of it where each came in time. No contract here.
-/
import Derived.Test.YtmffplhaclnehaaGreatDoorTesQ
namespace Go.Proofs.YtmffplhaclnehaaGreatDoor
set_option maxRecDepth 20000
def lastR (l : Int) : List Fr → Int
  | [] => l
  | F :: t => lastR F.r t
def riseR (l : Int) : List Fr → Prop
  | [] => True
  | F :: t => l < F.r ∧ riseR F.r t
theorem lastR_snoc (F : Fr) : ∀ (L : List Fr) (l : Int), lastR l (L ++ [F]) = F.r
  | [], _ => rfl
  | G :: t, _ => lastR_snoc F t G.r
theorem riseR_snoc (F : Fr) : ∀ (L : List Fr) (l : Int), riseR l (L ++ [F]) ↔ riseR l L ∧ lastR l L < F.r
  | [], l => by simp [riseR, lastR]
  | G :: t, l => by
    show (l < G.r ∧ riseR G.r (t ++ [F])) ↔ (l < G.r ∧ riseR G.r t) ∧ lastR G.r t < F.r
    rw [riseR_snoc F t G.r, and_assoc]
theorem riseR_at : ∀ (L : List Fr) (l : Int) (m : Nat) (F : Fr), riseR l L → L[m]? = some F → lastR l (L.take m) < F.r ∧ lastR l (L.take (m + 1)) = F.r
  | [], _, _, _, _, h => by simp at h
  | G :: t, l, 0, F, hr, h => by
    obtain rfl : G = F := by simpa using h
    exact ⟨hr.1, rfl⟩
  | G :: t, l, m + 1, F, hr, h => riseR_at t G.r m F hr.2 (by simpa using h)
def GoodF (me st j : Int) (k : List UInt8) (F : Fr) : Prop := F.f = me ∧ F.n < 18446744073709551616 ∧ ∃ i, 1 ≤ i ∧ i ≤ j ∧ F.r = st + i ∧ holdsB (backP k (j - i)).1 F = true
theorem freeL_some {L : List (List UInt8)} {k : List UInt8} {last : Int} {F : Fr} (h : freeL L k last = some F) : (∃ x ∈ L, F = getF x) ∧ holdsB k F = true ∧ last < F.r := by
  unfold freeL at h
  cases hf : (L.map getF).find? (fun F => holdsB k F) with
  | none => rw [hf] at h; cases h
  | some G =>
    rw [hf] at h
    dsimp only at h
    split at h
    · cases h
    · rename_i hr
      cases h
      have h1 := List.mem_of_find?_eq_some hf
      have h2 := List.find?_some hf
      obtain ⟨x, hx, e⟩ := List.mem_map.1 h1
      exact ⟨⟨x, hx, e.symm⟩, h2, by omega⟩
theorem freeR_good {s : Rv} (h : s.ok) (i : Int) (k : List UInt8) : riseR s.last (freeR s i k).2 ∧ (freeR s i k).1.last = lastR s.last (freeR s i k).2 ∧ ∀ F ∈ (freeR s i k).2, F.f = s.me ∧ F.n < 18446744073709551616 ∧ F.r = s.st + i ∧ holdsB k F = true := by
  unfold freeR
  cases hf : freeL (btakeL s.b (s.ep, i)) k s.last with
  | none => exact ⟨trivial, rfl, fun F hF => by simp at hF⟩
  | some G =>
    obtain ⟨⟨x, hx, rfl⟩, h2, h3⟩ := freeL_some hf
    obtain ⟨c1, c2, c3⟩ := h.cell i x hx
    refine ⟨⟨h3, trivial⟩, rfl, fun F hF => ?_⟩
    obtain rfl := List.mem_singleton.1 hF
    exact ⟨c3, get_n x, c2, h2⟩
theorem riseR_app : ∀ (L M : List Fr) (l : Int), riseR l L → riseR (lastR l L) M → riseR l (L ++ M)
  | [], _, _, _, h => h
  | G :: t, M, _, h, hm => ⟨h.1, riseR_app t M G.r h.2 hm⟩
theorem lastR_app : ∀ (L M : List Fr) (l : Int), lastR l (L ++ M) = lastR (lastR l L) M
  | [], _, _ => rfl
  | G :: t, M, _ => lastR_app t M G.r
theorem relN_good {s : Rv} (h : s.ok) (k : List UInt8) (j i0 : Int) (h0 : 1 ≤ i0) : ∀ n : Nat, i0 + n ≤ j + 1 → riseR s.last (relN k j i0 s n).2 ∧ (relN k j i0 s n).1.last = lastR s.last (relN k j i0 s n).2 ∧ ∀ F ∈ (relN k j i0 s n).2, GoodF s.me s.st j k F
  | 0, _ => ⟨trivial, rfl, fun F hF => by simp [relN] at hF⟩
  | n + 1, hn => by
    obtain ⟨h1, h2, h3⟩ := relN_good h k j i0 h0 n (by omega)
    obtain ⟨g1, g2, g3⟩ := freeR_good (relN_ok h k j i0 n) (i0 + n) (backP k (j - (i0 + n))).1
    obtain ⟨_, s2, _, s4, _⟩ := relN_same k j i0 s n
    simp only [relN]
    rw [h2] at g1 g2
    refine ⟨riseR_app _ _ _ h1 g1, by rw [g2, lastR_app], fun F hF => ?_⟩
    rcases List.mem_append.1 hF with hF | hF
    · exact h3 F hF
    · obtain ⟨f1, f2, f3, f4⟩ := g3 F hF
      exact ⟨by rw [f1, s2], f2, i0 + n, by omega, by omega, by rw [f3, s4], f4⟩
theorem telR_good {s : Rv} (h : s.ok) (e j : Int) (k : List UInt8) : riseR s.last (telR s e j k).2 ∧ (telR s e j k).1.last = lastR s.last (telR s e j k).2 ∧ ∀ F ∈ (telR s e j k).2, GoodF s.me s.st j k F := by
  unfold telR
  split
  · exact ⟨trivial, rfl, fun F hF => by simp at hF⟩
  · rename_i h0
    have hz := Decidable.not_not.1 h0
    obtain ⟨h1, h2, h3, h4, h5, h6, h7⟩ := telE_zero hz
    have hx : 0 ≤ s.ix := by rcases h.ep with g | ⟨_, _, _, _, g, _⟩ <;> omega
    exact relN_good (telS_ok h hz) k j (s.ix + 1) (by omega) (j - s.ix).toNat (by omega)
theorem telR_same {s : Rv} (e j : Int) (k : List UInt8) : (telR s e j k).1.c = s.c ∧ (telR s e j k).1.me = s.me ∧ (telR s e j k).1.ep = s.ep ∧ (telR s e j k).1.st = s.st := by
  unfold telR
  split
  · exact ⟨rfl, rfl, rfl, rfl⟩
  · obtain ⟨a, b, c, d, _⟩ := relN_same k j (s.ix + 1) (telS s j k) (j - s.ix).toNat
    exact ⟨a, b, c, d⟩
theorem offV_same (s : Rv) (x : List UInt8) (m : Int) : (offV s x m).c = s.c ∧ (offV s x m).me = s.me ∧ (offV s x m).ep = s.ep ∧ (offV s x m).st = s.st ∧ (offV s x m).last = s.last := by
  unfold offV
  split <;> exact ⟨rfl, rfl, rfl, rfl, rfl⟩
theorem back_key (last : List UInt8) (hl : last.length = 16) (j i : Int) (h1 : 0 ≤ i) (h2 : i ≤ j) (h3 : j ≤ 16) : (backP (backL (16 - j.toNat) last) (j - i)).1 = backL (16 - i.toNat) last := by
  unfold backP
  rw [if_pos ⟨backL_len _ _ hl, by omega, by omega⟩]
  dsimp only
  rw [← backL_add, show (j - i).toNat + (16 - j.toNat) = 16 - i.toNat by omega]
theorem GoodF.law {me st j : Int} {last : List UInt8} (hl : last.length = 16) (hj : j ≤ 16) {F : Fr} (h : GoodF me st j (backL (16 - j.toNat) last) F) : F.f = me ∧ F.n < 18446744073709551616 ∧ st < F.r ∧ F.r - st ≤ j ∧ ∃ i : Nat, 1 ≤ i ∧ i ≤ 16 ∧ F.r = st + i ∧ holdsB (backL (16 - i) last) F = true := by
  obtain ⟨h1, h2, i, h3, h4, h5, h6⟩ := h
  rw [back_key last hl j i (by omega) h4 hj] at h6
  exact ⟨h1, h2, by omega, by omega, i.toNat, by omega, by omega, by omega, h6⟩
def hnF (me : Int) (k0 : List UInt8) (body : Nat → List UInt8) (i : Nat) : Fr := dF me 1 (i : Int) k0 (body i)
def hnB (me : Int) (last : List UInt8) (body : Nat → List UInt8) (i : Nat) : List UInt8 := slB (backL (16 - i) last) (hnF me (backL 16 last) body i)
def itsH (B : Nat → List UInt8) : Nat → Nat → List It
  | _, 0 => []
  | lo, m + 1 => ⟨1, (lo : Int), B lo⟩ :: itsH B (lo + 1) m
theorem itsH_snoc (B : Nat → List UInt8) : ∀ (m lo : Nat), itsH B lo m ++ [⟨1, ((lo + m : Nat) : Int), B (lo + m)⟩] = itsH B lo (m + 1)
  | 0, lo => rfl
  | m + 1, lo => by
    show _ :: (itsH B (lo + 1) m ++ _) = _ :: itsH B (lo + 1) (m + 1)
    rw [← itsH_snoc B m (lo + 1), show lo + (m + 1) = lo + 1 + m by omega]
theorem itsH_len (B : Nat → List UInt8) : ∀ (m lo : Nat), (itsH B lo m).length = m
  | 0, _ => rfl
  | m + 1, lo => by simp [itsH, itsH_len B m (lo + 1)]
theorem itsH_mem (B : Nat → List UInt8) : ∀ (m lo : Nat) (x : It), x ∈ itsH B lo m → ∃ i : Nat, lo ≤ i ∧ i < lo + m ∧ x = ⟨1, (i : Int), B i⟩
  | 0, _, _, h => by simp [itsH] at h
  | m + 1, lo, x, h => by
    rcases List.mem_cons.1 h with rfl | h
    · exact ⟨lo, Nat.le_refl _, by omega, rfl⟩
    · obtain ⟨i, h1, h2, h3⟩ := itsH_mem B m (lo + 1) x h
      exact ⟨i, by omega, by omega, h3⟩
theorem itsH_rest (B : Nat → List UInt8) (lo m i : Nat) (h : i < lo) : (itsH B lo m).filter (fun x => !isK (1, (i : Int)) x) = itsH B lo m ∧ (itsH B lo m).filter (isK (1, (i : Int))) = [] := by
  have hn : ∀ x ∈ itsH B lo m, isK (1, (i : Int)) x = false := fun x hx => by
    obtain ⟨j, h1, h2, rfl⟩ := itsH_mem B m lo x hx
    rw [← Bool.not_eq_true, isK_iff]
    intro e
    have := congrArg Prod.snd e
    dsimp only [It.k] at this
    omega
  exact ⟨List.filter_eq_self.2 fun x hx => by rw [hn x hx]; rfl, List.filter_eq_nil_iff.2 fun x hx => by rw [hn x hx]; simp⟩
theorem itsH_take (B : Nat → List UInt8) (p l lo m : Nat) : btakeL ⟨p, l, itsH B lo (m + 1)⟩ (1, (lo : Int)) = [B lo] ∧ takeV ⟨p, l, itsH B lo (m + 1)⟩ (1, (lo : Int)) = ⟨p, l, itsH B (lo + 1) m⟩ := by
  have h1 : isK (1, (lo : Int)) ⟨1, (lo : Int), B lo⟩ = true := isK_iff.2 rfl
  obtain ⟨h2, h3⟩ := itsH_rest B (lo + 1) m lo (by omega)
  unfold btakeL takeV
  dsimp only [itsH]
  rw [List.filter_cons_of_pos h1, List.filter_cons_of_neg (by simp [h1]), h2, h3]
  exact ⟨rfl, rfl⟩
def hnR (me : Int) (last : List UInt8) (body : Nat → List UInt8) (n : Nat) : Rv := ⟨usC, me, 1, 0, 0, backL 16 last, ⟨8, 0, itsH (hnB me last body) 1 n⟩, -1⟩
theorem hn_tag {me : Int} (hme : 0 ≤ me ∧ me < 3) {last : List UInt8} (hl : last.length = 16) {body : Nat → List UInt8} {i : Nat} (hb : (body i).length ≤ 16) (hi : i ≤ 16) : tagB (backL (16 - i) last) (hnF me (backL 16 last) body i) = true :=
  dF_tag (by omega) (by omega) (by omega) (backL_len _ _ hl) hb (backL_len _ _ hl)
theorem hn_get {me : Int} (hme : 0 ≤ me ∧ me < 3) {last : List UInt8} (hl : last.length = 16) {body : Nat → List UInt8} {i : Nat} (hb : (body i).length ≤ 16) (hi : i ≤ 16) :
    getE (hnB me last body i) = 0 ∧ getF (hnB me last body i) = sealF (backL (16 - i) last) (hnF me (backL 16 last) body i) ∧ (hnB me last body i).length ≤ 53 ∧ (getF (hnB me last body i)).r = i ∧ holdsB (backL (16 - i) last) (getF (hnB me last body i)) = true := by
  have h := hn_tag hme hl hb hi
  obtain ⟨g1, g2, g3, _, _⟩ := sl_get h (by show (0 : Nat) < _; decide)
  refine ⟨g1, g2, g3, ?_, ?_⟩
  · show (getF (slB _ _)).r = _
    rw [g2]; rfl
  · show holdsB _ (getF (slB _ _)) = true
    rw [g2]; exact sl_holds h
theorem put_next {p : Nat} {L : List It} {e i : Int} {x : List UInt8} (ha : argB e i x = true) (hh : heldB L x = false) (hl : L.length < p) : bputE ⟨p, 0, L⟩ e i x = 0 ∧ putV ⟨p, 0, L⟩ e i x = ⟨p, 0, L ++ [⟨e, i, x⟩]⟩ := by
  have h0 : ¬ (L.length = p) := by omega
  simp [bputE, putV, ha, hh, h0]
theorem off_next {me : Int} {k0 b : List UInt8} {L : List It} {r : Int} (hB : offB ⟨usC, me, 1, 0, 0, k0, ⟨8, 0, L⟩, -1⟩ b 0 = 0) (he : (getF b).e = 1) (hr : (getF b).r = r) (hi : idxN usC 0 r = r) (ha : argB 1 r b = true) (hh : heldB L b = false) (hl : L.length < 8) :
    offE ⟨usC, me, 1, 0, 0, k0, ⟨8, 0, L⟩, -1⟩ b 0 = 0 ∧ offV ⟨usC, me, 1, 0, 0, k0, ⟨8, 0, L⟩, -1⟩ b 0 = ⟨usC, me, 1, 0, 0, k0, ⟨8, 0, L ++ [⟨1, r, b⟩]⟩, -1⟩ := by
  have hp := put_next ha hh hl
  unfold offE offV
  rw [if_neg (fun h => h hB), if_neg (fun h => h hB), he, hr]
  dsimp only
  rw [hi]
  exact ⟨hp.1, by rw [hp.2]⟩
theorem wh_pos {me : Int} (hme : 0 ≤ me ∧ me < 3) (n : Nat) : ¬ whN usC me 0 ((n + 1 : Nat) : Int) ≤ 0 := by
  unfold whN atN
  rw [show rndN usC = 1200 by decide, show usC.d = 1 from rfl, show usC.s = 400 from rfl]
  omega
theorem hn_held {me : Int} (hme : 0 ≤ me ∧ me < 3) {last : List UInt8} (hl : last.length = 16) {body : Nat → List UInt8} {n : Nat} (hn : n < 7) (hb : ∀ i, (body i).length ≤ 16) {b : List UInt8} (hr : (getF b).r = ((n + 1 : Nat) : Int)) : heldB (itsH (hnB me last body) 1 n) b = false := by
  rw [← Bool.not_eq_true, heldB, List.any_eq_true]
  rintro ⟨x, hx, e⟩
  obtain ⟨i, i1, i2, rfl⟩ := itsH_mem _ _ _ _ hx
  have e := eq_of_beq e
  dsimp only at e
  have g5 := (hn_get hme hl (hb i) (show i ≤ 16 by omega)).2.2.2.1
  rw [e, hr] at g5
  have : n + 1 = i := by exact_mod_cast g5
  omega
theorem hn_offer {me : Int} (hme : 0 ≤ me ∧ me < 3) {last : List UInt8} (hl : last.length = 16) {body : Nat → List UInt8} {n : Nat} (hn : n < 7) (hb : ∀ i, (body i).length ≤ 16) :
    offE (hnR me last body n) (hnB me last body (n + 1)) 0 = 0 ∧ offV (hnR me last body n) (hnB me last body (n + 1)) 0 = hnR me last body (n + 1) := by
  have ht := hn_tag hme hl (hb (n + 1)) (show n + 1 ≤ 16 by omega)
  obtain ⟨g1, g2, g3, g4, _⟩ := hn_get hme hl (hb (n + 1)) (show n + 1 ≤ 16 by omega)
  have h1 : offB (hnR me last body n) (hnB me last body (n + 1)) 0 = rsecN usC me 0 ((n + 1 : Nat) : Int) 0 :=
    off_sealed (s := hnR me last body n) (r := ((n + 1 : Nat) : Int)) ht (by show (0 : Int) ≤ 1; decide) (by show (-1 : Int) < ((n + 1 : Nat) : Int); omega)
  obtain ⟨r1, r2, r3, r4⟩ := rsec_us (me := me) (bg := 0) (ii := ((n + 1 : Nat) : Int)) (M := 0) hme (by decide) ⟨by omega, by omega⟩
  rw [Int.zero_add] at r1 r3 r4
  rw [r1, if_pos (by decide), if_neg (wh_pos hme n)] at h1
  have e2 : (getF (hnB me last body (n + 1))).e = 1 := by rw [g2]; rfl
  have e3 : idxN usC 0 ((n + 1 : Nat) : Int) = ((n + 1 : Nat) : Int) := by
    unfold idxN
    rw [if_pos ⟨r4, r3⟩, Int.sub_zero]
  have hlen := itsH_len (hnB me last body) n 1
  have hsn := itsH_snoc (hnB me last body) n 1
  have hh := hn_held hme hl hn hb g4
  unfold hnR at h1 ⊢
  rw [Nat.add_comm 1 n] at hsn
  rw [← hsn]
  generalize hnB me last body (n + 1) = b at *
  generalize itsH (hnB me last body) 1 n = L at *
  exact off_next h1 e2 g4 e3 (argB_iff.2 ⟨by decide, by decide, by omega, by omega, Nat.le_trans g3 (by decide)⟩) hh (by omega)
theorem hn_rel {me : Int} (hme : 0 ≤ me ∧ me < 3) {last : List UInt8} (hl : last.length = 16) {body : Nat → List UInt8} (hb : ∀ i, (body i).length ≤ 16) (n : Nat) (hn : n ≤ 7) : ∀ t : Nat, t ≤ n →
    relN (backL (16 - n) last) (n : Int) 1 (telS (hnR me last body n) (n : Int) (backL (16 - n) last)) t =
      (⟨usC, me, 1, 0, (n : Int), backL (16 - n) last, ⟨8, 0, itsH (hnB me last body) (t + 1) (n - t)⟩, if t = 0 then -1 else (t : Int)⟩, (List.range t).map fun u => getF (hnB me last body (u + 1)))
  | 0, _ => rfl
  | t + 1, ht => by
    have ih := hn_rel hme hl hb n hn t (by omega)
    obtain ⟨g1, g2, g3, g4, g5⟩ := hn_get hme hl (hb (t + 1)) (show t + 1 ≤ 16 by omega)
    have hk : (backP (backL (16 - n) last) ((n : Int) - (1 + (t : Int)))).1 = backL (16 - (t + 1)) last := by
      have := back_key last hl (n : Int) ((t + 1 : Nat) : Int) (by omega) (by omega) (by omega)
      rw [Int.toNat_natCast, Int.toNat_natCast] at this
      rw [← this, show (1 + (t : Int)) = ((t + 1 : Nat) : Int) by omega]
    simp only [relN]
    rw [ih, hk]
    dsimp only
    obtain ⟨m, hm⟩ : ∃ m, n - t = m + 1 := ⟨n - t - 1, by omega⟩
    rw [hm, show n - (t + 1) = m by omega]
    obtain ⟨k1, k2⟩ := itsH_take (hnB me last body) 8 0 (t + 1) m
    have hi : (1 + (t : Int)) = ((t + 1 : Nat) : Int) := by omega
    have hf : freeL (btakeL ⟨8, 0, itsH (hnB me last body) (t + 1) (m + 1)⟩ (1, 1 + (t : Int))) (backL (16 - (t + 1)) last) (if t = 0 then -1 else (t : Int)) = some (getF (hnB me last body (t + 1))) := by
      rw [hi, k1]
      unfold freeL
      rw [List.map_cons, List.find?_cons_of_pos g5]
      dsimp only
      rw [if_neg]
      rw [g4]
      split <;> omega
    unfold freeR
    dsimp only
    rw [hf]
    dsimp only
    rw [hi, k2, g4, List.range_succ, List.map_append]
    rfl
theorem hn_tell {me : Int} (hme : 0 ≤ me ∧ me < 3) {last : List UInt8} (hl : last.length = 16) {body : Nat → List UInt8} (hb : ∀ i, (body i).length ≤ 16) (n : Nat) (hn : n ≤ 7) (h1 : 1 ≤ n) :
    telE (hnR me last body n) 1 (n : Int) (backL (16 - n) last) = 0 ∧ (telR (hnR me last body n) 1 (n : Int) (backL (16 - n) last)).2 = ((List.range n).map fun u => getF (hnB me last body (u + 1))) ∧
    (telR (hnR me last body n) 1 (n : Int) (backL (16 - n) last)).1.last = n ∧ (telR (hnR me last body n) 1 (n : Int) (backL (16 - n) last)).1.b.L.length = 0 := by
  have hk : keyArg (hnR me last body n) (n : Int) (backL (16 - n) last) = true := keyArg_iff.2 ⟨by omega, by show (n : Int) ≤ 16; omega, backL_len _ _ hl⟩
  have hf : folP 0 (backL 16 last) (n : Int) (backL (16 - n) last) = 0 := by
    unfold folP
    rw [if_pos ⟨by omega, by omega, by omega, by omega, backL_len _ _ hl, backL_len _ _ hl⟩, if_neg (by omega), if_pos]
    rw [← backL_add, show ((n : Int) - 0).toNat + (16 - n) = 16 by omega]
  have he : telE (hnR me last body n) 1 (n : Int) (backL (16 - n) last) = 0 := by
    unfold telE
    rw [if_neg (by show ¬ ((1 : Int) < 0 ∨ (1 : Int) ≠ 1); omega), if_neg (by simp [hk]), if_neg (by show ¬ (n : Int) ≤ 0; omega)]
    show ((folP 0 (backL 16 last) (n : Int) (backL (16 - n) last) : Nat) : Int) = 0
    rw [hf]; rfl
  have hr : telR (hnR me last body n) 1 (n : Int) (backL (16 - n) last) = relN (backL (16 - n) last) (n : Int) 1 (telS (hnR me last body n) (n : Int) (backL (16 - n) last)) n := by
    rw [tel_yes he]
    show relN _ _ ((0 : Int) + 1) _ ((n : Int) - 0).toNat = _
    rw [show ((n : Int) - 0).toNat = n by omega]
    rfl
  rw [hr, hn_rel hme hl hb n hn n (Nat.le_refl _)]
  refine ⟨he, rfl, ?_, ?_⟩
  · show (if n = 0 then (-1 : Int) else (n : Int)) = n
    rw [if_neg (by omega)]
  · show (itsH _ (n + 1) (n - n)).length = 0
    rw [itsH_len]; omega
theorem hn_none {me : Int} {last : List UInt8} (hl : last.length = 16) {body : Nat → List UInt8} : telE (hnR me last body 0) 1 0 (backL 16 last) = 10 ∧ (telR (hnR me last body 0) 1 0 (backL 16 last)).2 = [] := by
  have hk : keyArg (hnR me last body 0) 0 (backL 16 last) = true := keyArg_iff.2 ⟨by omega, by show (0 : Int) ≤ 16; omega, backL_len _ _ hl⟩
  have he : telE (hnR me last body 0) 1 0 (backL 16 last) = 10 := by
    unfold telE
    rw [if_neg (by show ¬ ((1 : Int) < 0 ∨ (1 : Int) ≠ 1); omega), if_neg (by simp [hk]), if_pos (by show (0 : Int) ≤ 0; omega)]
  refine ⟨he, ?_⟩
  rw [tel_no (by rw [he]; decide)]
end Go.Proofs.YtmffplhaclnehaaGreatDoor
