/-
  Numbers in order, without the least and the greatest, and their middle, over plain numbers. No program here.
-/
namespace Go.Proofs.Ytfifcfdlmpgohaa

/-- Sorted. -/
abbrev Srt (s : List Int) : Prop := s.Pairwise (· ≤ ·)
/-- The numbers of a list in order. -/
def srt (l : List Int) : List Int := l.mergeSort (fun a b => decide (a ≤ b))
theorem srt_perm (l : List Int) : (srt l).Perm l := List.mergeSort_perm _ _
theorem srt_len (l : List Int) : (srt l).length = l.length := List.length_mergeSort l
theorem srt_srt (l : List Int) : Srt (srt l) := by
  have h := List.pairwise_mergeSort (le := fun (a b : Int) => decide (a ≤ b)) (by intro a b c h1 h2; simp at h1 h2 ⊢; omega) (by intro a b; simp; omega) l
  exact h.imp (by intro a b h; simpa using h)
theorem srt_eq {s l : List Int} (h : Srt s) (hp : s.Perm l) : s = srt l :=
  List.Perm.eq_of_pairwise (le := (· ≤ ·)) (by intro a b _ _ h1 h2; omega) h (srt_srt l) (hp.trans (srt_perm l).symm)
theorem srt_congr {l m : List Int} (h : l.Perm m) : srt l = srt m := srt_eq (srt_srt l) ((srt_perm l).trans h)
theorem srt_mem {l : List Int} {x : Int} : x ∈ srt l ↔ x ∈ l := (srt_perm l).mem_iff
/-- A number is put behind all that are not greater. -/
theorem srt_put {s : List Int} {x : Int} {k : Nat} (hs : Srt s) (h1 : ∀ j, j < k → ∀ y, s[j]? = some y → y ≤ x) (h2 : ∀ j, k ≤ j → ∀ y, s[j]? = some y → x ≤ y) : Srt (s.take k ++ x :: s.drop k) := by
  rw [Srt, List.pairwise_append]
  refine ⟨hs.sublist (List.take_sublist k s), ?_, ?_⟩
  · rw [List.pairwise_cons]
    refine ⟨?_, hs.sublist (List.drop_sublist k s)⟩
    intro y hy
    obtain ⟨j, hj⟩ := List.getElem?_of_mem hy
    rw [List.getElem?_drop] at hj
    exact h2 _ (by omega) y hj
  · intro a ha b hb
    have hax : a ≤ x := by
      obtain ⟨j, hj⟩ := List.getElem?_of_mem ha
      rw [List.getElem?_take] at hj
      split at hj
      · exact h1 j ‹_› a hj
      · cases hj
    rcases List.mem_cons.1 hb with rfl | hb
    · exact hax
    · obtain ⟨j, hj⟩ := List.getElem?_of_mem hb
      rw [List.getElem?_drop] at hj
      have := h2 _ (by omega) b hj
      omega
theorem perm_put (s : List Int) (x : Int) (k : Nat) : (s.take k ++ x :: s.drop k).Perm (s ++ [x]) := by
  have h : (s.take k ++ x :: s.drop k).Perm (x :: (s.take k ++ s.drop k)) := List.perm_middle
  rw [List.take_append_drop] at h
  exact h.trans (List.perm_append_comm (l₁ := [x]) (l₂ := s))
theorem srt_get_le {s : List Int} (h : Srt s) {i j : Nat} (hij : i ≤ j) {a b : Int} (hi : s[i]? = some a) (hj : s[j]? = some b) : a ≤ b := by
  obtain ⟨h1, h2⟩ := List.getElem?_eq_some_iff.1 hi
  obtain ⟨h3, h4⟩ := List.getElem?_eq_some_iff.1 hj
  rcases Nat.lt_or_ge i j with h' | h'
  · have := List.pairwise_iff_getElem.1 h i j h1 h3 h'
    omega
  · have : i = j := by omega
    subst this
    omega

/-- How many are at most what stands at a place. -/
theorem cnt_le {s : List Int} (h : Srt s) {k : Nat} {v : Int} (hk : s[k]? = some v) : k + 1 ≤ s.countP (fun x => decide (x ≤ v)) := by
  have hl : k < s.length := (List.getElem?_eq_some_iff.1 hk).1
  have h1 : (s.take (k + 1)).countP (fun x => decide (x ≤ v)) = (s.take (k + 1)).length := by
    rw [List.countP_eq_length]
    intro a ha
    obtain ⟨j, hj⟩ := List.getElem?_of_mem ha
    rw [List.getElem?_take] at hj
    split at hj
    · have := srt_get_le h (by omega) hj hk
      simpa using this
    · cases hj
  have h2 := (List.take_sublist (k + 1) s).countP_le (p := fun x => decide (x ≤ v))
  rw [h1, List.length_take] at h2
  omega
theorem cnt_ge {s : List Int} (h : Srt s) {k : Nat} {v : Int} (hk : s[k]? = some v) : s.length - k ≤ s.countP (fun x => decide (v ≤ x)) := by
  have hl : k < s.length := (List.getElem?_eq_some_iff.1 hk).1
  have h1 : (s.drop k).countP (fun x => decide (v ≤ x)) = (s.drop k).length := by
    rw [List.countP_eq_length]
    intro a ha
    obtain ⟨j, hj⟩ := List.getElem?_of_mem ha
    rw [List.getElem?_drop] at hj
    have := srt_get_le h (by omega) hk hj
    simpa using this
  have h2 := (List.drop_sublist k s).countP_le (p := fun x => decide (v ≤ x))
  rw [h1, List.length_drop] at h2
  omega
theorem cnt_lt {s : List Int} (h : Srt s) {k : Nat} {v : Int} (hk : s[k]? = some v) : s.countP (fun x => decide (x < v)) ≤ k := by
  have h1 := cnt_ge h hk
  have h2 := List.length_eq_countP_add_countP (fun x : Int => decide (v ≤ x)) (l := s)
  have h3 : s.countP (fun x => decide (¬ (decide (v ≤ x) = true))) = s.countP (fun x => decide (x < v)) := List.countP_congr (by intro x _; simp)
  rw [h3] at h2
  have hl : k < s.length := (List.getElem?_eq_some_iff.1 hk).1
  omega
theorem cnt_gt {s : List Int} (h : Srt s) {k : Nat} {v : Int} (hk : s[k]? = some v) : s.countP (fun x => decide (v < x)) ≤ s.length - 1 - k := by
  have h1 := cnt_le h hk
  have h2 := List.length_eq_countP_add_countP (fun x : Int => decide (x ≤ v)) (l := s)
  have h3 : s.countP (fun x => decide (¬ (decide (x ≤ v) = true))) = s.countP (fun x => decide (v < x)) := List.countP_congr (by intro x _; simp)
  rw [h3] at h2
  have hl : k < s.length := (List.getElem?_eq_some_iff.1 hk).1
  omega

/-- The greatest time. -/
abbrev MT : Int := 1099511627776
/-- A number that a time may be. -/
def isT (x : Int) : Bool := decide (-MT ≤ x ∧ x ≤ MT)
/-- Trim's error. -/
def trE (l : List Int) (f : Int) : Int := if f < 0 ∨ l.all isT = false then 1 else if (l.length : Int) ≤ 2 * f then 6 else 0
/-- Trim's numbers. -/
def trV (l : List Int) (f : Int) : List Int := if trE l f = 0 then ((srt l).drop f.toNat).take (l.length - 2 * f.toNat) else []
/-- The least and the greatest that Trim leaves. -/
def trLo (l : List Int) (f : Nat) : Int := (srt l).getD f 0
def trHi (l : List Int) (f : Nat) : Int := (srt l).getD (l.length - 1 - f) 0
/-- Middle's number. -/
def miV (l : List Int) (f : Int) : Int := if trE l f = 0 then (trLo l f.toNat + trHi l f.toNat).tdiv 2 else 0
/-- The middles of those that are right. -/
def rightI (p : Int × Int) : Bool := decide (-MT ≤ p.1 ∧ p.1 ≤ p.2 ∧ p.2 ≤ MT)
def ptV (x : List (Int × Int)) : List Int := (x.filter rightI).map (fun p => (p.1 + p.2).tdiv 2)
def clV (n most : Int) : Int := min (max n (-(max most 0))) (max most 0)
def coV (x : List (Int × Int)) (f most : Int) : Int := if trE (ptV x) f = 0 then clV (miV (ptV x) f) most else 0

theorem trE_cases (l : List Int) (f : Int) : trE l f = 1 ∧ (f < 0 ∨ l.all isT = false) ∨ trE l f = 6 ∧ 0 ≤ f ∧ l.all isT = true ∧ (l.length : Int) ≤ 2 * f ∨ trE l f = 0 ∧ 0 ≤ f ∧ l.all isT = true ∧ 2 * f < (l.length : Int) := by
  unfold trE
  by_cases h : f < 0 ∨ l.all isT = false
  · left; exact ⟨by rw [if_pos h], h⟩
  · right
    have h1 : 0 ≤ f := by omega
    have h2 : l.all isT = true := by cases hh : l.all isT <;> simp_all
    rw [if_neg h]
    by_cases h3 : (l.length : Int) ≤ 2 * f
    · left; exact ⟨by rw [if_pos h3], h1, h2, h3⟩
    · right; exact ⟨by rw [if_neg h3], h1, h2, by omega⟩
theorem tdiv2 (x : Int) : ∃ t, 2 * x.tdiv 2 = x - t ∧ -1 ≤ t ∧ t ≤ 1 ∧ (0 ≤ x → 0 ≤ t) ∧ (x ≤ 0 → t ≤ 0) := by
  refine ⟨x.tmod 2, ?_, ?_, ?_, ?_, ?_⟩
  · have := Int.mul_tdiv_add_tmod x 2; omega
  · have := Int.lt_tmod_of_pos x (b := 2) (by omega); omega
  · have := Int.tmod_lt_of_pos x (b := 2) (by omega); omega
  · intro h; exact Int.tmod_nonneg 2 h
  · intro h
    have h1 := Int.tmod_nonneg (a := -x) 2 (by omega)
    rw [Int.neg_tmod] at h1
    omega
/-- A half of two lies between bounds of both. -/
theorem half_between {v w a b : Int} (h1 : a ≤ v) (h2 : a ≤ w) (h3 : v ≤ b) (h4 : w ≤ b) : a ≤ (v + w).tdiv 2 ∧ (v + w).tdiv 2 ≤ b := by
  obtain ⟨t, h5, h6, h7, h8, h9⟩ := tdiv2 (v + w)
  by_cases hp : 0 ≤ v + w
  · have := h8 hp; omega
  · have := h9 (by omega); omega

section
variable {l : List Int} {f : Nat}
theorem lo_get (h : 2 * f < l.length) : (srt l)[f]? = some (trLo l f) := by
  have : f < (srt l).length := by rw [srt_len]; omega
  simp [trLo, List.getD, this]
theorem hi_get (h : 2 * f < l.length) : (srt l)[l.length - 1 - f]? = some (trHi l f) := by
  have : l.length - 1 - f < (srt l).length := by rw [srt_len]; omega
  simp [trHi, List.getD, this]
theorem lo_le_hi (h : 2 * f < l.length) : trLo l f ≤ trHi l f := srt_get_le (srt_srt l) (by omega) (lo_get h) (hi_get h)
theorem lo_mem (h : 2 * f < l.length) : trLo l f ∈ l := srt_mem.1 (List.mem_of_getElem? (lo_get h))
theorem hi_mem (h : 2 * f < l.length) : trHi l f ∈ l := srt_mem.1 (List.mem_of_getElem? (hi_get h))
theorem cntP (p : Int → Bool) : (srt l).countP p = l.countP p := (srt_perm l).countP_eq p
end
/-- Of more than f numbers some are not among f bad ones. -/
theorem lo_ge {bad good : List Int} {a : Int} (hg : ∀ x ∈ good, a ≤ x) (h : bad.length < good.length) : a ≤ trLo (bad ++ good) bad.length := by
  have h0 : 2 * bad.length < (bad ++ good).length := by rw [List.length_append]; omega
  rcases Int.lt_or_le (trLo (bad ++ good) bad.length) a with hc | hc
  · exfalso
    have h1 := cnt_le (srt_srt _) (lo_get h0)
    rw [cntP, List.countP_append] at h1
    have h2 : good.countP (fun x => decide (x ≤ trLo (bad ++ good) bad.length)) = 0 := by
      rw [List.countP_eq_zero]; intro x hx; have := hg x hx; simp; omega
    have h3 := List.countP_le_length (p := fun x => decide (x ≤ trLo (bad ++ good) bad.length)) (l := bad)
    omega
  · exact hc
theorem hi_le {bad good : List Int} {b : Int} (hg : ∀ x ∈ good, x ≤ b) (h : bad.length < good.length) : trHi (bad ++ good) bad.length ≤ b := by
  have h0 : 2 * bad.length < (bad ++ good).length := by rw [List.length_append]; omega
  rcases Int.lt_or_le b (trHi (bad ++ good) bad.length) with hc | hc
  · exfalso
    have h1 := cnt_ge (srt_srt _) (hi_get h0)
    rw [cntP, List.countP_append, srt_len] at h1
    have h2 : good.countP (fun x => decide (trHi (bad ++ good) bad.length ≤ x)) = 0 := by
      rw [List.countP_eq_zero]; intro x hx; have := hg x hx; simp; omega
    have h3 := List.countP_le_length (p := fun x => decide (trHi (bad ++ good) bad.length ≤ x)) (l := bad)
    omega
  · exact hc
/-- BETWEEN THE GOOD ONES. -/
theorem mi_between {bad good : List Int} {a b : Int} (hg : ∀ x ∈ good, a ≤ x ∧ x ≤ b) (h : bad.length < good.length) (he : trE (bad ++ good) bad.length = 0) : a ≤ miV (bad ++ good) bad.length ∧ miV (bad ++ good) bad.length ≤ b := by
  have h0 : 2 * bad.length < (bad ++ good).length := by rw [List.length_append]; omega
  have h1 := lo_ge (fun x hx => (hg x hx).1) h
  have h2 := hi_le (fun x hx => (hg x hx).2) h
  have h3 := lo_le_hi h0
  unfold miV
  rw [if_pos he, Int.toNat_natCast]
  exact half_between h1 (by omega) (by omega) h2
/-- With f bad ones ahead, the least that is left is at most the good ones' own at f. -/
theorem lo_le_good {bad good : List Int} (h : 2 * bad.length < good.length) : trLo (bad ++ good) bad.length ≤ trLo good bad.length := by
  have h0 : 2 * bad.length < (bad ++ good).length := by rw [List.length_append]; omega
  rcases Int.lt_or_le (trLo good bad.length) (trLo (bad ++ good) bad.length) with hc | hc
  · exfalso
    have h1 := cnt_lt (srt_srt _) (lo_get h0)
    rw [cntP, List.countP_append] at h1
    have h2 := cnt_le (srt_srt _) (lo_get h)
    rw [cntP] at h2
    have h3 : good.countP (fun x => decide (x ≤ trLo good bad.length)) ≤ good.countP (fun x => decide (x < trLo (bad ++ good) bad.length)) := List.countP_mono_left (by intro x _ hx; simp at hx ⊢; omega)
    omega
  · exact hc
theorem hi_ge_good {bad good : List Int} (h : 2 * bad.length < good.length) : trHi good bad.length ≤ trHi (bad ++ good) bad.length := by
  have h0 : 2 * bad.length < (bad ++ good).length := by rw [List.length_append]; omega
  rcases Int.lt_or_le (trHi (bad ++ good) bad.length) (trHi good bad.length) with hc | hc
  · exfalso
    have h1 := cnt_gt (srt_srt _) (hi_get h0)
    rw [cntP, List.countP_append, srt_len, List.length_append] at h1
    have h2 := cnt_ge (srt_srt _) (hi_get h)
    rw [cntP, srt_len] at h2
    have h3 : good.countP (fun x => decide (trHi good bad.length ≤ x)) ≤ good.countP (fun x => decide (trHi (bad ++ good) bad.length < x)) := List.countP_mono_left (by intro x _ hx; simp at hx ⊢; omega)
    omega
  · exact hc
/-- TWO COME NEARER. -/
theorem mi_nearer {a b good : List Int} {lo hi : Int} (hab : a.length = b.length) (hg : ∀ x ∈ good, lo ≤ x ∧ x ≤ hi) (h : 2 * a.length < good.length) (ha : trE (a ++ good) a.length = 0) (hb : trE (b ++ good) b.length = 0) :
    2 * (miV (a ++ good) a.length - miV (b ++ good) b.length) ≤ hi - lo + 2 := by
  have a1 := lo_ge (bad := a) (fun x hx => (hg x hx).1) (by omega)
  have a2 := hi_le (bad := a) (fun x hx => (hg x hx).2) (by omega)
  have b1 := lo_ge (bad := b) (fun x hx => (hg x hx).1) (by omega)
  have b2 := hi_le (bad := b) (fun x hx => (hg x hx).2) (by omega)
  have a3 := lo_le_good (bad := a) h
  have a4 := hi_ge_good (bad := a) h
  have b3 := lo_le_good (bad := b) (good := good) (by omega)
  have b4 := hi_ge_good (bad := b) (good := good) (by omega)
  have g1 := lo_le_hi (l := good) (f := a.length) h
  rw [← hab] at b3 b4
  obtain ⟨s, s1, s2, s3, _⟩ := tdiv2 (trLo (a ++ good) a.length + trHi (a ++ good) a.length)
  obtain ⟨t, t1, t2, t3, _⟩ := tdiv2 (trLo (b ++ good) b.length + trHi (b ++ good) b.length)
  unfold miV
  rw [if_pos ha, if_pos hb, Int.toNat_natCast, Int.toNat_natCast]
  rw [hab] at b3 b4
  rw [hab] at a3 a4 g1
  rw [hab] at a1 a2 s1 ⊢
  omega

/-- The order has no part. -/
theorem trE_perm {l m : List Int} (h : l.Perm m) (f : Int) : trE l f = trE m f := by
  unfold trE
  have : l.all isT = m.all isT := by
    rw [Bool.eq_iff_iff, List.all_eq_true, List.all_eq_true]
    exact ⟨fun hl x hx => hl x (h.mem_iff.2 hx), fun hl x hx => hl x (h.mem_iff.1 hx)⟩
  rw [this, h.length_eq]
theorem miV_perm {l m : List Int} (h : l.Perm m) (f : Int) : miV l f = miV m f := by
  unfold miV trLo trHi
  rw [trE_perm h, srt_congr h, h.length_eq]
/-- Numbers that are turned about their sign. -/
theorem srt_neg (l : List Int) : srt (l.map (fun x => -x)) = ((srt l).map (fun x => -x)).reverse := by
  refine (srt_eq ?_ ?_).symm
  · rw [Srt, List.pairwise_reverse, List.pairwise_map]
    exact (srt_srt l).imp (by intro a b h; omega)
  · exact (List.reverse_perm _).trans ((srt_perm l).map _)
theorem lo_neg {l : List Int} {f : Nat} (h : 2 * f < l.length) : trLo (l.map (fun x => -x)) f = -trHi l f := by
  have h1 := hi_get h
  have h2 : (srt (l.map (fun x => -x)))[f]? = some (-trHi l f) := by
    rw [srt_neg, List.getElem?_reverse (by simp [srt_len]; omega), List.length_map, srt_len, List.getElem?_map, show l.length - 1 - f = l.length - 1 - f from rfl, h1]
    rfl
  have h3 := lo_get (l := l.map (fun x => -x)) (f := f) (by simpa using h)
  rw [h2] at h3
  exact (Option.some.inj h3).symm
theorem hi_neg {l : List Int} {f : Nat} (h : 2 * f < l.length) : trHi (l.map (fun x => -x)) f = -trLo l f := by
  have h1 := lo_get h
  have h2 : (srt (l.map (fun x => -x)))[l.length - 1 - f]? = some (-trLo l f) := by
    rw [srt_neg, List.getElem?_reverse (by simp [srt_len]; omega), List.length_map, srt_len, List.getElem?_map, show l.length - 1 - (l.length - 1 - f) = f by omega, h1]
    rfl
  have h3 := hi_get (l := l.map (fun x => -x)) (f := f) (by simpa using h)
  rw [List.length_map, h2] at h3
  exact (Option.some.inj h3).symm
/-- The law's own turning: a number far below is held at -2^62. -/
def negs (l : List Int) : List Int := l.map (fun x => -(max x (-4611686018427387904)))
theorem negs_all (l : List Int) : (negs l).all isT = l.all isT := by
  rw [negs, List.all_map]
  congr 1
  funext x
  simp only [Function.comp, isT, MT]
  rw [decide_eq_decide]
  omega
theorem negs_eq {l : List Int} (h : l.all isT = true) : negs l = l.map (fun x => -x) := by
  refine List.map_congr_left ?_
  intro x hx
  have := List.all_eq_true.1 h x hx
  simp only [isT, MT, decide_eq_true_eq] at this
  omega
theorem trE_negs (l : List Int) (f : Int) : trE (negs l) f = trE l f := by
  unfold trE
  rw [negs_all, negs, List.length_map]
/-- ALL SHIFTED ALIKE: turned about their sign. -/
theorem miV_negs (l : List Int) (f : Int) : miV (negs l) f = -miV l f := by
  unfold miV
  rw [trE_negs]
  rcases trE_cases l f with ⟨h, _⟩ | ⟨h, _⟩ | ⟨h, h1, h2, h3⟩
  · rw [h]; rfl
  · rw [h]; rfl
  · rw [if_pos h, if_pos h, negs_eq h2, lo_neg (by omega), hi_neg (by omega), ← Int.neg_tdiv]
    congr 1
    omega
/-- A middle is a time. -/
theorem miV_isT (l : List Int) (f : Int) : -MT ≤ miV l f ∧ miV l f ≤ MT := by
  unfold miV
  rcases trE_cases l f with ⟨h, _⟩ | ⟨h, _⟩ | ⟨h, h1, h2, h3⟩
  · rw [h, if_neg (by decide)]; decide
  · rw [h, if_neg (by decide)]; decide
  · rw [if_pos h]
    have h4 := List.all_eq_true.1 h2 _ (lo_mem (f := f.toNat) (by omega))
    have h5 := List.all_eq_true.1 h2 _ (hi_mem (f := f.toNat) (by omega))
    simp only [isT, decide_eq_true_eq] at h4 h5
    exact half_between h4.1 h5.1 h4.2 h5.2
/-- Turned round: what the law's first loop lays. -/
theorem rot_perm (l : List Int) (k : Nat) : (l.drop k ++ l.take k).Perm l := by
  have := List.perm_append_comm (l₁ := l.drop k) (l₂ := l.take k)
  rwa [List.take_append_drop] at this
/-- The given example. -/
theorem mi_example : miV [-100, 0, 4, 6, 900] 1 = 3 ∧ trE [-100, 0, 4, 6, 900] 1 = 0 := by
  have h : srt [-100, 0, 4, 6, 900] = [-100, 0, 4, 6, 900] := (srt_eq (by decide) (List.Perm.refl _)).symm
  have he : trE [-100, 0, 4, 6, 900] 1 = 0 := by decide
  refine ⟨?_, he⟩
  unfold miV trLo trHi
  rw [if_pos he, h]
  decide
end Go.Proofs.Ytfifcfdlmpgohaa
