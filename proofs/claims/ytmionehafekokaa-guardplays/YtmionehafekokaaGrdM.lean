/-
  What a guard holds and answers, over plain numbers; the rounds kept in order beside the list of those let through. No program here.
-/
import Derived.Test.YtmionehafekokaaSchedN
namespace Go.Proofs.Ytmionehafekokaa

/-- What a guard holds: its config, its node, the last round, the least round, the rounds of those let through. -/
structure Gs where
  c : Cf
  i : Int
  last : Int
  least : Int
  os : List Int

def rdN (c : Cf) (t : Int) : Int := t / rndN c
def slN (c : Cf) (t : Int) : Int := t % rndN c / c.s
def dataE (v : Gs) (t : Int) : Int := if placeB v.c t = true then (if slN v.c t = v.i then (if rdN v.c t ≤ v.last ∨ rdN v.c t < v.least then 10 else 0) else 5) else 1
def dataR (v : Gs) (t : Int) : Int := if dataE v t = 0 then rdN v.c t else 0
def dataV (v : Gs) (t : Int) : Gs := if dataE v t = 0 then { v with last := rdN v.c t } else v
def keepL (os : List Int) (l : Int) : List Int := os.filter fun x => decide (l ≤ x)
def othE (v : Gs) (t : Int) : Int := if placeB v.c t = true then (if 4 * v.c.n ≤ (v.os.count (rdN v.c t) : Int) then 9 else 0) else 1
def othV (v : Gs) (t : Int) : Gs := if othE v t = 0 then { v with os := keepL v.os (rdN v.c t - 64) ++ [rdN v.c t] } else v
def forV (v : Gs) (n : Int) : Gs := { v with last := -1, least := max n 0 }
def newG (c : Cf) (i : Int) : Gs := ⟨c, i, -1, 0, []⟩

/-- Every round that is kept is a round. -/
def inL (os : List Int) : Prop := ∀ x ∈ os, 0 ≤ x ∧ x < 1048576
/-- A guard as New makes it and the calls leave it. -/
structure Gs.ok (v : Gs) : Prop where
  okc : okB v.c = true
  i0 : 0 ≤ v.i
  i1 : v.i < v.c.n
  all : inL v.os

theorem rd_in {c : Cf} {t : Int} (h : placeB c t = true) : 0 ≤ rdN c t ∧ rdN c t < 1048576 ∧ okB c = true := by
  obtain ⟨ho, t0, t1, hq⟩ := place_ok' h
  have h3 := rnd_in ho
  exact ⟨Int.ediv_nonneg t0 (by omega), hq, ho⟩
theorem inL_keep {os : List Int} (h : inL os) (l : Int) : inL (keepL os l) := fun x hx => h x (List.mem_filter.1 hx).1
theorem inL_snoc {os : List Int} (h : inL os) {x : Int} (h0 : 0 ≤ x) (h1 : x < 1048576) : inL (os ++ [x]) := by
  intro y hy
  rcases List.mem_append.1 hy with h2 | h2
  · exact h y h2
  · rw [List.mem_singleton] at h2; subst h2; exact ⟨h0, h1⟩
theorem newG_ok {c : Cf} {i : Int} (h : nodeB c i = true) : (newG c i).ok := by
  obtain ⟨ho, i0, i1⟩ := node_ok h
  exact ⟨ho, i0, i1, fun x hx => by cases hx⟩
theorem dataV_ok {v : Gs} (h : v.ok) (t : Int) : (dataV v t).ok := by
  unfold dataV
  split
  · exact ⟨h.okc, h.i0, h.i1, h.all⟩
  · exact h
theorem forV_ok {v : Gs} (h : v.ok) (n : Int) : (forV v n).ok := ⟨h.okc, h.i0, h.i1, h.all⟩
theorem oth_place {v : Gs} {t : Int} (h : othE v t = 0) : placeB v.c t = true := by
  unfold othE at h
  split at h
  · assumption
  · omega
theorem othV_ok {v : Gs} (h : v.ok) (t : Int) : (othV v t).ok := by
  unfold othV
  split
  · rename_i h0
    have hr := rd_in (oth_place h0)
    exact ⟨h.okc, h.i0, h.i1, inL_snoc (inL_keep h.all _) hr.1 hr.2.1⟩
  · exact h
theorem othV_len (v : Gs) (t : Int) : (othV v t).os.length ≤ v.os.length + 1 := by
  unfold othV
  split
  · simp only [keepL, List.length_append, List.length_cons, List.length_nil]
    have := List.length_filter_le (fun x => decide (rdN v.c t - 64 ≤ x)) v.os
    omega
  · omega
theorem dataV_os (v : Gs) (t : Int) : (dataV v t).os = v.os ∧ (dataV v t).c = v.c ∧ (dataV v t).i = v.i := by
  unfold dataV
  split <;> exact ⟨rfl, rfl, rfl⟩
theorem othV_c (v : Gs) (t : Int) : (othV v t).c = v.c ∧ (othV v t).i = v.i ∧ (othV v t).last = v.last := by
  unfold othV
  split <;> exact ⟨rfl, rfl, rfl⟩

/-- The rounds rs, falling, are those that stand in os. -/
structure Ties (rs os : List Int) : Prop where
  falls : rs.Pairwise (fun a b => b < a)
  same : ∀ x, x ∈ rs ↔ x ∈ os
theorem ties_nil : Ties [] [] := ⟨List.Pairwise.nil, fun _ => Iff.rfl⟩
/-- The lowest one is struck. -/
theorem Ties.strike {rs os : List Int} {y : Int} (h : Ties (rs ++ [y]) os) : Ties rs (os.filter fun x => decide (x ≠ y)) := by
  have hp := List.pairwise_append.1 h.falls
  refine ⟨hp.1, fun x => ?_⟩
  have h1 := h.same x
  simp only [List.mem_append, List.mem_singleton] at h1
  simp only [List.mem_filter, decide_eq_true_eq, ← h1]
  constructor
  · intro hx
    exact ⟨.inl hx, fun e => by subst e; have := hp.2.2 x hx x (by simp); omega⟩
  · rintro ⟨hx | hx, hn⟩
    · exact hx
    · exact absurd hx hn
theorem keep_strike {os : List Int} {y l : Int} (h : y < l) : keepL (os.filter fun x => decide (x ≠ y)) l = keepL os l := by
  unfold keepL
  rw [List.filter_filter]
  congr 1
  funext x
  by_cases h1 : l ≤ x
  · have : x ≠ y := by omega
    simp [h1, this]
  · simp [h1]
/-- None is left to strike. -/
theorem Ties.done {rs os : List Int} {l : Int} (h : Ties rs os) (hl : ∀ x ∈ rs, l ≤ x) : keepL os l = os := by
  unfold keepL
  rw [List.filter_eq_self]
  intro x hx
  simpa using hl x ((h.same x).2 hx)
theorem Ties.low {rs os : List Int} {y l : Int} (h : Ties (rs ++ [y]) os) (hy : ¬ y < l) : ∀ x ∈ rs ++ [y], l ≤ x := by
  intro x hx
  have hp := List.pairwise_append.1 h.falls
  rcases List.mem_append.1 hx with h1 | h1
  · have := hp.2.2 x h1 y (by simp); omega
  · rw [List.mem_singleton] at h1; omega
/-- One that is there is counted. -/
theorem Ties.again {rs os : List Int} {x : Int} (h : Ties rs os) (hx : x ∈ os) : Ties rs (os ++ [x]) := by
  refine ⟨h.falls, fun y => ?_⟩
  rw [h.same y, List.mem_append, List.mem_singleton]
  constructor
  · exact .inl
  · rintro (h1 | rfl)
    · exact h1
    · exact hx
/-- A new one is put in at its place. -/
theorem Ties.put {rs os : List Int} {x : Int} (h : Ties rs os) (hx : x ∉ os) {k : Nat} (hlow : ∀ y ∈ rs.drop k, y < x) (hhigh : ∀ y ∈ rs.take k, x ≤ y) : Ties (rs.take k ++ x :: rs.drop k) (os ++ [x]) := by
  have hx' : x ∉ rs := fun e => hx ((h.same x).1 e)
  have hf := h.falls
  rw [← List.take_append_drop k rs] at hf
  obtain ⟨h1, h2, h3⟩ := List.pairwise_append.1 hf
  refine ⟨List.pairwise_append.2 ⟨h1, List.pairwise_cons.2 ⟨hlow, h2⟩, ?_⟩, fun y => ?_⟩
  · intro a ha b hb
    rcases List.mem_cons.1 hb with rfl | hb
    · have := hhigh a ha
      have hne : a ≠ b := fun e => hx' (by subst e; exact List.mem_of_mem_take ha)
      omega
    · exact h3 a ha b hb
  · have e : (y ∈ rs ↔ y ∈ rs.take k ∨ y ∈ rs.drop k) := by rw [← List.mem_append, List.take_append_drop]
    simp only [List.mem_append, List.mem_cons, List.not_mem_nil, or_false, ← h.same y, e]
    constructor
    · rintro (h1 | h1 | h1)
      · exact .inl (.inl h1)
      · exact .inr h1
      · exact .inl (.inr h1)
    · rintro ((h1 | h1) | h1)
      · exact .inl h1
      · exact .inr (.inr h1)
      · exact .inr (.inl h1)
/-- Falling: what stands ahead of one that is not below x is not below x. -/
theorem falls_high {rs : List Int} (h : rs.Pairwise (fun a b => b < a)) {k : Nat} {z x : Int} (hz : rs[k]? = some z) (hx : ¬ z < x) : ∀ y ∈ rs.take (k + 1), x ≤ y := by
  intro y hy
  obtain ⟨j, hj⟩ := List.mem_iff_getElem?.1 hy
  rw [List.getElem?_take] at hj
  split at hj
  case isFalse => cases hj
  rename_i hjk
  by_cases e : j = k
  · subst e; rw [hz] at hj; cases hj; omega
  · obtain ⟨hj1, hj2⟩ := List.getElem?_eq_some_iff.1 hj
    obtain ⟨hk1, hk2⟩ := List.getElem?_eq_some_iff.1 hz
    have := List.pairwise_iff_getElem.1 h j k hj1 hk1 (by omega)
    omega
theorem count_strike (os : List Int) (x y : Int) : (os.filter fun z => decide (z ≠ y)).count x = if x = y then 0 else os.count x := by
  split
  · rename_i e
    subst e
    rw [List.count_eq_zero]
    intro h
    have := (List.mem_filter.1 h).2
    simp at this
  · rename_i e
    rw [List.count_filter (by simpa using e)]
theorem count_snoc (os : List Int) (x y : Int) : (os ++ [y]).count x = if x = y then os.count x + 1 else os.count x := by
  rw [List.count_append, List.count_singleton]
  by_cases e : x = y
  · subst e; simp
  · simp [e, Ne.symm e]
end Go.Proofs.Ytmionehafekokaa
