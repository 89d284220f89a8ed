/-
  Keys, and the rounds in which they are told, over plain numbers. No program here.
-/
import Derived.Test.YtiolkbdjphhajaaSchedN
namespace Go.Proofs.Ytiolkbdjphhajaa

def roundB (n : Int) : Bool := decide (0 ≤ n ∧ n < 1048576)
def keyB (c : Cf) (i : Int) : Bool := decide (1 ≤ i ∧ i ≤ c.k)
def sinB (c : Cf) (st r : Int) : Bool := okB c && roundB st && roundB r
def tolN (c : Cf) (x : Int) : Int := mnN (mxN (x - c.d) 0) c.k
def whB (c : Cf) (sl st i : Int) : Bool := okB c && roundB st && keyB c i && cellB c (st + i + c.d) sl
def whN (c : Cf) (sl st i : Int) : Int := atN c (st + i + c.d) sl
def secN (c : Cf) (sl st r m : Int) : Int :=
  if sinB c st r = true then (if keyB c (r - st) = true then (if timeB m = true then (if whB c sl st (r - st) = true then (if whN c sl st (r - st) ≤ m then 12 else 0) else 1) else 1) else 6) else 1
/-- Is a slot a node's? -/
def sltB (c : Cf) (sl : Int) : Bool := decide (0 ≤ sl ∧ sl < c.n)
/-- .. and a slot that is no node is refused ahead of all else. -/
def rsecN (c : Cf) (sl st r m : Int) : Int := if 0 ≤ sl ∧ sl < c.n then secN c sl st r m else 1
def ovB (c : Cf) (st r : Int) : Bool := sinB c st r && decide (c.k - c.d < r - st)
/-- Has key i been told by now? -/
def good (c : Cf) (sl st now i : Int) : Prop := st + i + c.d < 1048576 ∧ whN c sl st i ≤ now
/-- May Known answer a number at all? -/
def knB (c : Cf) (sl st now : Int) : Bool := placeB c now && roundB st && decide (0 ≤ sl ∧ sl < c.n)
/-- n is the greatest index that has been told by now. -/
structure Kn (c : Cf) (sl st now n : Int) : Prop where
  lo : 0 ≤ n
  hi : n ≤ c.k
  told : ∀ i, 1 ≤ i → i ≤ n → good c sl st now i
  next : n < c.k → ¬ good c sl st now (n + 1)

theorem round_in {n : Int} (h : roundB n = true) : 0 ≤ n ∧ n < 1048576 := of_decide_eq_true h
theorem key_in {c : Cf} {i : Int} (h : keyB c i = true) : 1 ≤ i ∧ i ≤ c.k := of_decide_eq_true h
theorem sin_in {c : Cf} {st r : Int} (h : sinB c st r = true) : okB c = true ∧ (0 ≤ st ∧ st < 1048576) ∧ 0 ≤ r ∧ r < 1048576 := by
  simp only [sinB, Bool.and_eq_true] at h
  exact ⟨h.1.1, round_in h.1.2, round_in h.2⟩
theorem wh_in {c : Cf} {sl st i : Int} (h : whB c sl st i = true) : okB c = true ∧ (0 ≤ st ∧ st < 1048576) ∧ (1 ≤ i ∧ i ≤ c.k) ∧ cellB c (st + i + c.d) sl = true := by
  simp only [whB, Bool.and_eq_true] at h
  exact ⟨h.1.1.1, round_in h.1.1.2, key_in h.1.2, h.2⟩
theorem kn_in {c : Cf} {sl st now : Int} (h : knB c sl st now = true) : placeB c now = true ∧ (0 ≤ st ∧ st < 1048576) ∧ 0 ≤ sl ∧ sl < c.n := by
  simp only [knB, Bool.and_eq_true, decide_eq_true_eq] at h
  exact ⟨h.1.1, round_in h.1.2, h.2⟩
/-- Where the round is one, the key's time is one. -/
theorem wh_of {c : Cf} {sl st i : Int} (ho : okB c = true) (h0 : 0 ≤ st) (h1 : st < 1048576) (s0 : 0 ≤ sl) (s1 : sl < c.n) (k0 : 1 ≤ i) (k1 : i ≤ c.k) : whB c sl st i = decide (st + i + c.d < 1048576) := by
  have g := right_of ho
  have hd := g.d0
  have : 0 ≤ st + i + c.d := by omega
  simp [whB, roundB, keyB, cellB, nodeB, ho, h0, h1, s0, s1, k0, k1, this]
/-- Times rise with the keys. -/
theorem wh_rise {c : Cf} (ho : okB c = true) (sl st : Int) {i j : Int} (h : i ≤ j) : whN c sl st i ≤ whN c sl st j := by
  have hr := rnd_in ho
  unfold whN atN
  have : (st + i + c.d) * rndN c ≤ (st + j + c.d) * rndN c := Int.mul_le_mul_of_nonneg_right (by omega) (by omega)
  omega
theorem wh_next {c : Cf} (ho : okB c = true) (sl st i : Int) : whN c sl st i < whN c sl st (i + 1) := by
  have hr := rnd_in ho
  unfold whN atN
  have : (st + (i + 1) + c.d) * rndN c = (st + i + c.d) * rndN c + rndN c := by
    rw [show st + (i + 1) + c.d = (st + i + c.d) + 1 by omega, Int.add_mul, Int.one_mul]
  omega
theorem good_down {c : Cf} (ho : okB c = true) {sl st now i j : Int} (h : i ≤ j) (hg : good c sl st now j) : good c sl st now i :=
  ⟨by have := hg.1; omega, Int.le_trans (wh_rise ho sl st h) hg.2⟩
/-- A key is told, or it is not. -/
theorem Kn.iff {c : Cf} (ho : okB c = true) {sl st now n i : Int} (h : Kn c sl st now n) (k0 : 1 ≤ i) (k1 : i ≤ c.k) : good c sl st now i ↔ i ≤ n := by
  constructor
  · intro hg
    by_cases hlt : i ≤ n
    · exact hlt
    · have h0 := h.lo
      exact absurd (good_down ho (show n + 1 ≤ i by omega) hg) (h.next (by omega))
  · exact h.told i k0
theorem Kn.one {c : Cf} (ho : okB c = true) {sl st now n m : Int} (h : Kn c sl st now n) (h' : Kn c sl st now m) : n = m := by
  have a1 := h.lo; have a2 := h.hi; have b1 := h'.lo; have b2 := h'.hi
  rcases Int.lt_trichotomy n m with hlt | heq | hgt
  · have := (h.iff ho (i := m) (by omega) b2).1 (h'.told m (by omega) (by omega)); omega
  · exact heq
  · have := (h'.iff ho (i := n) (by omega) a2).1 (h.told n (by omega) (by omega)); omega
end Go.Proofs.Ytiolkbdjphhajaa
