/-
  What clocks go on by, over plain numbers. No program here.
-/
import Derived.Test.YtfifcfdlmpgohaaBase
namespace Go.Proofs.Ytfifcfdlmpgohaa

def mayB (a d : Int) : Bool := decide (0 ≤ d) && decide (d ≤ 49) && decide (0 ≤ a) && decide (a ≤ 1099511627776)
/-- A quotient, upwards. -/
def upN (a b : Int) : Int := if a % b = 0 then a / b else a / b + 1
def mostN (a d : Int) : Int := a * (100 + d) / (100 - d)
def leastN (a d : Int) : Int := upN (a * (100 - d)) (100 + d)
def spreadN (a d : Int) : Int := if mostN a d - a < a - leastN a d then a - leastN a d else mostN a d - a

theorem mayB_true {a d : Int} (h : mayB a d = true) : 0 ≤ d ∧ d ≤ 49 ∧ 0 ≤ a ∧ a ≤ 1099511627776 := by
  simp [mayB] at h; omega
theorem mayB_of {a d : Int} (h0 : 0 ≤ d) (h1 : d ≤ 49) (h2 : 0 ≤ a) (h3 : a ≤ 1099511627776) : mayB a d = true := by
  simp [mayB]; omega

theorem upN_le {x y z : Int} (hy : 0 < y) : upN x y ≤ z ↔ x ≤ z * y := by
  have hdm := Int.mul_ediv_add_emod x y
  have h0 := Int.emod_nonneg x (show y ≠ 0 by omega)
  have h1 := Int.emod_lt_of_pos x hy
  have hc : z * y = y * z := Int.mul_comm _ _
  unfold upN
  split
  · rename_i h
    constructor
    · intro hz
      have := Int.mul_le_mul_of_nonneg_left hz (show 0 ≤ y by omega)
      omega
    · intro hz
      refine Int.le_of_mul_le_mul_left (a := y) ?_ hy
      omega
  · rename_i h
    constructor
    · intro hz
      have h3 := Int.mul_le_mul_of_nonneg_left hz (show 0 ≤ y by omega)
      rw [Int.mul_add] at h3
      omega
    · intro hz
      have h4 : x / y < z := by
        refine Int.lt_of_mul_lt_mul_left (a := y) ?_ (by omega)
        omega
      omega
theorem upN_nonneg {x y : Int} (hx : 0 ≤ x) (hy : 0 < y) : 0 ≤ upN x y := by
  have := Int.ediv_nonneg hx (show 0 ≤ y by omega)
  unfold upN; split <;> omega

theorem prod_bound {a c : Int} (h2 : 0 ≤ a) (h3 : a ≤ 1099511627776) (hc0 : 0 ≤ c) (hc : c ≤ 149) : 0 ≤ a * c ∧ a * c ≤ 163827232538624 := by
  refine ⟨Int.mul_nonneg h2 hc0, ?_⟩
  have := Int.mul_le_mul h3 hc hc0 (show (0 : Int) ≤ 1099511627776 by omega)
  omega

theorem most_less {a d : Int} (h1 : d ≤ 49) : mostN a d - a = 2 * a * d / (100 - d) := by
  have hp : 100 - d ≠ 0 := by omega
  have : a * (100 + d) = 2 * a * d + a * (100 - d) := by
    rw [Int.mul_add, Int.mul_sub, Int.mul_assoc]; omega
  unfold mostN
  rw [this, Int.add_mul_ediv_right _ _ hp]
  omega
theorem most_le {b a d : Int} (h1 : d ≤ 49) : b ≤ mostN a d ↔ b * (100 - d) ≤ a * (100 + d) := by
  unfold mostN
  exact Int.le_ediv_iff_mul_le (by omega)
theorem le_most {a d : Int} (h0 : 0 ≤ d) (h1 : d ≤ 49) (h2 : 0 ≤ a) : a ≤ mostN a d := by
  rw [most_le h1]
  exact Int.mul_le_mul_of_nonneg_left (by omega) h2
theorem most_le3 {a d : Int} (h0 : 0 ≤ d) (h1 : d ≤ 49) (h2 : 0 ≤ a) : mostN a d ≤ 3 * a := by
  unfold mostN
  have : a * (100 + d) ≤ 3 * a * (100 - d) := by
    rw [Int.mul_comm 3 a, Int.mul_assoc]
    exact Int.mul_le_mul_of_nonneg_left (by omega) h2
  have h := Int.ediv_le_ediv (show 0 < 100 - d by omega) this
  rwa [Int.mul_ediv_cancel _ (show 100 - d ≠ 0 by omega)] at h
theorem least_le {b a d : Int} (h0 : 0 ≤ d) : leastN a d ≤ b ↔ a * (100 - d) ≤ b * (100 + d) := upN_le (by omega)
theorem least_le_self {a d : Int} (h0 : 0 ≤ d) (h2 : 0 ≤ a) : leastN a d ≤ a := by
  rw [least_le h0]
  exact Int.mul_le_mul_of_nonneg_left (by omega) h2
theorem least_nonneg {a d : Int} (h0 : 0 ≤ d) (h1 : d ≤ 49) (h2 : 0 ≤ a) : 0 ≤ leastN a d :=
  upN_nonneg (Int.mul_nonneg h2 (by omega)) (by omega)

/-- What is below is no greater than what is above. -/
theorem spread_most {a d : Int} (h0 : 0 ≤ d) (h1 : d ≤ 49) (h2 : 0 ≤ a) : spreadN a d = mostN a d - a := by
  unfold spreadN
  rw [if_neg]
  -- least a ≥ a - (most a - a)
  have hm := most_less (a := a) h1
  obtain ⟨q, hq⟩ : ∃ q, q = 2 * a * d / (100 - d) := ⟨_, rfl⟩
  rw [← hq] at hm
  have hn : ¬ leastN a d ≤ a - q - 1 := by
    rw [least_le h0]
    intro h
    -- 2 a d / (100 - d) ≥ 2 a d / (100 + d)
    have hx : 0 ≤ 2 * a * d := Int.mul_nonneg (by omega) h0
    have h5 := Int.lt_ediv_add_one_mul_self (2 * a * d) (show 0 < 100 - d by omega)
    rw [← hq] at h5
    have hq0 : 0 ≤ q := by rw [hq]; exact Int.ediv_nonneg hx (by omega)
    have h6 : (q + 1) * (100 - d) ≤ (q + 1) * (100 + d) := Int.mul_le_mul_of_nonneg_left (by omega) (by omega)
    have h7 : (a - q - 1) * (100 + d) = a * (100 + d) - (q + 1) * (100 + d) := by rw [← Int.sub_mul]; congr 1; omega
    have h8 : a * (100 + d) = 2 * a * d + a * (100 - d) := by rw [Int.mul_add, Int.mul_sub, Int.mul_assoc]; omega
    omega
  omega
theorem spread_mono {a b d : Int} (h0 : 0 ≤ d) (h1 : d ≤ 49) (h2 : 0 ≤ a) (hab : a ≤ b) : spreadN a d ≤ spreadN b d := by
  rw [spread_most h0 h1 h2, spread_most h0 h1 (by omega), most_less h1, most_less h1]
  refine Int.ediv_le_ediv (by omega) ?_
  exact Int.mul_le_mul_of_nonneg_right (by omega) h0
theorem spread_nonneg {a d : Int} (h0 : 0 ≤ d) (h1 : d ≤ 49) (h2 : 0 ≤ a) : 0 ≤ spreadN a d := by
  rw [spread_most h0 h1 h2]
  have := le_most h0 h1 h2
  omega
theorem spread_zero {a : Int} (h2 : 0 ≤ a) : spreadN a 0 = 0 := by
  rw [spread_most (by omega) (by omega) h2, most_less (by omega)]
  simp

/-- Two clocks in the same n beats. -/
theorem both_hold {a b n d : Int} (h0 : 0 ≤ d) (h1 : d ≤ 49) (ha0 : n * (100 - d) ≤ a) (ha1 : a ≤ n * (100 + d)) (hb0 : n * (100 - d) ≤ b) (hb1 : b ≤ n * (100 + d)) :
    leastN a d ≤ b ∧ b ≤ mostN a d := by
  rw [least_le h0, most_le h1]
  have e : n * (100 + d) * (100 - d) = n * (100 - d) * (100 + d) := by
    rw [Int.mul_assoc, Int.mul_assoc, Int.mul_comm (100 + d)]
  have g1 := Int.mul_le_mul_of_nonneg_right ha1 (show 0 ≤ 100 - d by omega)
  have g2 := Int.mul_le_mul_of_nonneg_right hb0 (show 0 ≤ 100 + d by omega)
  have g3 := Int.mul_le_mul_of_nonneg_right hb1 (show 0 ≤ 100 - d by omega)
  have g4 := Int.mul_le_mul_of_nonneg_right ha0 (show 0 ≤ 100 + d by omega)
  omega
theorem spread_holds {a b d : Int} (hl : leastN a d ≤ b) (hm : b ≤ mostN a d) : b - a ≤ spreadN a d ∧ a - b ≤ spreadN a d := by
  unfold spreadN; split <;> omega
end Go.Proofs.Ytfifcfdlmpgohaa
