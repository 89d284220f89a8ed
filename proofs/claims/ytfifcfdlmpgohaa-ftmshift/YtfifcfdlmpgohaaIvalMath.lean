/-
  Intervals over plain numbers. No program here.
-/
import Derived.Test.YtfifcfdlmpgohaaRateMath
namespace Go.Proofs.Ytfifcfdlmpgohaa

/-- Is the interval from a to b right? -/
def rightB (a b : Int) : Bool := decide (-1099511627776 ≤ a ∧ a ≤ b ∧ b ≤ 1099511627776)
/-- The greater of two, the lesser of two, as the language has them. -/
def mxN (a c : Int) : Int := if a < c then c else a
def mnN (b d : Int) : Int := if d < b then d else b
/-- Does the interval hold n? -/
def holdsB (a b n : Int) : Bool := decide (-1099511627776 ≤ a ∧ b ≤ 1099511627776 ∧ a ≤ n ∧ n ≤ b)

theorem rightB_true {a b : Int} (h : rightB a b = true) : -1099511627776 ≤ a ∧ a ≤ b ∧ b ≤ 1099511627776 := of_decide_eq_true h
theorem rightB_of {a b : Int} (h0 : -1099511627776 ≤ a) (h1 : a ≤ b) (h2 : b ≤ 1099511627776) : rightB a b = true := decide_eq_true ⟨h0, h1, h2⟩
theorem holdsB_right {a b n : Int} (h : holdsB a b n = true) : rightB a b = true := by
  have := of_decide_eq_true h
  exact rightB_of this.1 (by omega) this.2.1
theorem holdsB_of_not {a b n : Int} (h : rightB a b = false) : holdsB a b n = false := by
  cases hh : holdsB a b n
  · rfl
  · rw [holdsB_right hh] at h; cases h
theorem holdsB_eq {a b n : Int} (h : rightB a b = true) : holdsB a b n = decide (a ≤ n ∧ n ≤ b) := by
  have h1 := rightB_true h
  unfold holdsB
  by_cases h2 : a ≤ n ∧ n ≤ b
  · simp [h1.1, h1.2.2, h2.1, h2.2]
  · simp only [h1.1, h1.2.2, true_and]

/-- 'y holds all that x does': the meet is x itself. -/
def liesB (a b c d : Int) : Bool := decide (c ≤ a ∧ b ≤ d)
theorem lies_eq (a b c d : Int) : ((mxN a c == a) && (mnN b d == b)) = liesB a b c d := by
  unfold mxN mnN liesB
  by_cases h1 : a < c
  · have : ¬ c ≤ a := by omega
    rw [if_pos h1]
    simp [this]; omega
  · by_cases h2 : d < b
    · have : ¬ b ≤ d := by omega
      rw [if_neg h1, if_pos h2]
      simp [this]; omega
    · have h3 : c ≤ a := by omega
      have h4 : b ≤ d := by omega
      rw [if_neg h1, if_neg h2]
      simp [h3, h4]
end Go.Proofs.Ytfifcfdlmpgohaa
