/-
  The walk of RateBeats, out of the contracts.
-/
import Derived.Test.YtmdpfkilkmicjaaRateCalls
import Derived.Test.YtmdpfkilkmicjaaNums
namespace Go.Proofs.Ytmdpfkilkmicjaa
open Go.ChangeShapes Go.WideShapes Go.ChangeAt Go.RowKit

/-- What a clock with drift k goes on by in a beat for which x is drawn. -/
def beatN (k x : Int) : Int := 100 + (if k < (if x < -k then -k else x) then k else if x < -k then -k else x)
/-- .. and in the beats of a list. -/
def goneN (k : Int) : List Int → Int
  | [] => 0
  | x :: l => beatN k x + goneN k l
theorem beatN_bounds (k x : Int) (h0 : 0 ≤ k) : 100 - k ≤ beatN k x ∧ beatN k x ≤ 100 + k := by
  unfold beatN; split <;> split <;> omega
theorem goneN_snoc (k : Int) : ∀ (l : List Int) (x : Int), goneN k (l ++ [x]) = goneN k l + beatN k x
  | [], x => by simp [goneN]
  | y :: l, x => by simp only [List.cons_append, goneN, goneN_snoc k l x]; omega
theorem goneN_bounds (k : Int) (h0 : 0 ≤ k) : ∀ l : List Int, (l.length : Int) * (100 - k) ≤ goneN k l ∧ goneN k l ≤ (l.length : Int) * (100 + k)
  | [] => by simp [goneN]
  | x :: l => by
    have h1 := beatN_bounds k x h0
    have h2 := goneN_bounds k h0 l
    simp only [goneN, List.length_cons]
    rw [show ((l.length + 1 : Nat) : Int) = (l.length : Int) + 1 by omega, Int.add_mul, Int.add_mul]
    omega
theorem goneN_small (k : Int) (h0 : 0 ≤ k) (h1 : k ≤ 49) (l : List Int) (hl : l.length ≤ 1000) : 0 ≤ goneN k l ∧ goneN k l ≤ 149000 := by
  have h2 := goneN_bounds k h0 l
  have h3 : 0 ≤ (l.length : Int) * (100 - k) := Int.mul_nonneg (by omega) (by omega)
  have h4 := Int.mul_le_mul (show (l.length : Int) ≤ 1000 by omega) (show 100 + k ≤ 149 by omega) (show 0 ≤ 100 + k by omega) (show (0 : Int) ≤ 1000 by omega)
  omega

end Go.Proofs.Ytmdpfkilkmicjaa
