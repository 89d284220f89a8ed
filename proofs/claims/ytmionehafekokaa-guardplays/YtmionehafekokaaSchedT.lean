/-
  The document's side: At, Speak, Patience.
-/
import Derived.Test.YtmionehafekokaaSchedS
import Derived.Test.YtmionehafekokaaSchedH
namespace Go.Proofs.Ytmionehafekokaa
open Go.ChangeShapes Go.WideShapes Go.ChangeAt Go.RowKit

/-- The document's quotient. -/
theorem up_sums {c : Cf} (ho : okB c = true) : ∃ x y : Int, IntKind.i64.wrap (quiN c + rndN c) = x ∧ IntKind.i64.wrap (x - 1) = y ∧ y.tdiv (rndN c) = upN (quiN c) (rndN c) ∧ ¬ rndN c = 0 ∧ (rndN c == 0) = false := by
  have hr := rnd_in ho
  have hq := qui_in ho
  exact ⟨quiN c + rndN c, quiN c + rndN c - 1, wrap_in (by omega) (by omega), wrap_in (by omega) (by omega), rfl, by omega, by simp; omega⟩

end Go.Proofs.Ytmionehafekokaa
