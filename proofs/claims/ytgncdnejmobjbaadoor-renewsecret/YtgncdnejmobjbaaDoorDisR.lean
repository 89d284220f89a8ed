/-
  The document's side: round, Index, Told, When, Over.
  The document's side: Secret, Known.
-/
import Derived.Test.YtgncdnejmobjbaaDoorDisA
import Derived.Test.YtgncdnejmobjbaaDoorSchedR
namespace Go.Proofs.YtgncdnejmobjbaaDoor
open Go.ChangeShapes Go.WideShapes Go.ChangeAt Go.RowKit
set_option maxRecDepth 20000

end Go.Proofs.YtgncdnejmobjbaaDoor

namespace Go.Proofs.YtgncdnejmobjbaaDoor
open Go.ChangeShapes Go.WideShapes Go.ChangeAt Go.RowKit
set_option maxRecDepth 20000

/-- n is the greatest index below j that has been told by now. -/
structure KnU (c : Cf) (sl st now j n : Int) : Prop where
  lo : 0 ≤ n
  hi : n < j
  told : ∀ i, 1 ≤ i → i ≤ n → good c sl st now i
  next : n + 1 < j → ¬ good c sl st now (n + 1)
theorem KnU.yes {c : Cf} (ho : okB c = true) {sl st now j n : Int} (h : KnU c sl st now j n) (hg : good c sl st now j) : KnU c sl st now (j + 1) j :=
  ⟨by have := h.lo; have := h.hi; omega, by omega, fun i _ h1 => good_down ho h1 hg, fun h => by omega⟩
theorem KnU.no {c : Cf} {sl st now j n : Int} (h : KnU c sl st now j n) (hg : ¬ good c sl st now j) : KnU c sl st now (j + 1) n :=
  ⟨h.lo, by have := h.hi; omega, h.told, fun hlt => by
    by_cases he : n + 1 = j
    · rw [he]; exact hg
    · have := h.hi; exact h.next (by omega)⟩
theorem KnU.done {c : Cf} {sl st now n : Int} (h : KnU c sl st now (c.k + 1) n) : Kn c sl st now n := ⟨h.lo, by have := h.hi; omega, h.told, fun hlt => h.next (by omega)⟩

end Go.Proofs.YtgncdnejmobjbaaDoor
