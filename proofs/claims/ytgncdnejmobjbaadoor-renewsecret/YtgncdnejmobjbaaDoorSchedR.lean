/-
  The document's side: from and Check.
  The document's side: Round, Keep, Quiet.
  The document's side: At, Speak, Patience.
  The document's side: Place.
-/
import Derived.Test.YtgncdnejmobjbaaDoorSchedC
namespace Go.Proofs.YtgncdnejmobjbaaDoor
open Go.ChangeShapes Go.WideShapes Go.ChangeAt Go.RowKit
set_option maxRecDepth 20000

def fromB (n a b : Int) : Bool := decide (a ≤ n ∧ n ≤ b)
theorem from_in {n a b : Int} (h : fromB n a b = true) : a ≤ n ∧ n ≤ b := of_decide_eq_true h

/-- A config is right, as the document asks it: in its order. -/
theorem ok_chain (c : Cf) : okB c = (fromB c.n 1 8 && fromB c.f 0 8 && decide (3 * c.f < c.n) && fromB c.s 300 10000 && fromB c.d 1 4 && fromB c.k (c.d + 4) 256 && fromB c.e 1 (4 * c.s) && fromB c.v 100 (4 * c.s) && fromB c.r 0 5 && fromB c.l 0 5 && fromB c.p 1 64) := by
  rw [Bool.eq_iff_iff]
  simp only [okB, nodesB, slotsB, keysB, clocksB, fromB, Bool.and_eq_true, decide_eq_true_eq]
  constructor
  · rintro ⟨⟨⟨⟨a1, a2, a3, a4⟩, b1, b2, b3, b4, b5, b6⟩, c1, c2, c3, c4, c5, c6⟩, d1, d2, d3, d4⟩
    exact ⟨⟨⟨⟨⟨⟨⟨⟨⟨⟨⟨a1, a2⟩, a3, by omega⟩, a4⟩, b1, b2⟩, c1, c2⟩, c3, c4⟩, b3, b4⟩, b5, b6⟩, d1, d2⟩, d3, d4⟩, c5, c6⟩
  · rintro ⟨⟨⟨⟨⟨⟨⟨⟨⟨⟨⟨a1, a2⟩, a3, _⟩, a4⟩, b1, b2⟩, c1, c2⟩, c3, c4⟩, b3, b4⟩, b5, b6⟩, d1, d2⟩, d3, d4⟩, c5, c6⟩
    exact ⟨⟨⟨⟨a1, a2, a3, a4⟩, b1, b2, b3, b4, b5, b6⟩, c1, c2, c3, c4, c5, c6⟩, d1, d2, d3, d4⟩

end Go.Proofs.YtgncdnejmobjbaaDoor

namespace Go.Proofs.YtgncdnejmobjbaaDoor
open Go.ChangeShapes Go.WideShapes Go.ChangeAt Go.RowKit
set_option maxRecDepth 20000

end Go.Proofs.YtgncdnejmobjbaaDoor

namespace Go.Proofs.YtgncdnejmobjbaaDoor
open Go.ChangeShapes Go.WideShapes Go.ChangeAt Go.RowKit
set_option maxRecDepth 20000

/-- The document's quotient. -/
theorem up_sums {c : Cf} (ho : okB c = true) : ∃ x y : Int, IntKind.i64.wrap (quiN c + rndN c) = x ∧ IntKind.i64.wrap (x - 1) = y ∧ y.tdiv (rndN c) = upN (quiN c) (rndN c) ∧ ¬ rndN c = 0 ∧ (rndN c == 0) = false := by
  have hr := rnd_in ho
  have hq := qui_in ho
  exact ⟨quiN c + rndN c, quiN c + rndN c - 1, wrap_in (by omega) (by omega), wrap_in (by omega) (by omega), rfl, by omega, by simp; omega⟩

end Go.Proofs.YtgncdnejmobjbaaDoor

namespace Go.Proofs.YtgncdnejmobjbaaDoor
open Go.ChangeShapes Go.WideShapes Go.ChangeAt Go.RowKit
set_option maxRecDepth 20000

end Go.Proofs.YtgncdnejmobjbaaDoor
