/-
  The contracts of isNode, isTime, begin, upwards, Patience and of the statements' awake.
-/
import Derived.Test.YtmionehafekokaaSchedD
namespace Go.Proofs.Ytmionehafekokaa
open Go.ChangeShapes Go.WideShapes Go.ChangeAt Go.RowKit

theorem istime_ok (w : World) (t : Int) : Calls Try.prog 25 #[.int .i64 t] w fun e w' => e = .returned (.bool (timeB t)) ∧ w' = w := by
  by_cases h0 : 0 ≤ t
  · have hN : timeB t = decide (t ≤ 1099511627776) := by simp [timeB, h0]
    rw [hN]
    clear hN
    by_cases h1 : t ≤ 1099511627776
    all_goals
      simp only [h1, decide_true, decide_false]
      go_enter Try.func25, Try.ntmps25
      go_wp2
      go_ret
      exact ⟨by first | rfl | (simp; done) | (simp; omega), rfl⟩
  · rw [show timeB t = false by simp [timeB, h0]]
    go_enter Try.func25, Try.ntmps25
    go_wp2
    go_ret
    exact ⟨by first | rfl | (simp; done) | (simp; omega), rfl⟩

/-- Patience's sums. -/
theorem pat_sums {c : Cf} {i : Int} (h : nodeB c i = true) : ∃ a b d x y z t P u : Int, upN (quiN c) (rndN c) = u ∧ IntKind.i64.wrap (6 + u) = a ∧ IntKind.i64.wrap (c.d + 1) = b ∧ IntKind.i64.wrap (2 * b) = d ∧ IntKind.i64.wrap (d + 8) = x ∧ IntKind.i64.wrap (c.n - 1) = y ∧
    IntKind.i64.wrap (y - i) = z ∧ IntKind.i64.wrap (z * a) = t ∧ IntKind.i64.wrap (x + t) = P ∧ patN c i = P ∧ IntKind.i64.wrap u = u := by
  obtain ⟨ho, i0, i1⟩ := node_ok h
  have hr := rnd_in ho
  have hq := qui_in ho
  have g := right_of ho
  have h1 := g.n0; have h2 := g.n1; have h3 := g.d0; have h4 := g.d1
  have hu := up_in (a := quiN c) (b := rndN c) (by omega) (by omega)
  have hp : patN c i = 2 * (c.d + 1) + 8 + (c.n - 1 - i) * (6 + upN (quiN c) (rndN c)) := by rw [patN, if_pos h]
  have a1 : 0 ≤ (c.n - 1 - i) * (6 + upN (quiN c) (rndN c)) := Int.mul_nonneg (by omega) (by omega)
  have a2 : (c.n - 1 - i) * (6 + upN (quiN c) (rndN c)) ≤ 8 * (6 + upN (quiN c) (rndN c)) := Int.mul_le_mul_of_nonneg_right (by omega) (by omega)
  exact ⟨6 + upN (quiN c) (rndN c), c.d + 1, 2 * (c.d + 1), 2 * (c.d + 1) + 8, c.n - 1, c.n - 1 - i, (c.n - 1 - i) * (6 + upN (quiN c) (rndN c)), patN c i, upN (quiN c) (rndN c), rfl,
    wrap_in (by omega) (by omega), wrap_in (by omega) (by omega), wrap_in (by omega) (by omega), wrap_in (by omega) (by omega), wrap_in (by omega) (by omega), wrap_in (by omega) (by omega), wrap_in (by omega) (by omega),
    by rw [hp]; exact wrap_in (by omega) (by omega), rfl, wrap_in (by omega) (by omega)⟩

/-- The usual config. -/
def usualC : Cf := ⟨3, 0, 400, 1, 16, 400, 400, 1, 2, 8⟩
end Go.Proofs.Ytmionehafekokaa
