/-
  The contracts of isNode, isTime, begin, upwards, Patience and of the statements' awake.
-/
import Derived.Test.YtiolkbdjphhajaaSchedD
namespace Go.Proofs.Ytiolkbdjphhajaa
open Go.ChangeShapes Go.WideShapes Go.ChangeAt Go.RowKit

set_option maxHeartbeats 1600000 in
set_option maxRecDepth 20000 in
theorem isnode_ok (w : World) (c : Cf) (i : Int) : Calls Try.prog 33 #[.agg (cfC c), .int .i64 i] w fun e w' => e = .returned (.bool (nodeB c i)) ∧ Below w.heap.size w w' := by
  have HL : Hid ((Instr.loadAt 23 (.pointer (some ⟨w.heap.size, 0, none⟩))).run Try.prog (w.alloc (.cells (cfC c) 23)) = .ok (.agg (cfC c)) (w.alloc (.cells (cfC c) 23))) := (CfAt.new w c).loads
  have K1 := check_ok (w.alloc (.cells (cfC c) 23)) c
  have H0 : Hid (Cfg w w.heap.size c (w.alloc (.cells (cfC c) 23))) := Cfg.new w c
  cases ho : okB c
  · rw [ho, if_neg Bool.false_ne_true] at K1
    rw [show nodeB c i = false by simp [nodeB, ho]]
    clear ho
    go_enter Try.func33, Try.ntmps33
    go_wp2_with (first | (refine wpList_gload_run rfl 23 _ rfl _ _ rfl HL.out ?_) | fail)
    refine K1.mono ?_
    rintro e w1 ⟨rfl, hb⟩
    have H1 : Hid (Cfg w w.heap.size c w1) := H0.out.step hb
    clear K1 HL H0 hb
    go_wp2
    go_ret
    exact ⟨rfl, H1.out.bel⟩
  · rw [ho, if_pos rfl] at K1
    by_cases h0 : 0 ≤ i
    · have hN : nodeB c i = decide (i < c.n) := by simp [nodeB, ho, h0]
      rw [hN]
      clear hN
      by_cases h1 : i < c.n
      all_goals
        simp only [h1, decide_true, decide_false]
        clear ho
        go_enter Try.func33, Try.ntmps33
        go_wp2_with (first | (refine wpList_gload_run rfl 23 _ rfl _ _ rfl HL.out ?_) | fail)
        refine K1.mono ?_
        rintro e w1 ⟨rfl, hb⟩
        have H1 : Hid (Cfg w w.heap.size c w1) := H0.out.step hb
        have p0 := H1.out.own.c0
        clear K1 HL H0 hb
        go_wp2
        go_ret
        exact ⟨by first | rfl | (simp; done) | (simp; omega), H1.out.bel⟩
    · rw [show nodeB c i = false by simp [nodeB, h0]]
      clear ho
      go_enter Try.func33, Try.ntmps33
      go_wp2_with (first | (refine wpList_gload_run rfl 23 _ rfl _ _ rfl HL.out ?_) | fail)
      refine K1.mono ?_
      rintro e w1 ⟨rfl, hb⟩
      have H1 : Hid (Cfg w w.heap.size c w1) := H0.out.step hb
      clear K1 HL H0 hb
      go_wp2
      go_ret
      exact ⟨by first | rfl | (simp; done) | (simp; omega), H1.out.bel⟩

theorem istime_ok (w : World) (t : Int) : Calls Try.prog 36 #[.int .i64 t] w fun e w' => e = .returned (.bool (timeB t)) ∧ w' = w := by
  by_cases h0 : 0 ≤ t
  · have hN : timeB t = decide (t ≤ 1099511627776) := by simp [timeB, h0]
    rw [hN]
    clear hN
    by_cases h1 : t ≤ 1099511627776
    all_goals
      simp only [h1, decide_true, decide_false]
      go_enter Try.func36, Try.ntmps36
      go_wp2
      go_ret
      exact ⟨by first | rfl | (simp; done) | (simp; omega), rfl⟩
  · rw [show timeB t = false by simp [timeB, h0]]
    go_enter Try.func36, Try.ntmps36
    go_wp2
    go_ret
    exact ⟨by first | rfl | (simp; done) | (simp; omega), rfl⟩

theorem begin_ok (w : World) (c : Cf) (i u : Int) (e1 : IntKind.i64.wrap (i * c.s) = u) : Calls Try.prog 35 #[.agg (cfC c), .int .i64 i] w fun e w' => e = .returned (.int .i64 u) ∧ Below w.heap.size w w' := by
  have H0 : Hid (Cfg w w.heap.size c (w.alloc (.cells (cfC c) 23))) := Cfg.new w c
  have p2 := H0.out.own.c2
  go_enter Try.func35, Try.ntmps35
  go_wp2
  go_ret
  exact ⟨rfl, H0.out.bel⟩

/-- Patience's sums. -/
theorem pat_sums {c : Cf} {i : Int} (h : nodeB c i = true) : ∃ a b d x y z t P u : Int, upN (quiN c) (rndN c) = u ∧ IntKind.i64.wrap (6 + u) = a ∧ IntKind.i64.wrap (c.d + 1) = b ∧ IntKind.i64.wrap (2 * b) = d ∧ IntKind.i64.wrap (d + 8) = x ∧ IntKind.i64.wrap (c.n - 1) = y ∧
    IntKind.i64.wrap (y - i) = z ∧ IntKind.i64.wrap (z * a) = t ∧ IntKind.i64.wrap (x + t) = P ∧ patN c i = P ∧ IntKind.i64.wrap u = u := by
  obtain ⟨ho, i0, i1⟩ := node_ok h
  have hr := rnd_in ho
  have hq := qui_in ho
  have g := right_of ho
  have h1 := g.n0; have h2 := g.n1; have h3 := g.d0; have h4 := g.d1
  have hu := up_in (a := quiN c) (b := rndN c) (by omega) (by omega)
  have hp : patN c i = 2 * (c.d + 1) + 8 + (c.n - 1 - i) * (6 + upN (quiN c) (rndN c)) := by rw [patN, if_pos h]
  have a1 : 0 ≤ (c.n - 1 - i) * (6 + upN (quiN c) (rndN c)) := Int.mul_nonneg (by omega) (by omega)
  have a2 : (c.n - 1 - i) * (6 + upN (quiN c) (rndN c)) ≤ 8 * (6 + upN (quiN c) (rndN c)) := Int.mul_le_mul_of_nonneg_right (by omega) (by omega)
  exact ⟨6 + upN (quiN c) (rndN c), c.d + 1, 2 * (c.d + 1), 2 * (c.d + 1) + 8, c.n - 1, c.n - 1 - i, (c.n - 1 - i) * (6 + upN (quiN c) (rndN c)), patN c i, upN (quiN c) (rndN c), rfl,
    wrap_in (by omega) (by omega), wrap_in (by omega) (by omega), wrap_in (by omega) (by omega), wrap_in (by omega) (by omega), wrap_in (by omega) (by omega), wrap_in (by omega) (by omega), wrap_in (by omega) (by omega),
    by rw [hp]; exact wrap_in (by omega) (by omega), rfl, wrap_in (by omega) (by omega)⟩

/-- The usual config. -/
def usualC : Cf := ⟨3, 0, 400, 1, 16, 400, 400, 1, 2, 8⟩
end Go.Proofs.Ytiolkbdjphhajaa
