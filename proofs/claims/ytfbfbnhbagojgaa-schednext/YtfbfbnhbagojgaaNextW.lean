/-
  The walk of SchedNext.
-/
import Derived.Test.YtfbfbnhbagojgaaSchedV
namespace Go.Proofs.Ytfbfbnhbagojgaa
open Go.ChangeShapes Go.WideShapes Go.ChangeAt Go.RowKit

/-- The round ahead of the next one. -/
theorem next_was {c : Cf} {i t : Int} (h : nextB c i t = true) : cellB c (nextN c i t) i = true ∧ ¬ atN c (nextN c i t) i < t ∧ 0 ≤ nextN c i t ∧ IntKind.i64.wrap (nextN c i t - 1) = nextN c i t - 1 ∧
    (nextN c i t = 0 → cellB c (nextN c i t - 1) i = false) ∧ (0 < nextN c i t → cellB c (nextN c i t - 1) i = true ∧ atN c (nextN c i t - 1) i < t) := by
  obtain ⟨hn, t0, t1, hx⟩ := next_ok' h
  have h5 := next_in hn t0
  refine ⟨by simp [cellB, hn, h5.2.2.2.1, hx], by omega, h5.2.2.2.1, wrap_in (by omega) (by omega), fun h => ?_, fun h => ⟨?_, ?_⟩⟩
  · simp [cellB, h]
  · simp only [cellB, hn, Bool.and_true, decide_eq_true_eq]; omega
  · have := h5.2.2.1
    unfold atN at this ⊢
    rw [Int.sub_mul, Int.one_mul]
    omega

set_option maxHeartbeats 3200000 in
set_option maxRecDepth 20000 in
theorem next_walk (c : Cf) (i t : Int) (w : World) : Calls Try.prog 6 #[.agg (cfC c), .int .i64 i, .int .i64 t] w fun e w' => e = .returned (.bool true) ∧ Below w.heap.size w w' := by
  have HL : Hid ((Instr.loadAt 23 (.pointer (some ⟨w.heap.size, 0, none⟩))).run Try.prog (w.alloc (.cells (cfC c) 23)) = .ok (.agg (cfC c)) (w.alloc (.cells (cfC c) 23))) := (CfAt.new w c).loads
  have H0 : Hid (Cfg w w.heap.size c (w.alloc (.cells (cfC c) 23))) := Cfg.new w c
  have K1 : Hid (∀ W, Calls Try.prog 25 #[.agg (cfC c), .int .i64 i, .int .i64 t] W fun e w' => e = .returned (nextV c i t) ∧ Below W.heap.size W w') := fun W => next_ok W c i t
  have KA : Hid (∀ W, Calls Try.prog 18 #[] W fun e w' => e = .returned (.bool true) ∧ Below W.heap.size W w') := fun W => awake_ok W
  cases hn : nextB c i t
  · rw [nextV, hn, if_neg Bool.false_ne_true] at K1
    clear hn
    go_enter Try.func6, Try.ntmps6
    go_wp2_with (first | (refine wpList_gload_run rfl 23 _ rfl _ _ rfl HL.out ?_) | fail)
    refine (K1.out _).mono ?_
    rintro e w1 ⟨rfl, hb⟩
    have H1 : Hid (Cfg w w.heap.size c w1) := H0.out.step hb
    clear K1 HL H0 hb
    go_wp2_with fail
    refine (KA.out _).mono ?_
    rintro e w2 ⟨rfl, hb⟩
    have H2 : Hid (Cfg w w.heap.size c w2) := H1.out.step hb
    clear KA H1 hb
    go_wp2
    go_ret
    exact ⟨rfl, H2.out.bel⟩
  rw [nextV, hn, if_pos rfl] at K1
  obtain ⟨d1, d2, d3, d4, d5, d6⟩ := next_was hn
  clear hn
  generalize nextN c i t = Q at *
  have K2 : Hid (∀ W, Calls Try.prog 21 #[.agg (cfC c), .int .i64 Q, .int .i64 i] W fun e w' => e = .returned (.tuple #[.int .i64 (atN c Q i), .int .i64 0]) ∧ Below W.heap.size W w') := fun W => by
    have := at_ok W c Q i
    rw [atV, if_pos d1] at this
    exact this
  have K3 : ∀ W, Calls Try.prog 21 #[.agg (cfC c), .int .i64 (Q - 1), .int .i64 i] W fun e w' => e = .returned (atV c (Q - 1) i) ∧ Below W.heap.size W w' := fun W => at_ok W c _ i
  obtain ⟨U, hU⟩ : ∃ U, U = Q - 1 := ⟨_, rfl⟩
  have e4 : IntKind.i64.wrap (Q - 1) = U := by rw [hU]; exact d4
  rw [← hU] at d5 d6 K3
  clear d4
  clear d1 hU
  generalize atN c Q i = T at *
  by_cases hq : 0 < Q
  · have hc := d6 hq
    unfold atV at K3
    rw [hc.1, if_pos rfl] at K3
    have K3' : Hid (∀ W, Calls Try.prog 21 #[.agg (cfC c), .int .i64 U, .int .i64 i] W fun e w' => e = .returned (.tuple #[.int .i64 (atN c U i), .int .i64 0]) ∧ Below W.heap.size W w') := K3
    have d7 := hc.2
    generalize atN c U i = T2 at *
    clear K3 hc d5 d6 d3
    go_enter Try.func6, Try.ntmps6
    go_wp2_with (first | (refine wpList_gload_run rfl 23 _ rfl _ _ rfl HL.out ?_) | fail)
    refine (K1.out _).mono ?_
    rintro e w1 ⟨rfl, hb⟩
    have H1 : Hid (Cfg w w.heap.size c w1) := H0.out.step hb
    clear K1 HL H0 hb
    obtain ⟨p0, p1, p2, p3, p4, p5, p6, p7, p8, p9⟩ := H1.out.held.1
    go_wp2_with fail
    refine (K2.out _).mono ?_
    rintro e w2 ⟨rfl, hb⟩
    have H2 : Hid (Cfg w w.heap.size c w2) := H1.out.step hb
    clear K2 H1 hb p0 p1 p2 p3 p4 p5 p6 p7 p8 p9
    obtain ⟨p0, p1, p2, p3, p4, p5, p6, p7, p8, p9⟩ := H2.out.held.1
    go_wp2_with fail
    refine (K3'.out _).mono ?_
    rintro e w3 ⟨rfl, hb⟩
    have H3 : Hid (Cfg w w.heap.size c w3) := H2.out.step hb
    clear K3' H2 hb p0 p1 p2 p3 p4 p5 p6 p7 p8 p9
    go_wp2_with fail
    refine (KA.out _).mono ?_
    rintro e w4 ⟨rfl, hb⟩
    have H4 : Hid (Cfg w w.heap.size c w4) := H3.out.step hb
    clear KA H3 hb
    go_wp2
    go_ret
    exact ⟨by first | rfl | (simp [hq]; done), H4.out.bel⟩
  · have hz : Q = 0 := by omega
    have hc := d5 hz
    unfold atV at K3
    rw [hc, if_neg Bool.false_ne_true] at K3
    have K3' : Hid (∀ W, Calls Try.prog 21 #[.agg (cfC c), .int .i64 U, .int .i64 i] W fun e w' => e = .returned (.tuple #[.int .i64 0, .int .i64 1]) ∧ Below W.heap.size W w') := K3
    clear K3 hc d5 d6 d3 hz
    go_enter Try.func6, Try.ntmps6
    go_wp2_with (first | (refine wpList_gload_run rfl 23 _ rfl _ _ rfl HL.out ?_) | fail)
    refine (K1.out _).mono ?_
    rintro e w1 ⟨rfl, hb⟩
    have H1 : Hid (Cfg w w.heap.size c w1) := H0.out.step hb
    clear K1 HL H0 hb
    obtain ⟨p0, p1, p2, p3, p4, p5, p6, p7, p8, p9⟩ := H1.out.held.1
    go_wp2_with fail
    refine (K2.out _).mono ?_
    rintro e w2 ⟨rfl, hb⟩
    have H2 : Hid (Cfg w w.heap.size c w2) := H1.out.step hb
    clear K2 H1 hb p0 p1 p2 p3 p4 p5 p6 p7 p8 p9
    obtain ⟨p0, p1, p2, p3, p4, p5, p6, p7, p8, p9⟩ := H2.out.held.1
    go_wp2_with fail
    refine (K3'.out _).mono ?_
    rintro e w3 ⟨rfl, hb⟩
    have H3 : Hid (Cfg w w.heap.size c w3) := H2.out.step hb
    clear K3' H2 hb p0 p1 p2 p3 p4 p5 p6 p7 p8 p9
    go_wp2_with fail
    refine (KA.out _).mono ?_
    rintro e w4 ⟨rfl, hb⟩
    have H4 : Hid (Cfg w w.heap.size c w4) := H3.out.step hb
    clear KA H3 hb
    go_wp2
    go_ret
    exact ⟨by first | rfl | (simp [hq]; done), H4.out.bel⟩
end Go.Proofs.Ytfbfbnhbagojgaa
