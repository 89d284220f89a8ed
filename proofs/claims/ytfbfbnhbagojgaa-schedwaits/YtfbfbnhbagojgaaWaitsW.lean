/-
  The walk of SchedWaits.
-/
import Derived.Test.YtfbfbnhbagojgaaSchedV
namespace Go.Proofs.Ytfbfbnhbagojgaa
open Go.ChangeShapes Go.WideShapes Go.ChangeAt Go.RowKit

/-- The last node's patience. -/
theorem wait_last {c : Cf} {i : Int} (h : nodeB c i = true) (hi : i = c.n - 1) : ∃ b d : Int, IntKind.i64.wrap (c.d + 1) = b ∧ IntKind.i64.wrap (2 * b) = d ∧ IntKind.i64.wrap (d + 8) = patN c i := by
  have g := right_of (node_ok h).1
  have h3 := g.d0; have h4 := g.d1
  have hp : patN c i = 2 * (c.d + 1) + 8 := by rw [patN, if_pos h, hi]; simp
  exact ⟨c.d + 1, 2 * (c.d + 1), wrap_in (by omega) (by omega), wrap_in (by omega) (by omega), by rw [hp]; exact wrap_in (by omega) (by omega)⟩
/-- One node's patience, and the next one's. -/
theorem wait_more {c : Cf} {i : Int} (h : nodeB c i = true) (hi : ¬ i = c.n - 1) : ∃ a b x : Int, IntKind.i64.wrap (i + 1) = i + 1 ∧ IntKind.i64.wrap (patN c i - patN c (i + 1)) = a ∧ IntKind.i64.wrap (a - 6) = b ∧ IntKind.i64.wrap (b * rndN c) = x ∧ quiN c ≤ x ∧ 2 * rndN c < quiN c := by
  obtain ⟨ho, i0, i1⟩ := node_ok h
  have hr := rnd_in ho
  have hq := qui_in ho
  have hu := up_in (a := quiN c) (b := rndN c) (by omega) (by omega)
  have g1 := (right_of ho).n1
  have h2 : nodeB c (i + 1) = true := by simp only [nodeB, ho, Bool.true_and, decide_eq_true_eq]; omega
  have hd : patN c i - patN c (i + 1) = 6 + upN (quiN c) (rndN c) := by
    rw [patN, if_pos h, patN, if_pos h2]
    have : (c.n - 1 - i) * (6 + upN (quiN c) (rndN c)) = (c.n - 1 - (i + 1)) * (6 + upN (quiN c) (rndN c)) + (6 + upN (quiN c) (rndN c)) := by
      rw [show c.n - 1 - i = (c.n - 1 - (i + 1)) + 1 by omega, Int.add_mul, Int.one_mul]
    omega
  refine ⟨6 + upN (quiN c) (rndN c), upN (quiN c) (rndN c), upN (quiN c) (rndN c) * rndN c, wrap_in (by omega) (by omega), by rw [hd]; exact wrap_in (by omega) (by omega), ?_, wrap_in (by omega) (by omega), by omega, by omega⟩
  rw [show 6 + upN (quiN c) (rndN c) - 6 = upN (quiN c) (rndN c) by omega]
  exact wrap_in (by omega) (by omega)

set_option maxHeartbeats 3200000 in
set_option maxRecDepth 20000 in
theorem waits_walk (c : Cf) (i : Int) (w : World) : Calls Try.prog 7 #[.agg (cfC c), .int .i64 i] w fun e w' => e = .returned (.bool true) ∧ Below w.heap.size w w' := by
  have HL : Hid ((Instr.loadAt 23 (.pointer (some ⟨w.heap.size, 0, none⟩))).run Try.prog (w.alloc (.cells (cfC c) 23)) = .ok (.agg (cfC c)) (w.alloc (.cells (cfC c) 23))) := (CfAt.new w c).loads
  have H0 : Hid (Cfg w w.heap.size c (w.alloc (.cells (cfC c) 23))) := Cfg.new w c
  have K1 := check_ok (w.alloc (.cells (cfC c) 23)) c
  have K2 : Hid (∀ W, Calls Try.prog 16 #[.agg (cfC c), .int .i64 i] W fun e w' => e = .returned (.int .i64 (patN c i)) ∧ Below W.heap.size W w') := fun W => patience_ok W c i
  have KA : Hid (∀ W, Calls Try.prog 18 #[] W fun e w' => e = .returned (.bool true) ∧ Below W.heap.size W w') := fun W => awake_ok W
  cases ho : okB c
  · rw [ho, if_neg Bool.false_ne_true] at K1
    rw [show patN c i = 0 by simp [patN, nodeB, ho]] at K2
    clear ho
    go_enter Try.func7, Try.ntmps7
    go_wp2_with (first | (refine wpList_gload_run rfl 23 _ rfl _ _ rfl HL.out ?_) | fail)
    refine K1.mono ?_
    rintro e w1 ⟨rfl, hb⟩
    have H1 : Hid (Cfg w w.heap.size c w1) := H0.out.step hb
    clear K1 HL H0 hb
    obtain ⟨p0, p1, p2, p3, p4, p5, p6, p7, p8, p9⟩ := H1.out.held.1
    go_wp2_with fail
    refine (K2.out _).mono ?_
    rintro e w2 ⟨rfl, hb⟩
    have H2 : Hid (Cfg w w.heap.size c w2) := H1.out.step hb
    clear K2 H1 hb p0 p1 p2 p3 p4 p5 p6 p7 p8 p9
    go_wp2_with fail
    refine (KA.out _).mono ?_
    rintro e w3 ⟨rfl, hb⟩
    have H3 : Hid (Cfg w w.heap.size c w3) := H2.out.step hb
    clear KA H2 hb
    go_wp2
    go_ret
    exact ⟨rfl, H3.out.bel⟩
  rw [ho, if_pos rfl] at K1
  by_cases s0 : 0 ≤ i
  case neg =>
    rw [show patN c i = 0 by simp [patN, nodeB, s0]] at K2
    clear ho
    go_enter Try.func7, Try.ntmps7
    go_wp2_with (first | (refine wpList_gload_run rfl 23 _ rfl _ _ rfl HL.out ?_) | fail)
    refine K1.mono ?_
    rintro e w1 ⟨rfl, hb⟩
    have H1 : Hid (Cfg w w.heap.size c w1) := H0.out.step hb
    clear K1 HL H0 hb
    obtain ⟨p0, p1, p2, p3, p4, p5, p6, p7, p8, p9⟩ := H1.out.held.1
    go_wp2_with fail
    refine (K2.out _).mono ?_
    rintro e w2 ⟨rfl, hb⟩
    have H2 : Hid (Cfg w w.heap.size c w2) := H1.out.step hb
    clear K2 H1 hb p0 p1 p2 p3 p4 p5 p6 p7 p8 p9
    go_wp2_with fail
    refine (KA.out _).mono ?_
    rintro e w3 ⟨rfl, hb⟩
    have H3 : Hid (Cfg w w.heap.size c w3) := H2.out.step hb
    clear KA H2 hb
    go_wp2
    go_ret
    exact ⟨rfl, H3.out.bel⟩
  by_cases s1 : i < c.n
  case neg =>
    rw [show patN c i = 0 by simp [patN, nodeB, s1]] at K2
    clear ho
    go_enter Try.func7, Try.ntmps7
    go_wp2_with (first | (refine wpList_gload_run rfl 23 _ rfl _ _ rfl HL.out ?_) | fail)
    refine K1.mono ?_
    rintro e w1 ⟨rfl, hb⟩
    have H1 : Hid (Cfg w w.heap.size c w1) := H0.out.step hb
    clear K1 HL H0 hb
    obtain ⟨p0, p1, p2, p3, p4, p5, p6, p7, p8, p9⟩ := H1.out.held.1
    go_wp2_with fail
    refine (K2.out _).mono ?_
    rintro e w2 ⟨rfl, hb⟩
    have H2 : Hid (Cfg w w.heap.size c w2) := H1.out.step hb
    clear K2 H1 hb p0 p1 p2 p3 p4 p5 p6 p7 p8 p9
    go_wp2_with fail
    refine (KA.out _).mono ?_
    rintro e w3 ⟨rfl, hb⟩
    have H3 : Hid (Cfg w w.heap.size c w3) := H2.out.step hb
    clear KA H2 hb
    go_wp2
    go_ret
    exact ⟨rfl, H3.out.bel⟩
  have hn : nodeB c i = true := by simp [nodeB, ho, s0, s1]
  have e0 : IntKind.i64.wrap (c.n - 1) = c.n - 1 := by have g := right_of ho; have h1 := g.n0; have h2 := g.n1; exact wrap_in (by omega) (by omega)
  by_cases hi : i = c.n - 1
  · obtain ⟨b, d, e1, e2, e3⟩ := wait_last hn hi
    have HI : Hid (i = c.n - 1) := hi
    generalize patN c i = P at *
    have d1 : (i == c.n - 1) = true := by simp [hi]
    clear hn ho hi
    go_enter Try.func7, Try.ntmps7
    go_wp2_with (first | (refine wpList_gload_run rfl 23 _ rfl _ _ rfl HL.out ?_) | fail)
    refine K1.mono ?_
    rintro e w1 ⟨rfl, hb⟩
    have H1 : Hid (Cfg w w.heap.size c w1) := H0.out.step hb
    clear K1 HL H0 hb
    obtain ⟨p0, p1, p2, p3, p4, p5, p6, p7, p8, p9⟩ := H1.out.held.1
    go_wp2_with fail
    refine (K2.out _).mono ?_
    rintro e w2 ⟨rfl, hb⟩
    have H2 : Hid (Cfg w w.heap.size c w2) := H1.out.step hb
    clear K2 H1 hb p0 p1 p2 p3 p4 p5 p6 p7 p8 p9
    have p0 := H2.out.own.c0
    have p3 := H2.out.own.c3
    go_wp2_with fail
    refine (KA.out _).mono ?_
    rintro e w3 ⟨rfl, hb⟩
    have H3 : Hid (Cfg w w.heap.size c w3) := H2.out.step hb
    clear KA H2 hb
    go_wp2
    go_ret
    exact ⟨rfl, H3.out.bel⟩
  · obtain ⟨a, b, x, e1, e2, e3, e4, h5, h6⟩ := wait_more hn hi
    have d1 : (i == c.n - 1) = false := by simp [hi]
    have K3 : Hid (∀ W, Calls Try.prog 16 #[.agg (cfC c), .int .i64 (i + 1)] W fun e w' => e = .returned (.int .i64 (patN c (i + 1))) ∧ Below W.heap.size W w') := fun W => patience_ok W c (i + 1)
    have K4 : Hid (∀ W, Calls Try.prog 10 #[.agg (cfC c)] W fun e w' => e = .returned (.int .i64 (rndN c)) ∧ Below W.heap.size W w') := fun W => round_ok W c
    have K5 : Hid (∀ W, Calls Try.prog 14 #[.agg (cfC c)] W fun e w' => e = .returned (.int .i64 (quiN c)) ∧ Below W.heap.size W w') := fun W => quiet_ok W c
    have K6 : Hid (∀ W, Calls Try.prog 12 #[.agg (cfC c)] W fun e w' => e = .returned (.int .i64 (2 * rndN c)) ∧ Below W.heap.size W w') := fun W => keep_ok W c
    generalize patN c (i + 1) = P2 at *
    generalize patN c i = P at *
    obtain ⟨i2, hi2⟩ : ∃ i2, i2 = i + 1 := ⟨_, rfl⟩
    have e5 : IntKind.i64.wrap (i + 1) = i2 := by rw [hi2]; exact e1
    rw [← hi2] at K3
    clear e1 hi2
    generalize 2 * rndN c = S at *
    generalize rndN c = R at *
    generalize quiN c = Q at *
    clear hn ho
    go_enter Try.func7, Try.ntmps7
    go_wp2_with (first | (refine wpList_gload_run rfl 23 _ rfl _ _ rfl HL.out ?_) | fail)
    refine K1.mono ?_
    rintro e w1 ⟨rfl, hb⟩
    have H1 : Hid (Cfg w w.heap.size c w1) := H0.out.step hb
    clear K1 HL H0 hb
    obtain ⟨p0, p1, p2, p3, p4, p5, p6, p7, p8, p9⟩ := H1.out.held.1
    go_wp2_with fail
    refine (K2.out _).mono ?_
    rintro e w2 ⟨rfl, hb⟩
    have H2 : Hid (Cfg w w.heap.size c w2) := H1.out.step hb
    clear K2 H1 hb p0 p1 p2 p3 p4 p5 p6 p7 p8 p9
    have p0 := H2.out.own.c0
    go_upto_region 6 with fail
    clear p0 s0 s1 hi d1 e0
    generalize hg : w.heap.size = g at *
    have HG : Hid (w.heap.size = g) := hg
    clear hg
    go_region_held3 (fun V => (V.cell? ⟨g, 0, none⟩ = some (.int .i64 c.n) ∧ V.cell? ⟨g, 1, none⟩ = some (.int .i64 c.f) ∧ V.cell? ⟨g, 2, none⟩ = some (.int .i64 c.s) ∧ V.cell? ⟨g, 3, none⟩ = some (.int .i64 c.d) ∧ V.cell? ⟨g, 4, none⟩ = some (.int .i64 c.k) ∧ V.cell? ⟨g, 5, none⟩ = some (.int .i64 c.e) ∧ V.cell? ⟨g, 6, none⟩ = some (.int .i64 c.v) ∧ V.cell? ⟨g, 7, none⟩ = some (.int .i64 c.r) ∧ V.cell? ⟨g, 8, none⟩ = some (.int .i64 c.l) ∧ V.cell? ⟨g, 9, none⟩ = some (.int .i64 c.p)) ∧ Cfg w g c V)
      (first | exact H2.out.held | assumption | exact (Cfg.drew (And.right (by assumption))).held | exact H2.out.drew.held)
      (first | (go_at_call 16; refine (K3.out _).mono ?_; rintro e w3 ⟨rfl, hb⟩; replace hb := (Cfg.step (And.right (by assumption)) hb).held)
             | (go_at_call 10; refine (K4.out _).mono ?_; rintro e w3 ⟨rfl, hb⟩; replace hb := (Cfg.step (And.right (by assumption)) hb).held)
             | (go_at_call 14; refine (K5.out _).mono ?_; rintro e w3 ⟨rfl, hb⟩; replace hb := (Cfg.step (And.right (by assumption)) hb).held)
             | (go_at_call 12; refine (K6.out _).mono ?_; rintro e w3 ⟨rfl, hb⟩; replace hb := (Cfg.step (And.right (by assumption)) hb).held)
             | (go_at_call 18; refine (KA.out _).mono ?_; rintro e w3 ⟨rfl, hb⟩; replace hb := (Cfg.step (And.right (by assumption)) hb).held))
    all_goals
      rename_i hh
      have H3 : Hid (Cfg w g c _) := hh.2
      clear hh H2
      go_wp2
      go_ret
      exact ⟨rfl, HG.out ▸ H3.out.bel⟩
end Go.Proofs.Ytfbfbnhbagojgaa
