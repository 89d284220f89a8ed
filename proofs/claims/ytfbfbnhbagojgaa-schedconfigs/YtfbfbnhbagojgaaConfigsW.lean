/-
  The walk of SchedConfigs.
-/
import Derived.Test.YtfbfbnhbagojgaaSchedV
namespace Go.Proofs.Ytfbfbnhbagojgaa
open Go.ChangeShapes Go.WideShapes Go.ChangeAt Go.RowKit

set_option maxHeartbeats 3200000 in
set_option maxRecDepth 20000 in
theorem configs_walk (c : Cf) (i : Int) (w : World) : Calls Try.prog 3 #[.agg (cfC c), .int .i64 i] w fun e w' => e = .returned (.bool true) ∧ Below w.heap.size w w' := by
  have H0 : Hid (Cfg w w.heap.size c (w.alloc (.cells (cfC c) 23))) := Cfg.new w c
  have K8 : Hid (∀ W, Calls Try.prog 8 #[.agg (cfC c)] W fun e w' => e = .returned (.int .i64 (if okB c = true then 0 else 1)) ∧ Below W.heap.size W w') := fun W => check_ok W c
  have K9 : Hid (∀ W, Calls Try.prog 9 #[.agg (cfC c)] W fun e w' => e = .returned (.int .i64 (if okB c = true then 0 else 1)) ∧ Below W.heap.size W w') := fun W => rcheck_ok W c
  have K10 : Hid (∀ W, Calls Try.prog 10 #[.agg (cfC c)] W fun e w' => e = .returned (.int .i64 (rndN c)) ∧ Below W.heap.size W w') := fun W => round_ok W c
  have K11 : Hid (∀ W, Calls Try.prog 11 #[.agg (cfC c)] W fun e w' => e = .returned (.int .i64 (rndN c)) ∧ Below W.heap.size W w') := fun W => rround_ok W c
  have K12 : Hid (∀ W, Calls Try.prog 12 #[.agg (cfC c)] W fun e w' => e = .returned (.int .i64 (2 * rndN c)) ∧ Below W.heap.size W w') := fun W => keep_ok W c
  have K13 : Hid (∀ W, Calls Try.prog 13 #[.agg (cfC c)] W fun e w' => e = .returned (.int .i64 (2 * rndN c)) ∧ Below W.heap.size W w') := fun W => rkeep_ok W c
  have K14 : Hid (∀ W, Calls Try.prog 14 #[.agg (cfC c)] W fun e w' => e = .returned (.int .i64 (quiN c)) ∧ Below W.heap.size W w') := fun W => quiet_ok W c
  have K15 : Hid (∀ W, Calls Try.prog 15 #[.agg (cfC c)] W fun e w' => e = .returned (.int .i64 (quiN c)) ∧ Below W.heap.size W w') := fun W => rquiet_ok W c
  have K16 : Hid (∀ W, Calls Try.prog 16 #[.agg (cfC c), .int .i64 i] W fun e w' => e = .returned (.int .i64 (patN c i)) ∧ Below W.heap.size W w') := fun W => patience_ok W c i
  have K17 : Hid (∀ W, Calls Try.prog 17 #[.agg (cfC c), .int .i64 i] W fun e w' => e = .returned (.int .i64 (patN c i)) ∧ Below W.heap.size W w') := fun W => rpatience_ok W c i
  have K18 : Hid (∀ W, Calls Try.prog 18 #[] W fun e w' => e = .returned (.bool true) ∧ Below W.heap.size W w') := fun W => awake_ok W
  generalize (if okB c = true then (0 : Int) else 1) = E at *
  generalize 2 * rndN c = S at *
  generalize rndN c = R at *
  generalize quiN c = Q at *
  generalize patN c i = T at *
  go_enter Try.func3, Try.ntmps3
  go_upto_region 1 with fail
  generalize hg : w.heap.size = g at *
  generalize w.alloc (.cells (cfC c) 23) = W at *
  have HG : Hid (w.heap.size = g) := hg
  clear hg
  go_region_held3 (fun V => (V.cell? ⟨g, 0, none⟩ = some (.int .i64 c.n) ∧ V.cell? ⟨g, 1, none⟩ = some (.int .i64 c.f) ∧ V.cell? ⟨g, 2, none⟩ = some (.int .i64 c.s) ∧ V.cell? ⟨g, 3, none⟩ = some (.int .i64 c.d) ∧ V.cell? ⟨g, 4, none⟩ = some (.int .i64 c.k) ∧ V.cell? ⟨g, 5, none⟩ = some (.int .i64 c.e) ∧ V.cell? ⟨g, 6, none⟩ = some (.int .i64 c.v) ∧ V.cell? ⟨g, 7, none⟩ = some (.int .i64 c.r) ∧ V.cell? ⟨g, 8, none⟩ = some (.int .i64 c.l) ∧ V.cell? ⟨g, 9, none⟩ = some (.int .i64 c.p)) ∧ Cfg w g c V)
    (first | exact H0.out.held | assumption | exact (Cfg.drew (And.right (by assumption))).held | exact H0.out.drew.held)
    (first | (go_at_call 8; refine (K8.out _).mono ?_; rintro e w2 ⟨rfl, hb⟩; replace hb := (Cfg.step (And.right (by assumption)) hb).held)
           | (go_at_call 9; refine (K9.out _).mono ?_; rintro e w2 ⟨rfl, hb⟩; replace hb := (Cfg.step (And.right (by assumption)) hb).held)
           | (go_at_call 10; refine (K10.out _).mono ?_; rintro e w2 ⟨rfl, hb⟩; replace hb := (Cfg.step (And.right (by assumption)) hb).held)
           | (go_at_call 11; refine (K11.out _).mono ?_; rintro e w2 ⟨rfl, hb⟩; replace hb := (Cfg.step (And.right (by assumption)) hb).held)
           | (go_at_call 12; refine (K12.out _).mono ?_; rintro e w2 ⟨rfl, hb⟩; replace hb := (Cfg.step (And.right (by assumption)) hb).held)
           | (go_at_call 13; refine (K13.out _).mono ?_; rintro e w2 ⟨rfl, hb⟩; replace hb := (Cfg.step (And.right (by assumption)) hb).held)
           | (go_at_call 14; refine (K14.out _).mono ?_; rintro e w2 ⟨rfl, hb⟩; replace hb := (Cfg.step (And.right (by assumption)) hb).held)
           | (go_at_call 15; refine (K15.out _).mono ?_; rintro e w2 ⟨rfl, hb⟩; replace hb := (Cfg.step (And.right (by assumption)) hb).held)
           | (go_at_call 16; refine (K16.out _).mono ?_; rintro e w2 ⟨rfl, hb⟩; replace hb := (Cfg.step (And.right (by assumption)) hb).held)
           | (go_at_call 17; refine (K17.out _).mono ?_; rintro e w2 ⟨rfl, hb⟩; replace hb := (Cfg.step (And.right (by assumption)) hb).held)
           | (go_at_call 18; refine (K18.out _).mono ?_; rintro e w2 ⟨rfl, hb⟩; replace hb := (Cfg.step (And.right (by assumption)) hb).held))
  all_goals
    rename_i hh
    have H2 : Hid (Cfg w g c _) := hh.2
    clear hh H0
    go_wp2
    go_ret
    exact ⟨rfl, HG.out ▸ H2.out.bel⟩
end Go.Proofs.Ytfbfbnhbagojgaa
