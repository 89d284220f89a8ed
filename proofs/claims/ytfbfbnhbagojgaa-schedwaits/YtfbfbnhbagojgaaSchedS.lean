/-
  The document's side: Round, Keep, Quiet.
-/
import Derived.Test.YtfbfbnhbagojgaaSchedR
namespace Go.Proofs.Ytfbfbnhbagojgaa
open Go.ChangeShapes Go.WideShapes Go.ChangeAt Go.RowKit

set_option maxHeartbeats 1600000 in
set_option maxRecDepth 20000 in
theorem rround_ok (w : World) (c : Cf) : Calls Try.prog 11 #[.agg (cfC c)] w fun e w' => e = .returned (.int .i64 (rndN c)) ∧ Below w.heap.size w w' := by
  have HL : Hid ((Instr.loadAt 23 (.pointer (some ⟨w.heap.size, 0, none⟩))).run Try.prog (w.alloc (.cells (cfC c) 23)) = .ok (.agg (cfC c)) (w.alloc (.cells (cfC c) 23))) := (CfAt.new w c).loads
  have K1 := rcheck_ok (w.alloc (.cells (cfC c) 23)) c
  have H0 : Hid (Cfg w w.heap.size c (w.alloc (.cells (cfC c) 23))) := Cfg.new w c
  cases ho : okB c
  · rw [ho, if_neg Bool.false_ne_true] at K1
    rw [show rndN c = 0 by simp [rndN, ho]]
    clear ho
    go_enter Try.func11, Try.ntmps11
    go_wp2_with (first | (refine wpList_gload_run rfl 23 _ rfl _ _ rfl HL.out ?_) | fail)
    refine K1.mono ?_
    rintro e w1 ⟨rfl, hb⟩
    have H1 : Hid (Cfg w w.heap.size c w1) := H0.out.step hb
    clear K1 HL H0 hb
    go_wp2
    go_ret
    exact ⟨rfl, H1.out.bel⟩
  · rw [ho, if_pos rfl] at K1
    have hr := rnd_in ho
    obtain ⟨R, hR⟩ : ∃ R, R = rndN c := ⟨_, rfl⟩
    rw [← hR] at hr ⊢
    have e1 : IntKind.i64.wrap (c.n * c.s) = R := by rw [← rnd_right ho, ← hR]; exact wrap_in (by omega) (by omega)
    clear ho hr hR
    go_enter Try.func11, Try.ntmps11
    go_wp2_with (first | (refine wpList_gload_run rfl 23 _ rfl _ _ rfl HL.out ?_) | fail)
    refine K1.mono ?_
    rintro e w1 ⟨rfl, hb⟩
    have H1 : Hid (Cfg w w.heap.size c w1) := H0.out.step hb
    have p0 := H1.out.own.c0
    have p2 := H1.out.own.c2
    clear K1 HL H0 hb
    go_wp2
    go_ret
    exact ⟨rfl, H1.out.bel⟩

set_option maxHeartbeats 1600000 in
set_option maxRecDepth 20000 in
theorem rkeep_ok (w : World) (c : Cf) : Calls Try.prog 13 #[.agg (cfC c)] w fun e w' => e = .returned (.int .i64 (2 * rndN c)) ∧ Below w.heap.size w w' := by
  have HL : Hid ((Instr.loadAt 23 (.pointer (some ⟨w.heap.size, 0, none⟩))).run Try.prog (w.alloc (.cells (cfC c) 23)) = .ok (.agg (cfC c)) (w.alloc (.cells (cfC c) 23))) := (CfAt.new w c).loads
  have K1 := rround_ok (w.alloc (.cells (cfC c) 23)) c
  have H0 : Hid (Cfg w w.heap.size c (w.alloc (.cells (cfC c) 23))) := Cfg.new w c
  have hr := rnd_le c
  generalize rndN c = R at *
  obtain ⟨S, hS⟩ : ∃ S, S = 2 * R := ⟨_, rfl⟩
  rw [← hS]
  have e1 : IntKind.i64.wrap (2 * R) = S := by rw [hS]; exact wrap_in (by omega) (by omega)
  clear hr hS
  go_enter Try.func13, Try.ntmps13
  go_wp2_with (first | (refine wpList_gload_run rfl 23 _ rfl _ _ rfl HL.out ?_) | fail)
  refine K1.mono ?_
  rintro e w1 ⟨rfl, hb⟩
  have H1 : Hid (Cfg w w.heap.size c w1) := H0.out.step hb
  clear K1 HL H0 hb
  go_wp2
  go_ret
  exact ⟨rfl, H1.out.bel⟩

set_option maxHeartbeats 1600000 in
set_option maxRecDepth 20000 in
theorem rquiet_ok (w : World) (c : Cf) : Calls Try.prog 15 #[.agg (cfC c)] w fun e w' => e = .returned (.int .i64 (quiN c)) ∧ Below w.heap.size w w' := by
  have HL : Hid ((Instr.loadAt 23 (.pointer (some ⟨w.heap.size, 0, none⟩))).run Try.prog (w.alloc (.cells (cfC c) 23)) = .ok (.agg (cfC c)) (w.alloc (.cells (cfC c) 23))) := (CfAt.new w c).loads
  have K1 := rcheck_ok (w.alloc (.cells (cfC c) 23)) c
  have H0 : Hid (Cfg w w.heap.size c (w.alloc (.cells (cfC c) 23))) := Cfg.new w c
  cases ho : okB c
  · rw [ho, if_neg Bool.false_ne_true] at K1
    rw [show quiN c = 0 by simp [quiN, ho]]
    clear ho
    go_enter Try.func15, Try.ntmps15
    go_wp2_with (first | (refine wpList_gload_run rfl 23 _ rfl _ _ rfl HL.out ?_) | fail)
    refine K1.mono ?_
    rintro e w1 ⟨rfl, hb⟩
    have H1 : Hid (Cfg w w.heap.size c w1) := H0.out.step hb
    clear K1 HL H0 hb
    go_wp2
    go_ret
    exact ⟨rfl, H1.out.bel⟩
  · rw [ho, if_pos rfl] at K1
    have K2 : Hid (∀ W, Calls Try.prog 13 #[.agg (cfC c)] W fun e w' => e = .returned (.int .i64 (2 * rndN c)) ∧ Below W.heap.size W w') := fun W => rkeep_ok W c
    obtain ⟨q, A, B, X, D, Y, Q, e1, e2, e3, e4, e5, e6, e7, e8, e9, e10, eQ⟩ := qui_sums ho
    rw [eQ]
    obtain ⟨S, hS⟩ : ∃ S, S = 2 * rndN c := ⟨_, rfl⟩
    rw [← hS] at K2 e2
    clear ho eQ hS
    go_enter Try.func15, Try.ntmps15
    go_wp2_with (first | (refine wpList_gload_run rfl 23 _ rfl _ _ rfl HL.out ?_) | fail)
    refine K1.mono ?_
    rintro e w1 ⟨rfl, hb⟩
    have H1 : Hid (Cfg w w.heap.size c w1) := H0.out.step hb
    have p7 := H1.out.own.c7
    have p8 := H1.out.own.c8
    clear K1 HL H0 hb
    go_upto_region 4 with fail
    generalize hg : w.heap.size = g at *
    have HG : Hid (w.heap.size = g) := hg
    clear hg p7 p8
    go_region_held3 (fun V => (V.cell? ⟨g, 0, none⟩ = some (.int .i64 c.n) ∧ V.cell? ⟨g, 1, none⟩ = some (.int .i64 c.f) ∧ V.cell? ⟨g, 2, none⟩ = some (.int .i64 c.s) ∧ V.cell? ⟨g, 3, none⟩ = some (.int .i64 c.d) ∧ V.cell? ⟨g, 4, none⟩ = some (.int .i64 c.k) ∧ V.cell? ⟨g, 5, none⟩ = some (.int .i64 c.e) ∧ V.cell? ⟨g, 6, none⟩ = some (.int .i64 c.v) ∧ V.cell? ⟨g, 7, none⟩ = some (.int .i64 c.r) ∧ V.cell? ⟨g, 8, none⟩ = some (.int .i64 c.l) ∧ V.cell? ⟨g, 9, none⟩ = some (.int .i64 c.p)) ∧ Cfg w g c V)
      (first | exact H1.out.held | assumption | exact (Cfg.drew (And.right (by assumption))).held | exact H1.out.drew.held)
      (first | (go_at_call 13; refine (K2.out _).mono ?_; rintro e w2 ⟨rfl, hb⟩; replace hb := (Cfg.step (And.right (by assumption)) hb).held))
    rename_i hh
    have H2 : Hid (Cfg w g c w2) := hh.2
    clear hh hb H1 K2
    go_wp2
    go_ret
    exact ⟨rfl, HG.out ▸ H2.out.bel⟩
end Go.Proofs.Ytfbfbnhbagojgaa
