/-
  The document's side: Round, Keep, Quiet.
-/
import Derived.Test.YtoibndfiolipbaaSchedR
namespace Go.Proofs.Ytoibndfiolipbaa
open Go.ChangeShapes Go.WideShapes Go.ChangeAt Go.RowKit

set_option maxHeartbeats 1600000 in
set_option maxRecDepth 20000 in
theorem rround_ok (w : World) (c : Cf) : Calls Try.prog 54 #[.agg (cfC c)] w fun e w' => e = .returned (.int .i64 (rndN c)) ∧ Below w.heap.size w w' := by
  have HL : Hid ((Instr.loadAt 23 (.pointer (some ⟨w.heap.size, 0, none⟩))).run Try.prog (w.alloc (.cells (cfC c) 23)) = .ok (.agg (cfC c)) (w.alloc (.cells (cfC c) 23))) := (CfAt.new w c).loads
  have K1 := rcheck_ok (w.alloc (.cells (cfC c) 23)) c
  have H0 : Hid (Cfg w w.heap.size c (w.alloc (.cells (cfC c) 23))) := Cfg.new w c
  cases ho : okB c
  · rw [ho, if_neg Bool.false_ne_true] at K1
    rw [show rndN c = 0 by simp [rndN, ho]]
    clear ho
    go_enter Try.func54, Try.ntmps54
    go_wp2_with (first | (refine wpList_gload_run rfl 23 _ rfl _ _ rfl HL.out ?_) | fail)
    refine K1.mono ?_
    rintro e w1 ⟨rfl, hb⟩
    have H1 : Hid (Cfg w w.heap.size c w1) := H0.out.step hb
    clear K1 HL H0 hb
    go_wp2
    go_ret
    exact ⟨rfl, H1.out.bel⟩
  · rw [ho, if_pos rfl] at K1
    have hr := rnd_in ho
    obtain ⟨R, hR⟩ : ∃ R, R = rndN c := ⟨_, rfl⟩
    rw [← hR] at hr ⊢
    have e1 : IntKind.i64.wrap (c.n * c.s) = R := by rw [← rnd_right ho, ← hR]; exact wrap_in (by omega) (by omega)
    clear ho hr hR
    go_enter Try.func54, Try.ntmps54
    go_wp2_with (first | (refine wpList_gload_run rfl 23 _ rfl _ _ rfl HL.out ?_) | fail)
    refine K1.mono ?_
    rintro e w1 ⟨rfl, hb⟩
    have H1 : Hid (Cfg w w.heap.size c w1) := H0.out.step hb
    have p0 := H1.out.own.c0
    have p2 := H1.out.own.c2
    clear K1 HL H0 hb
    go_wp2
    go_ret
    exact ⟨rfl, H1.out.bel⟩

set_option maxHeartbeats 1600000 in
set_option maxRecDepth 20000 in
theorem rkeep_ok (w : World) (c : Cf) : Calls Try.prog 39 #[.agg (cfC c)] w fun e w' => e = .returned (.int .i64 (2 * rndN c)) ∧ Below w.heap.size w w' := by
  have HL : Hid ((Instr.loadAt 23 (.pointer (some ⟨w.heap.size, 0, none⟩))).run Try.prog (w.alloc (.cells (cfC c) 23)) = .ok (.agg (cfC c)) (w.alloc (.cells (cfC c) 23))) := (CfAt.new w c).loads
  have K1 := rround_ok (w.alloc (.cells (cfC c) 23)) c
  have H0 : Hid (Cfg w w.heap.size c (w.alloc (.cells (cfC c) 23))) := Cfg.new w c
  have hr := rnd_le c
  generalize rndN c = R at *
  obtain ⟨S, hS⟩ : ∃ S, S = 2 * R := ⟨_, rfl⟩
  rw [← hS]
  have e1 : IntKind.i64.wrap (2 * R) = S := by rw [hS]; exact wrap_in (by omega) (by omega)
  clear hr hS
  go_enter Try.func39, Try.ntmps39
  go_wp2_with (first | (refine wpList_gload_run rfl 23 _ rfl _ _ rfl HL.out ?_) | fail)
  refine K1.mono ?_
  rintro e w1 ⟨rfl, hb⟩
  have H1 : Hid (Cfg w w.heap.size c w1) := H0.out.step hb
  clear K1 HL H0 hb
  go_wp2
  go_ret
  exact ⟨rfl, H1.out.bel⟩

end Go.Proofs.Ytoibndfiolipbaa
