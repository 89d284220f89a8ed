/-
  The contracts of Round, Keep, Quiet, isNode, isTime, begin, upwards, Patience and of the statements' awake.
-/
import Derived.Test.YtoibndfiolipbaaSchedC
namespace Go.Proofs.Ytoibndfiolipbaa
open Go.ChangeShapes Go.WideShapes Go.ChangeAt Go.RowKit

theorem wrap_in {x : Int} (h0 : -9223372036854775808 ≤ x) (h1 : x ≤ 9223372036854775807) : IntKind.i64.wrap x = x := by rw [IntKind.wrap_i64]; omega
theorem rnd_le (c : Cf) : 0 ≤ rndN c ∧ rndN c ≤ 80000 := by
  cases h : okB c
  · simp [rndN, h]
  · have := rnd_in h; omega

set_option maxHeartbeats 1600000 in
set_option maxRecDepth 20000 in
theorem round_ok (w : World) (c : Cf) : Calls Try.prog 51 #[.agg (cfC c)] w fun e w' => e = .returned (.int .i64 (rndN c)) ∧ Below w.heap.size w w' := by
  have HL : Hid ((Instr.loadAt 23 (.pointer (some ⟨w.heap.size, 0, none⟩))).run Try.prog (w.alloc (.cells (cfC c) 23)) = .ok (.agg (cfC c)) (w.alloc (.cells (cfC c) 23))) := (CfAt.new w c).loads
  have K1 := check_ok (w.alloc (.cells (cfC c) 23)) c
  have H0 : Hid (Cfg w w.heap.size c (w.alloc (.cells (cfC c) 23))) := Cfg.new w c
  cases ho : okB c
  · rw [ho, if_neg Bool.false_ne_true] at K1
    rw [show rndN c = 0 by simp [rndN, ho]]
    clear ho
    go_enter Try.func51, Try.ntmps51
    go_wp2_with (first | (refine wpList_gload_run rfl 23 _ rfl _ _ rfl HL.out ?_) | fail)
    refine K1.mono ?_
    rintro e w1 ⟨rfl, hb⟩
    have H1 : Hid (Cfg w w.heap.size c w1) := H0.out.step hb
    clear K1 HL H0 hb
    go_wp2
    go_ret
    exact ⟨rfl, H1.out.bel⟩
  · rw [ho, if_pos rfl] at K1
    have hr := rnd_in ho
    obtain ⟨R, hR⟩ : ∃ R, R = rndN c := ⟨_, rfl⟩
    rw [← hR] at hr ⊢
    have e1 : IntKind.i64.wrap (c.n * c.s) = R := by rw [← rnd_right ho, ← hR]; exact wrap_in (by omega) (by omega)
    clear ho hr hR
    go_enter Try.func51, Try.ntmps51
    go_wp2_with (first | (refine wpList_gload_run rfl 23 _ rfl _ _ rfl HL.out ?_) | fail)
    refine K1.mono ?_
    rintro e w1 ⟨rfl, hb⟩
    have H1 : Hid (Cfg w w.heap.size c w1) := H0.out.step hb
    have p0 := H1.out.own.c0
    have p2 := H1.out.own.c2
    clear K1 HL H0 hb
    go_wp2
    go_ret
    exact ⟨rfl, H1.out.bel⟩

set_option maxHeartbeats 1600000 in
set_option maxRecDepth 20000 in
theorem keep_ok (w : World) (c : Cf) : Calls Try.prog 37 #[.agg (cfC c)] w fun e w' => e = .returned (.int .i64 (2 * rndN c)) ∧ Below w.heap.size w w' := by
  have HL : Hid ((Instr.loadAt 23 (.pointer (some ⟨w.heap.size, 0, none⟩))).run Try.prog (w.alloc (.cells (cfC c) 23)) = .ok (.agg (cfC c)) (w.alloc (.cells (cfC c) 23))) := (CfAt.new w c).loads
  have K1 := round_ok (w.alloc (.cells (cfC c) 23)) c
  have H0 : Hid (Cfg w w.heap.size c (w.alloc (.cells (cfC c) 23))) := Cfg.new w c
  have hr := rnd_le c
  generalize rndN c = R at *
  obtain ⟨S, hS⟩ : ∃ S, S = 2 * R := ⟨_, rfl⟩
  rw [← hS]
  have e1 : IntKind.i64.wrap (2 * R) = S := by rw [hS]; exact wrap_in (by omega) (by omega)
  clear hr hS
  go_enter Try.func37, Try.ntmps37
  go_wp2_with (first | (refine wpList_gload_run rfl 23 _ rfl _ _ rfl HL.out ?_) | fail)
  refine K1.mono ?_
  rintro e w1 ⟨rfl, hb⟩
  have H1 : Hid (Cfg w w.heap.size c w1) := H0.out.step hb
  clear K1 HL H0 hb
  go_wp2
  go_ret
  exact ⟨rfl, H1.out.bel⟩

/-- Quiet's sums and products, none of them too great. -/
theorem qui_sums {c : Cf} (h : okB c = true) : ∃ q A B X D Y Q : Int, IntKind.i64.wrap (c.r + c.l) = q ∧ IntKind.i64.wrap (2 * rndN c + c.v) = A ∧ IntKind.i64.wrap (100 + q) = B ∧ IntKind.i64.wrap (A * B) = X ∧ IntKind.i64.wrap (100 - q) = D ∧
    X.tdiv D = Y ∧ IntKind.i64.wrap Y = Y ∧ ¬ D = 0 ∧ (D == 0) = false ∧ IntKind.i64.wrap (Y + 200) = Q ∧ quiN c = Q := by
  have hr := rnd_in h
  have hq := qui_in h
  have g := right_of h
  have h1 := g.v0; have h2 := g.v1; have h3 := g.s1; have h4 := g.r0; have h5 := g.r1; have h6 := g.l0; have h7 := g.l1
  have hd : quiN c = ((2 * rndN c + c.v) * (100 + (c.r + c.l))).tdiv (100 - (c.r + c.l)) + 200 := by rw [quiN, if_pos h]
  have a1 : (2 * rndN c + c.v) * 100 ≤ (2 * rndN c + c.v) * (100 + (c.r + c.l)) := Int.mul_le_mul_of_nonneg_left (by omega) (by omega)
  have a2 : (2 * rndN c + c.v) * (100 + (c.r + c.l)) ≤ (2 * rndN c + c.v) * 110 := Int.mul_le_mul_of_nonneg_left (by omega) (by omega)
  refine ⟨c.r + c.l, 2 * rndN c + c.v, 100 + (c.r + c.l), (2 * rndN c + c.v) * (100 + (c.r + c.l)), 100 - (c.r + c.l), ((2 * rndN c + c.v) * (100 + (c.r + c.l))).tdiv (100 - (c.r + c.l)), quiN c,
    wrap_in (by omega) (by omega), wrap_in (by omega) (by omega), wrap_in (by omega) (by omega), wrap_in (by omega) (by omega), wrap_in (by omega) (by omega), rfl, ?_, by omega, by simp; omega, ?_, rfl⟩
  · exact wrap_in (by omega) (by omega)
  · rw [hd]; exact wrap_in (by omega) (by omega)

end Go.Proofs.Ytoibndfiolipbaa
