/-
  The contracts of Next and Place.
-/
import Derived.Test.YtfbfbnhbagojgaaSchedF
namespace Go.Proofs.Ytfbfbnhbagojgaa
open Go.ChangeShapes Go.WideShapes Go.ChangeAt Go.RowKit

set_option maxHeartbeats 1600000 in
set_option maxRecDepth 20000 in
theorem next_ok (w : World) (c : Cf) (i t : Int) : Calls Try.prog 25 #[.agg (cfC c), .int .i64 i, .int .i64 t] w fun e w' => e = .returned (nextV c i t) ∧ Below w.heap.size w w' := by
  have HL : Hid ((Instr.loadAt 23 (.pointer (some ⟨w.heap.size, 0, none⟩))).run Try.prog (w.alloc (.cells (cfC c) 23)) = .ok (.agg (cfC c)) (w.alloc (.cells (cfC c) 23))) := (CfAt.new w c).loads
  have K1 := isnode_ok (w.alloc (.cells (cfC c) 23)) c i
  have H0 : Hid (Cfg w w.heap.size c (w.alloc (.cells (cfC c) 23))) := Cfg.new w c
  cases hn : nodeB c i
  · rw [hn] at K1
    rw [nextV, if_neg (by simp [nextB, hn])]
    clear hn
    go_enter Try.func25, Try.ntmps25
    go_wp2_with (first | (refine wpList_gload_run rfl 23 _ rfl _ _ rfl HL.out ?_) | fail)
    refine K1.mono ?_
    rintro e w1 ⟨rfl, hb⟩
    have H1 : Hid (Cfg w w.heap.size c w1) := H0.out.step hb
    clear K1 HL H0 hb
    go_wp2
    go_ret2
    exact ⟨rfl, H1.out.bel⟩
  rw [hn] at K1
  have K2 := fun W => istime_ok W t
  cases ht : timeB t
  · rw [ht] at K2
    have K2' : Hid (∀ W, Calls Try.prog 35 #[.int .i64 t] W fun e w' => e = .returned (.bool false) ∧ w' = W) := K2
    rw [nextV, if_neg (by simp [nextB, ht])]
    clear hn ht K2
    go_enter Try.func25, Try.ntmps25
    go_wp2_with (first | (refine wpList_gload_run rfl 23 _ rfl _ _ rfl HL.out ?_) | fail)
    refine K1.mono ?_
    rintro e w1 ⟨rfl, hb⟩
    have H1 : Hid (Cfg w w.heap.size c w1) := H0.out.step hb
    clear K1 HL H0 hb
    go_wp2_with fail
    refine (K2'.out _).mono ?_
    rintro e w2 ⟨rfl, rfl⟩
    go_wp2
    go_ret2
    exact ⟨rfl, H1.out.bel⟩
  rw [ht] at K2
  have K2' : Hid (∀ W, Calls Try.prog 35 #[.int .i64 t] W fun e w' => e = .returned (.bool true) ∧ w' = W) := K2
  have hT := time_in ht
  have hx := next_in hn hT.1
  have hs := slot_in hn
  have hr := rnd_in (node_ok hn).1
  have K3 : Hid (∀ W, Calls Try.prog 36 #[.agg (cfC c), .int .i64 i] W fun e w' => e = .returned (.int .i64 (i * c.s)) ∧ Below W.heap.size W w') := fun W => begin_ok W c i _ (wrap_in (by omega) (by omega))
  have K4 : Hid (∀ W, Calls Try.prog 10 #[.agg (cfC c)] W fun e w' => e = .returned (.int .i64 (rndN c)) ∧ Below W.heap.size W w') := fun W => round_ok W c
  have K5 : Hid (∀ W, Calls Try.prog 33 #[.int .i64 (t - i * c.s), .int .i64 (rndN c)] W fun e w' => e = .returned (.int .i64 (nextN c i t)) ∧ w' = W) := fun W => upwards_ok W _ _ hx.1 (by omega) (by omega)
  have hv : nextV c i t = if nextN c i t < 1048576 then .tuple #[.int .i64 (nextN c i t), .int .i64 0] else .tuple #[.int .i64 0, .int .i64 1] := by simp [nextV, nextB, hn, ht]
  rw [hv]
  obtain ⟨A, hA⟩ : ∃ A, A = t - i * c.s := ⟨_, rfl⟩
  have e1 : IntKind.i64.wrap (t - i * c.s) = A := by rw [hA]; exact wrap_in (by omega) (by omega)
  rw [← hA] at K5
  clear hA
  generalize nextN c i t = Q at *
  generalize i * c.s = u at *
  generalize rndN c = R at *
  clear hv hn ht K2 hT hx hs hr
  by_cases hq : Q < 1048576
  all_goals
    first | rw [if_pos hq] | rw [if_neg hq]
    go_enter Try.func25, Try.ntmps25
    go_wp2_with (first | (refine wpList_gload_run rfl 23 _ rfl _ _ rfl HL.out ?_) | fail)
    refine K1.mono ?_
    rintro e w1 ⟨rfl, hb⟩
    have H1 : Hid (Cfg w w.heap.size c w1) := H0.out.step hb
    clear K1 HL H0 hb
    go_wp2_with fail
    refine (K2'.out _).mono ?_
    rintro e w2 ⟨rfl, rfl⟩
    clear K2'
    go_upto_region 3 with fail
    generalize hg : w.heap.size = g at *
    have HG : Hid (w.heap.size = g) := hg
    clear hg
    go_region_held3 (fun V => (V.cell? ⟨g, 0, none⟩ = some (.int .i64 c.n) ∧ V.cell? ⟨g, 1, none⟩ = some (.int .i64 c.f) ∧ V.cell? ⟨g, 2, none⟩ = some (.int .i64 c.s) ∧ V.cell? ⟨g, 3, none⟩ = some (.int .i64 c.d) ∧ V.cell? ⟨g, 4, none⟩ = some (.int .i64 c.k) ∧ V.cell? ⟨g, 5, none⟩ = some (.int .i64 c.e) ∧ V.cell? ⟨g, 6, none⟩ = some (.int .i64 c.v) ∧ V.cell? ⟨g, 7, none⟩ = some (.int .i64 c.r) ∧ V.cell? ⟨g, 8, none⟩ = some (.int .i64 c.l) ∧ V.cell? ⟨g, 9, none⟩ = some (.int .i64 c.p)) ∧ Cfg w g c V)
      (first | exact H1.out.held | assumption | exact (Cfg.drew (And.right (by assumption))).held | exact H1.out.drew.held)
      (first | (go_at_call 36; refine (K3.out _).mono ?_; rintro e w2 ⟨rfl, hb⟩; replace hb := (Cfg.step (And.right (by assumption)) hb).held)
             | (go_at_call 10; refine (K4.out _).mono ?_; rintro e w2 ⟨rfl, hb⟩; replace hb := (Cfg.step (And.right (by assumption)) hb).held)
             | (go_at_call 33; refine (K5.out _).mono ?_; rintro e w2 ⟨rfl, rfl⟩))
    all_goals
      rename_i hh
      have H2 : Hid (Cfg w g c _) := hh.2
      clear hh H1 K3 K4 K5
      go_wp2
      go_ret2
      exact ⟨rfl, HG.out ▸ H2.out.bel⟩
end Go.Proofs.Ytfbfbnhbagojgaa
