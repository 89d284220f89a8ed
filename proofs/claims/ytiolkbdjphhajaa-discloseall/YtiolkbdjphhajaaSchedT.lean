/-
  The document's side: At, Speak, Patience.
-/
import Derived.Test.YtiolkbdjphhajaaSchedS
import Derived.Test.YtiolkbdjphhajaaSchedH
namespace Go.Proofs.Ytiolkbdjphhajaa
open Go.ChangeShapes Go.WideShapes Go.ChangeAt Go.RowKit

set_option maxHeartbeats 1600000 in
set_option maxRecDepth 20000 in
theorem rat_ok (w : World) (c : Cf) (r s : Int) : Calls Try.prog 27 #[.agg (cfC c), .int .i64 r, .int .i64 s] w fun e w' => e = .returned (atV c r s) ∧ Below w.heap.size w w' := by
  have HL : Hid ((Instr.loadAt 23 (.pointer (some ⟨w.heap.size, 0, none⟩))).run Try.prog (w.alloc (.cells (cfC c) 23)) = .ok (.agg (cfC c)) (w.alloc (.cells (cfC c) 23))) := (CfAt.new w c).loads
  have K1 := rcheck_ok (w.alloc (.cells (cfC c) 23)) c
  have H0 : Hid (Cfg w w.heap.size c (w.alloc (.cells (cfC c) 23))) := Cfg.new w c
  cases ho : okB c
  · rw [ho, if_neg Bool.false_ne_true] at K1
    rw [atV, if_neg (by simp [cellB, nodeB, ho])]
    clear ho
    go_enter Try.func27, Try.ntmps27
    go_wp2_with (first | (refine wpList_gload_run rfl 23 _ rfl _ _ rfl HL.out ?_) | fail)
    refine K1.mono ?_
    rintro e w1 ⟨rfl, hb⟩
    have H1 : Hid (Cfg w w.heap.size c w1) := H0.out.step hb
    clear K1 HL H0 hb
    go_wp2
    go_ret2
    exact ⟨rfl, H1.out.bel⟩
  rw [ho, if_pos rfl] at K1
  by_cases h0 : 0 ≤ r
  case neg =>
    rw [atV, if_neg (by simp [cellB, h0])]
    clear ho
    go_enter Try.func27, Try.ntmps27
    go_wp2_with (first | (refine wpList_gload_run rfl 23 _ rfl _ _ rfl HL.out ?_) | fail)
    refine K1.mono ?_
    rintro e w1 ⟨rfl, hb⟩
    have H1 : Hid (Cfg w w.heap.size c w1) := H0.out.step hb
    clear K1 HL H0 hb
    have p0 := H1.out.own.c0
    go_wp2
    go_ret2
    exact ⟨rfl, H1.out.bel⟩
  by_cases h1 : r < 1048576
  case neg =>
    rw [atV, if_neg (by simp [cellB, h1])]
    clear ho
    go_enter Try.func27, Try.ntmps27
    go_wp2_with (first | (refine wpList_gload_run rfl 23 _ rfl _ _ rfl HL.out ?_) | fail)
    refine K1.mono ?_
    rintro e w1 ⟨rfl, hb⟩
    have H1 : Hid (Cfg w w.heap.size c w1) := H0.out.step hb
    clear K1 HL H0 hb
    have p0 := H1.out.own.c0
    go_wp2
    go_ret2
    exact ⟨rfl, H1.out.bel⟩
  by_cases s0 : 0 ≤ s
  case neg =>
    rw [atV, if_neg (by simp [cellB, nodeB, s0])]
    clear ho
    go_enter Try.func27, Try.ntmps27
    go_wp2_with (first | (refine wpList_gload_run rfl 23 _ rfl _ _ rfl HL.out ?_) | fail)
    refine K1.mono ?_
    rintro e w1 ⟨rfl, hb⟩
    have H1 : Hid (Cfg w w.heap.size c w1) := H0.out.step hb
    clear K1 HL H0 hb
    have p0 := H1.out.own.c0
    go_wp2
    go_ret2
    exact ⟨rfl, H1.out.bel⟩
  by_cases s1 : s < c.n
  case neg =>
    rw [atV, if_neg (by simp [cellB, nodeB, s1])]
    clear ho
    go_enter Try.func27, Try.ntmps27
    go_wp2_with (first | (refine wpList_gload_run rfl 23 _ rfl _ _ rfl HL.out ?_) | fail)
    refine K1.mono ?_
    rintro e w1 ⟨rfl, hb⟩
    have H1 : Hid (Cfg w w.heap.size c w1) := H0.out.step hb
    clear K1 HL H0 hb
    have p0 := H1.out.own.c0
    go_wp2
    go_ret2
    exact ⟨rfl, H1.out.bel⟩
  have hc : cellB c r s = true := by simp [cellB, nodeB, ho, h0, h1, s0, s1]
  rw [atV, if_pos hc]
  obtain ⟨b1, b2, b3, b4, b5, b6, b7, b8⟩ := at_in hc
  have K2 : Hid (∀ W, Calls Try.prog 42 #[.agg (cfC c)] W fun e w' => e = .returned (.int .i64 (rndN c)) ∧ Below W.heap.size W w') := fun W => rround_ok W c
  obtain ⟨u, hu⟩ : ∃ u, u = s * c.s := ⟨_, rfl⟩
  obtain ⟨x, hx⟩ : ∃ x, x = r * rndN c := ⟨_, rfl⟩
  obtain ⟨T, hT⟩ : ∃ T, T = atN c r s := ⟨_, rfl⟩
  have e0 : IntKind.i64.wrap (s * c.s) = u := by rw [hu]; exact wrap_in (by omega) (by omega)
  have e1 : IntKind.i64.wrap (r * rndN c) = x := by rw [hx]; exact wrap_in (by omega) (by omega)
  have e2 : IntKind.i64.wrap (x + u) = T := by rw [hx, hu, hT]; exact wrap_in (by unfold atN at b5; omega) (by unfold atN at b6; omega)
  have y : T ≤ 1099511627776 := by rw [hT]; omega
  rw [← hT]
  clear hu hx hT b1 b2 b3 b4 b5 b6 b7 b8 hc ho
  generalize rndN c = R at *
  go_enter Try.func27, Try.ntmps27
  go_wp2_with (first | (refine wpList_gload_run rfl 23 _ rfl _ _ rfl HL.out ?_) | fail)
  refine K1.mono ?_
  rintro e w1 ⟨rfl, hb⟩
  have H1 : Hid (Cfg w w.heap.size c w1) := H0.out.step hb
  clear K1 HL H0 hb
  have p0 := H1.out.own.c0
  go_upto_region 3 with fail
  clear h0 h1 s0 s1 p0
  generalize hg : w.heap.size = g at *
  have HG : Hid (w.heap.size = g) := hg
  clear hg
  go_region_held3 (fun V => (V.cell? ⟨g, 0, none⟩ = some (.int .i64 c.n) ∧ V.cell? ⟨g, 1, none⟩ = some (.int .i64 c.f) ∧ V.cell? ⟨g, 2, none⟩ = some (.int .i64 c.s) ∧ V.cell? ⟨g, 3, none⟩ = some (.int .i64 c.d) ∧ V.cell? ⟨g, 4, none⟩ = some (.int .i64 c.k) ∧ V.cell? ⟨g, 5, none⟩ = some (.int .i64 c.e) ∧ V.cell? ⟨g, 6, none⟩ = some (.int .i64 c.v) ∧ V.cell? ⟨g, 7, none⟩ = some (.int .i64 c.r) ∧ V.cell? ⟨g, 8, none⟩ = some (.int .i64 c.l) ∧ V.cell? ⟨g, 9, none⟩ = some (.int .i64 c.p)) ∧ Cfg w g c V)
    (first | exact H1.out.held | assumption | exact (Cfg.drew (And.right (by assumption))).held | exact H1.out.drew.held)
    (first | (go_at_call 42; refine (K2.out _).mono ?_; rintro e w2 ⟨rfl, hb⟩; replace hb := (Cfg.step (And.right (by assumption)) hb).held))
  all_goals
    rename_i hh
    have H2 : Hid (Cfg w g c _) := hh.2
    clear hh H1 K2
    go_wp2
    go_ret2
    exact ⟨rfl, HG.out ▸ H2.out.bel⟩

/-- The document's quotient. -/
theorem up_sums {c : Cf} (ho : okB c = true) : ∃ x y : Int, IntKind.i64.wrap (quiN c + rndN c) = x ∧ IntKind.i64.wrap (x - 1) = y ∧ y.tdiv (rndN c) = upN (quiN c) (rndN c) ∧ ¬ rndN c = 0 ∧ (rndN c == 0) = false := by
  have hr := rnd_in ho
  have hq := qui_in ho
  exact ⟨quiN c + rndN c, quiN c + rndN c - 1, wrap_in (by omega) (by omega), wrap_in (by omega) (by omega), rfl, by omega, by simp; omega⟩

end Go.Proofs.Ytiolkbdjphhajaa
