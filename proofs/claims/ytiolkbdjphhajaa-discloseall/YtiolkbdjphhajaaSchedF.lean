/-
  The contracts of At, Speak and Next.
-/
import Derived.Test.YtiolkbdjphhajaaSchedE
import Derived.Test.YtiolkbdjphhajaaSchedN
namespace Go.Proofs.Ytiolkbdjphhajaa
open Go.ChangeShapes Go.WideShapes Go.ChangeAt Go.RowKit

/-- What At, Speak and Next answer. -/
def atV (c : Cf) (r s : Int) : Value := if cellB c r s = true then .tuple #[.int .i64 (atN c r s), .int .i64 0] else .tuple #[.int .i64 0, .int .i64 1]
def speakV (c : Cf) (r s : Int) : Value := if cellB c r s = true then .tuple #[.int .i64 (atN c r s), .int .i64 (atN c r s + c.s - 1), .int .i64 0] else .tuple #[.int .i64 0, .int .i64 0, .int .i64 1]
def nextV (c : Cf) (i t : Int) : Value := if nextB c i t = true then .tuple #[.int .i64 (nextN c i t), .int .i64 0] else .tuple #[.int .i64 0, .int .i64 1]

set_option maxHeartbeats 1600000 in
set_option maxRecDepth 20000 in
theorem at_ok (w : World) (c : Cf) (r s : Int) : Calls Try.prog 20 #[.agg (cfC c), .int .i64 r, .int .i64 s] w fun e w' => e = .returned (atV c r s) ∧ Below w.heap.size w w' := by
  have K1 := isnode_ok (w.alloc (.cells (cfC c) 23)) c s
  have H0 : Hid (Cfg w w.heap.size c (w.alloc (.cells (cfC c) 23))) := Cfg.new w c
  by_cases h0 : 0 ≤ r
  case neg =>
    rw [atV, if_neg (by simp [cellB, h0])]
    clear K1
    go_enter Try.func20, Try.ntmps20
    go_wp2
    go_ret2
    exact ⟨rfl, H0.out.bel⟩
  by_cases h1 : r < 1048576
  case neg =>
    rw [atV, if_neg (by simp [cellB, h1])]
    clear K1
    go_enter Try.func20, Try.ntmps20
    go_wp2
    go_ret2
    exact ⟨rfl, H0.out.bel⟩
  cases hn : nodeB c s
  · rw [hn] at K1
    rw [atV, if_neg (by simp [cellB, hn])]
    clear hn
    go_enter Try.func20, Try.ntmps20
    obtain ⟨p0, p1, p2, p3, p4, p5, p6, p7, p8, p9⟩ := H0.out.held.1
    go_wp2_with fail
    refine K1.mono ?_
    rintro e w1 ⟨rfl, hb⟩
    have H1 : Hid (Cfg w w.heap.size c w1) := H0.out.step hb
    clear K1 H0 hb p0 p1 p2 p3 p4 p5 p6 p7 p8 p9
    go_wp2
    go_ret2
    exact ⟨rfl, H1.out.bel⟩
  · rw [hn] at K1
    have hc : cellB c r s = true := by simp [cellB, hn, h0, h1]
    rw [atV, if_pos hc]
    obtain ⟨b1, b2, b3, b4, b5, b6, b7, b8⟩ := at_in hc
    have K2 : Hid (∀ W, Calls Try.prog 34 #[.agg (cfC c)] W fun e w' => e = .returned (.int .i64 (rndN c)) ∧ Below W.heap.size W w') := fun W => round_ok W c
    obtain ⟨u, hu⟩ : ∃ u, u = s * c.s := ⟨_, rfl⟩
    obtain ⟨x, hx⟩ : ∃ x, x = r * rndN c := ⟨_, rfl⟩
    obtain ⟨T, hT⟩ : ∃ T, T = atN c r s := ⟨_, rfl⟩
    have K3 : Hid (∀ W, Calls Try.prog 35 #[.agg (cfC c), .int .i64 s] W fun e w' => e = .returned (.int .i64 u) ∧ Below W.heap.size W w') := fun W => begin_ok W c s u (by rw [hu]; exact wrap_in (by omega) (by omega))
    have K4 : Hid (∀ W, Calls Try.prog 36 #[.int .i64 T] W fun e w' => e = .returned (.bool true) ∧ w' = W) := fun W => by
      have := istime_ok W T
      rw [show timeB T = true by rw [hT]; simp only [timeB, decide_eq_true_eq]; omega] at this
      exact this
    have e1 : IntKind.i64.wrap (r * rndN c) = x := by rw [hx]; exact wrap_in (by omega) (by omega)
    have e2 : IntKind.i64.wrap (x + u) = T := by rw [hx, hu, hT]; exact wrap_in (by unfold atN at b5; omega) (by unfold atN at b6; omega)
    rw [← hT]
    clear hu hx hT b1 b2 b3 b4 b5 b6 b7 b8 hc hn
    generalize rndN c = R at *
    go_enter Try.func20, Try.ntmps20
    obtain ⟨p0, p1, p2, p3, p4, p5, p6, p7, p8, p9⟩ := H0.out.held.1
    go_wp2_with fail
    refine K1.mono ?_
    rintro e w1 ⟨rfl, hb⟩
    have H1 : Hid (Cfg w w.heap.size c w1) := H0.out.step hb
    clear K1 H0 hb p0 p1 p2 p3 p4 p5 p6 p7 p8 p9
    go_upto_region 3 with fail
    clear h0 h1
    generalize hg : w.heap.size = g at *
    have HG : Hid (w.heap.size = g) := hg
    clear hg
    go_region_held3 (fun V => (V.cell? ⟨g, 0, none⟩ = some (.int .i64 c.n) ∧ V.cell? ⟨g, 1, none⟩ = some (.int .i64 c.f) ∧ V.cell? ⟨g, 2, none⟩ = some (.int .i64 c.s) ∧ V.cell? ⟨g, 3, none⟩ = some (.int .i64 c.d) ∧ V.cell? ⟨g, 4, none⟩ = some (.int .i64 c.k) ∧ V.cell? ⟨g, 5, none⟩ = some (.int .i64 c.e) ∧ V.cell? ⟨g, 6, none⟩ = some (.int .i64 c.v) ∧ V.cell? ⟨g, 7, none⟩ = some (.int .i64 c.r) ∧ V.cell? ⟨g, 8, none⟩ = some (.int .i64 c.l) ∧ V.cell? ⟨g, 9, none⟩ = some (.int .i64 c.p)) ∧ Cfg w g c V)
      (first | exact H1.out.held | assumption | exact (Cfg.drew (And.right (by assumption))).held | exact H1.out.drew.held)
      (first | (go_at_call 34; refine (K2.out _).mono ?_; rintro e w2 ⟨rfl, hb⟩; replace hb := (Cfg.step (And.right (by assumption)) hb).held)
             | (go_at_call 35; refine (K3.out _).mono ?_; rintro e w2 ⟨rfl, hb⟩; replace hb := (Cfg.step (And.right (by assumption)) hb).held))
    all_goals
      rename_i hh
      have H2 : Hid (Cfg w g c _) := hh.2
      clear hh H1 K2 K3
      go_wp2_with fail
      refine (K4.out _).mono ?_
      rintro e w3 ⟨rfl, rfl⟩
      go_wp2
      go_ret2
      exact ⟨rfl, HG.out ▸ H2.out.bel⟩

end Go.Proofs.Ytiolkbdjphhajaa
