/-
  The contracts of isNode, isTime, begin, upwards, Patience and of the statements' awake.
-/
import Derived.Test.YtfbfbnhbagojgaaSchedD
namespace Go.Proofs.Ytfbfbnhbagojgaa
open Go.ChangeShapes Go.WideShapes Go.ChangeAt Go.RowKit

set_option maxHeartbeats 1600000 in
set_option maxRecDepth 20000 in
theorem isnode_ok (w : World) (c : Cf) (i : Int) : Calls Try.prog 32 #[.agg (cfC c), .int .i64 i] w fun e w' => e = .returned (.bool (nodeB c i)) ∧ Below w.heap.size w w' := by
  have HL : Hid ((Instr.loadAt 23 (.pointer (some ⟨w.heap.size, 0, none⟩))).run Try.prog (w.alloc (.cells (cfC c) 23)) = .ok (.agg (cfC c)) (w.alloc (.cells (cfC c) 23))) := (CfAt.new w c).loads
  have K1 := check_ok (w.alloc (.cells (cfC c) 23)) c
  have H0 : Hid (Cfg w w.heap.size c (w.alloc (.cells (cfC c) 23))) := Cfg.new w c
  cases ho : okB c
  · rw [ho, if_neg Bool.false_ne_true] at K1
    rw [show nodeB c i = false by simp [nodeB, ho]]
    clear ho
    go_enter Try.func32, Try.ntmps32
    go_wp2_with (first | (refine wpList_gload_run rfl 23 _ rfl _ _ rfl HL.out ?_) | fail)
    refine K1.mono ?_
    rintro e w1 ⟨rfl, hb⟩
    have H1 : Hid (Cfg w w.heap.size c w1) := H0.out.step hb
    clear K1 HL H0 hb
    go_wp2
    go_ret
    exact ⟨rfl, H1.out.bel⟩
  · rw [ho, if_pos rfl] at K1
    by_cases h0 : 0 ≤ i
    · have hN : nodeB c i = decide (i < c.n) := by simp [nodeB, ho, h0]
      rw [hN]
      clear hN
      by_cases h1 : i < c.n
      all_goals
        simp only [h1, decide_true, decide_false]
        clear ho
        go_enter Try.func32, Try.ntmps32
        go_wp2_with (first | (refine wpList_gload_run rfl 23 _ rfl _ _ rfl HL.out ?_) | fail)
        refine K1.mono ?_
        rintro e w1 ⟨rfl, hb⟩
        have H1 : Hid (Cfg w w.heap.size c w1) := H0.out.step hb
        have p0 := H1.out.own.c0
        clear K1 HL H0 hb
        go_wp2
        go_ret
        exact ⟨by first | rfl | (simp; done) | (simp; omega), H1.out.bel⟩
    · rw [show nodeB c i = false by simp [nodeB, h0]]
      clear ho
      go_enter Try.func32, Try.ntmps32
      go_wp2_with (first | (refine wpList_gload_run rfl 23 _ rfl _ _ rfl HL.out ?_) | fail)
      refine K1.mono ?_
      rintro e w1 ⟨rfl, hb⟩
      have H1 : Hid (Cfg w w.heap.size c w1) := H0.out.step hb
      clear K1 HL H0 hb
      go_wp2
      go_ret
      exact ⟨by first | rfl | (simp; done) | (simp; omega), H1.out.bel⟩

theorem istime_ok (w : World) (t : Int) : Calls Try.prog 35 #[.int .i64 t] w fun e w' => e = .returned (.bool (timeB t)) ∧ w' = w := by
  by_cases h0 : 0 ≤ t
  · have hN : timeB t = decide (t ≤ 1099511627776) := by simp [timeB, h0]
    rw [hN]
    clear hN
    by_cases h1 : t ≤ 1099511627776
    all_goals
      simp only [h1, decide_true, decide_false]
      go_enter Try.func35, Try.ntmps35
      go_wp2
      go_ret
      exact ⟨by first | rfl | (simp; done) | (simp; omega), rfl⟩
  · rw [show timeB t = false by simp [timeB, h0]]
    go_enter Try.func35, Try.ntmps35
    go_wp2
    go_ret
    exact ⟨by first | rfl | (simp; done) | (simp; omega), rfl⟩

theorem begin_ok (w : World) (c : Cf) (i u : Int) (e1 : IntKind.i64.wrap (i * c.s) = u) : Calls Try.prog 36 #[.agg (cfC c), .int .i64 i] w fun e w' => e = .returned (.int .i64 u) ∧ Below w.heap.size w w' := by
  have H0 : Hid (Cfg w w.heap.size c (w.alloc (.cells (cfC c) 23))) := Cfg.new w c
  have p2 := H0.out.own.c2
  go_enter Try.func36, Try.ntmps36
  go_wp2
  go_ret
  exact ⟨rfl, H0.out.bel⟩

theorem upwards_ok (w : World) (a b : Int) (h0 : 0 ≤ a + b - 1) (hb : 0 < b) (h1 : a + b ≤ 9223372036854775807) : Calls Try.prog 33 #[.int .i64 a, .int .i64 b] w fun e w' => e = .returned (.int .i64 (upN a b)) ∧ w' = w := by
  have hu := up_in h0 hb
  obtain ⟨s, hs⟩ : ∃ s, s = a + b := ⟨_, rfl⟩
  obtain ⟨t, ht⟩ : ∃ t, t = s - 1 := ⟨_, rfl⟩
  obtain ⟨q, hq⟩ : ∃ q, q = upN a b := ⟨_, rfl⟩
  rw [← hq] at hu ⊢
  have e1 : IntKind.i64.wrap (a + b) = s := by rw [hs]; exact wrap_in (by omega) (by omega)
  have e2 : IntKind.i64.wrap (s - 1) = t := by rw [ht]; exact wrap_in (by omega) (by omega)
  have e3 : t.tdiv b = q := by rw [hq, ht, hs]; rfl
  have e4 : IntKind.i64.wrap q = q := wrap_in (by omega) (by omega)
  have y0 : (b == 0) = false := by simp; omega
  have y1 : ¬ b = 0 := by omega
  clear hu hs ht hq h0 hb h1
  go_enter Try.func33, Try.ntmps33
  go_wp2
  go_ret
  exact ⟨rfl, rfl⟩

/-- Patience's sums. -/
theorem pat_sums {c : Cf} {i : Int} (h : nodeB c i = true) : ∃ a b d x y z t P u : Int, upN (quiN c) (rndN c) = u ∧ IntKind.i64.wrap (6 + u) = a ∧ IntKind.i64.wrap (c.d + 1) = b ∧ IntKind.i64.wrap (2 * b) = d ∧ IntKind.i64.wrap (d + 8) = x ∧ IntKind.i64.wrap (c.n - 1) = y ∧
    IntKind.i64.wrap (y - i) = z ∧ IntKind.i64.wrap (z * a) = t ∧ IntKind.i64.wrap (x + t) = P ∧ patN c i = P ∧ IntKind.i64.wrap u = u := by
  obtain ⟨ho, i0, i1⟩ := node_ok h
  have hr := rnd_in ho
  have hq := qui_in ho
  have g := right_of ho
  have h1 := g.n0; have h2 := g.n1; have h3 := g.d0; have h4 := g.d1
  have hu := up_in (a := quiN c) (b := rndN c) (by omega) (by omega)
  have hp : patN c i = 2 * (c.d + 1) + 8 + (c.n - 1 - i) * (6 + upN (quiN c) (rndN c)) := by rw [patN, if_pos h]
  have a1 : 0 ≤ (c.n - 1 - i) * (6 + upN (quiN c) (rndN c)) := Int.mul_nonneg (by omega) (by omega)
  have a2 : (c.n - 1 - i) * (6 + upN (quiN c) (rndN c)) ≤ 8 * (6 + upN (quiN c) (rndN c)) := Int.mul_le_mul_of_nonneg_right (by omega) (by omega)
  exact ⟨6 + upN (quiN c) (rndN c), c.d + 1, 2 * (c.d + 1), 2 * (c.d + 1) + 8, c.n - 1, c.n - 1 - i, (c.n - 1 - i) * (6 + upN (quiN c) (rndN c)), patN c i, upN (quiN c) (rndN c), rfl,
    wrap_in (by omega) (by omega), wrap_in (by omega) (by omega), wrap_in (by omega) (by omega), wrap_in (by omega) (by omega), wrap_in (by omega) (by omega), wrap_in (by omega) (by omega), wrap_in (by omega) (by omega),
    by rw [hp]; exact wrap_in (by omega) (by omega), rfl, wrap_in (by omega) (by omega)⟩

set_option maxHeartbeats 1600000 in
set_option maxRecDepth 20000 in
theorem patience_ok (w : World) (c : Cf) (i : Int) : Calls Try.prog 16 #[.agg (cfC c), .int .i64 i] w fun e w' => e = .returned (.int .i64 (patN c i)) ∧ Below w.heap.size w w' := by
  have HL : Hid ((Instr.loadAt 23 (.pointer (some ⟨w.heap.size, 0, none⟩))).run Try.prog (w.alloc (.cells (cfC c) 23)) = .ok (.agg (cfC c)) (w.alloc (.cells (cfC c) 23))) := (CfAt.new w c).loads
  have K1 := isnode_ok (w.alloc (.cells (cfC c) 23)) c i
  have H0 : Hid (Cfg w w.heap.size c (w.alloc (.cells (cfC c) 23))) := Cfg.new w c
  cases hn : nodeB c i
  · rw [hn] at K1
    rw [show patN c i = 0 by simp [patN, hn]]
    clear hn
    go_enter Try.func16, Try.ntmps16
    go_wp2_with (first | (refine wpList_gload_run rfl 23 _ rfl _ _ rfl HL.out ?_) | fail)
    refine K1.mono ?_
    rintro e w1 ⟨rfl, hb⟩
    have H1 : Hid (Cfg w w.heap.size c w1) := H0.out.step hb
    clear K1 HL H0 hb
    go_wp2
    go_ret
    exact ⟨rfl, H1.out.bel⟩
  · rw [hn] at K1
    obtain ⟨ho, i0, i1⟩ := node_ok hn
    have hr := rnd_in ho
    have hq := qui_in ho
    have K2 : Hid (∀ W, Calls Try.prog 14 #[.agg (cfC c)] W fun e w' => e = .returned (.int .i64 (quiN c)) ∧ Below W.heap.size W w') := fun W => quiet_ok W c
    have K3 : Hid (∀ W, Calls Try.prog 10 #[.agg (cfC c)] W fun e w' => e = .returned (.int .i64 (rndN c)) ∧ Below W.heap.size W w') := fun W => round_ok W c
    have K4 : Hid (∀ W, Calls Try.prog 33 #[.int .i64 (quiN c), .int .i64 (rndN c)] W fun e w' => e = .returned (.int .i64 (upN (quiN c) (rndN c))) ∧ w' = W) := fun W => upwards_ok W _ _ (by omega) (by omega) (by omega)
    obtain ⟨a, b, d, x, y, z, t, P, u, eu, e1, e2, e3, e4, e5, e6, e7, e8, eP, e9⟩ := pat_sums hn
    rw [eu] at K4
    rw [eP]
    clear eu eP hr hq i0 i1 ho hn
    generalize quiN c = Q at *
    generalize rndN c = R at *
    go_enter Try.func16, Try.ntmps16
    go_wp2_with (first | (refine wpList_gload_run rfl 23 _ rfl _ _ rfl HL.out ?_) | fail)
    refine K1.mono ?_
    rintro e w1 ⟨rfl, hb⟩
    have H1 : Hid (Cfg w w.heap.size c w1) := H0.out.step hb
    clear K1 HL H0 hb
    go_upto_region 3 with fail
    generalize hg : w.heap.size = g at *
    have HG : Hid (w.heap.size = g) := hg
    clear hg
    go_region_held3 (fun V => (V.cell? ⟨g, 0, none⟩ = some (.int .i64 c.n) ∧ V.cell? ⟨g, 1, none⟩ = some (.int .i64 c.f) ∧ V.cell? ⟨g, 2, none⟩ = some (.int .i64 c.s) ∧ V.cell? ⟨g, 3, none⟩ = some (.int .i64 c.d) ∧ V.cell? ⟨g, 4, none⟩ = some (.int .i64 c.k) ∧ V.cell? ⟨g, 5, none⟩ = some (.int .i64 c.e) ∧ V.cell? ⟨g, 6, none⟩ = some (.int .i64 c.v) ∧ V.cell? ⟨g, 7, none⟩ = some (.int .i64 c.r) ∧ V.cell? ⟨g, 8, none⟩ = some (.int .i64 c.l) ∧ V.cell? ⟨g, 9, none⟩ = some (.int .i64 c.p)) ∧ Cfg w g c V)
      (first | exact H1.out.held | assumption | exact (Cfg.drew (And.right (by assumption))).held | exact H1.out.drew.held)
      (first | (go_at_call 14; refine (K2.out _).mono ?_; rintro e w2 ⟨rfl, hb⟩; replace hb := (Cfg.step (And.right (by assumption)) hb).held)
             | (go_at_call 10; refine (K3.out _).mono ?_; rintro e w2 ⟨rfl, hb⟩; replace hb := (Cfg.step (And.right (by assumption)) hb).held)
             | (go_at_call 33; refine (K4.out _).mono ?_; rintro e w2 ⟨rfl, rfl⟩))
    all_goals
      rename_i hh
      have H2 : Hid (Cfg w g c _) := hh.2
      have p3 := hh.2.own.c3
      have p0 := hh.2.own.c0
      clear hh H1 K2 K3 K4
      go_wp2
      go_ret
      exact ⟨rfl, HG.out ▸ H2.out.bel⟩

/-- The usual config. -/
def usualC : Cf := ⟨3, 0, 400, 1, 16, 400, 400, 1, 2, 8⟩
theorem usual_ok (w : World) : Calls Try.prog 34 #[] w fun e w' => e = .returned (.agg (cfC usualC)) ∧ Below w.heap.size w w' := by
  have hb : ∀ W, (Instr.build 23 #[(0, .int .i64 3), (2, .int .i64 400), (3, .int .i64 1), (4, .int .i64 16), (5, .int .i64 400), (6, .int .i64 400), (7, .int .i64 1), (8, .int .i64 2), (9, .int .i64 8)]).run Try.prog W = .ok (.agg (cfC usualC)) W := fun W => by
    kernel_rfl
  have h0 : CfAt (w.alloc (.cells (cfC Cf.zero) 23)) w.heap.size Cf.zero := CfAt.new w _
  have HB : Hid ((Instr.build 23 #[(0, .int .i64 3), (2, .int .i64 400), (3, .int .i64 1), (4, .int .i64 16), (5, .int .i64 400), (6, .int .i64 400), (7, .int .i64 1), (8, .int .i64 2), (9, .int .i64 8)]).run Try.prog (w.alloc (.cells (cfC Cf.zero) 23)) = .ok (.agg (cfC usualC)) (w.alloc (.cells (cfC Cf.zero) 23))) := hb _
  have HS : Hid ((Instr.storeAt 23 (.pointer (some ⟨w.heap.size, 0, none⟩)) (.agg (cfC usualC))).run Try.prog (w.alloc (.cells (cfC Cf.zero) 23)) = .ok () ((w.alloc (.cells (cfC Cf.zero) 23)).setRow w.heap.size (cfC usualC))) := h0.stores usualC
  have HE : Hid (CfAt ((w.alloc (.cells (cfC Cf.zero) 23)).setRow w.heap.size (cfC usualC)) w.heap.size usualC ∧ Below w.heap.size w ((w.alloc (.cells (cfC Cf.zero) 23)).setRow w.heap.size (cfC usualC))) :=
    ⟨h0.stored usualC, below_setRow (Go.Joins.below_alloc1 _ _) (Nat.le_refl _) _⟩
  clear hb h0
  go_enter Try.func34, Try.ntmps34
  go_wp2_with (first | (refine wpList_build_run rfl 23 _ rfl [(0, .int .i64 3), (2, .int .i64 400), (3, .int .i64 1), (4, .int .i64 16), (5, .int .i64 400), (6, .int .i64 400), (7, .int .i64 1), (8, .int .i64 2), (9, .int .i64 8)] _ rfl HB.out ?_) | (refine wpList_store_run rfl 23 _ _ rfl _ _ rfl rfl HS.out ?_) | fail)
  refine bodyPost_ret (res_cf rfl rfl HE.out.1) rfl ?_
  exact ⟨rfl, HE.out.2⟩
theorem awake_ok (w : World) : Calls Try.prog 18 #[] w fun e w' => e = .returned (.bool true) ∧ Below w.heap.size w w' := by
  have k1 := usual_ok w
  have K2 : Hid (∀ W, Calls Try.prog 10 #[.agg (cfC usualC)] W fun e w' => e = .returned (.int .i64 1200) ∧ Below W.heap.size W w') := fun W => by
    have := round_ok W usualC
    rw [show rndN usualC = 1200 by decide] at this
    exact this
  generalize usualC = c at *
  go_enter Try.func18, Try.ntmps18
  go_wp2_with fail
  refine k1.mono ?_
  rintro e w1 ⟨rfl, hb1⟩
  clear k1
  go_wp2_with fail
  refine (K2.out _).mono ?_
  rintro e w2 ⟨rfl, hb2⟩
  clear K2
  go_wp2
  go_ret
  exact ⟨rfl, hb1.trans (hb2.mono hb1.size)⟩
end Go.Proofs.Ytfbfbnhbagojgaa
