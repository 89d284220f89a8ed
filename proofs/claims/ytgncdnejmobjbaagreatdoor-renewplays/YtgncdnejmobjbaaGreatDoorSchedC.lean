/-
  The contract of Check.
  The contracts of Round, Keep, Quiet, isNode, isTime, begin, upwards, Patience and of the statements' awake.
  The contracts of isNode, isTime, begin, upwards, Patience and of the statements' awake.
  The contracts of At, Speak and Next.
  The contract of Place.
-/
import Derived.Test.YtgncdnejmobjbaaGreatDoorSchedA
import Derived.Test.YtgncdnejmobjbaaGreatDoorPureB
namespace Go.Proofs.YtgncdnejmobjbaaGreatDoor
open Go.ChangeShapes Go.WideShapes Go.ChangeAt Go.RowKit
set_option maxRecDepth 20000

/-- The config lies in block g, which is new since w. -/
structure Cfg (w : World) (g : Nat) (c : Cf) (W : World) : Prop where
  own : CfAt W g c
  le : w.heap.size ≤ g
  bel : Below w.heap.size w W
theorem Cfg.new (w : World) (c : Cf) : Cfg w w.heap.size c (w.alloc (.cells (cfC c) 23)) := ⟨CfAt.new w c, Nat.le_refl _, Go.Joins.below_alloc1 _ _⟩
theorem Cfg.drew {w W : World} {g : Nat} {c : Cf} (h : Cfg w g c W) : Cfg w g c W.drew := ⟨h.own, h.le, h.bel.drew⟩
theorem Cfg.step {w W V : World} {g : Nat} {c : Cf} (h : Cfg w g c W) (hb : Below W.heap.size W V) : Cfg w g c V := ⟨h.own.below hb, h.le, h.bel.trans (hb.mono h.bel.size)⟩
/-- What a region that draws holds of memory: the config's cells. -/
theorem Cfg.held {w W : World} {g : Nat} {c : Cf} (h : Cfg w g c W) : (W.cell? ⟨g, 0, none⟩ = some (.int .i64 c.n) ∧ W.cell? ⟨g, 1, none⟩ = some (.int .i64 c.f) ∧ W.cell? ⟨g, 2, none⟩ = some (.int .i64 c.s) ∧ W.cell? ⟨g, 3, none⟩ = some (.int .i64 c.d) ∧ W.cell? ⟨g, 4, none⟩ = some (.int .i64 c.k) ∧ W.cell? ⟨g, 5, none⟩ = some (.int .i64 c.e) ∧ W.cell? ⟨g, 6, none⟩ = some (.int .i64 c.v) ∧ W.cell? ⟨g, 7, none⟩ = some (.int .i64 c.r) ∧ W.cell? ⟨g, 8, none⟩ = some (.int .i64 c.l) ∧ W.cell? ⟨g, 9, none⟩ = some (.int .i64 c.p)) ∧ Cfg w g c W :=
  ⟨⟨h.own.c0, h.own.c1, h.own.c2, h.own.c3, h.own.c4, h.own.c5, h.own.c6, h.own.c7, h.own.c8, h.own.c9⟩, h⟩

set_option maxHeartbeats 1600000 in
set_option maxRecDepth 20000 in
theorem scheck_ok (w : World) (c : Cf) : Calls Tryz.prog 20 #[.agg (cfC c)] w fun e w' => e = .returned (.int .i64 (if okB c = true then 0 else 1)) ∧ Below w.heap.size w w' := by
  have K1 : Hid (∀ W, Calls Tryz.prog 40 #[.agg (cfC c)] W fun e w' => e = .returned (.agg (cfC (bNodes c))) ∧ Below W.heap.size W w') := fun W => bnodes_ok W c
  have n1 : ∀ W, (binOp .neq 23 (.agg #[.int .i64 c.n, .int .i64 c.f, .int .i64 c.s, .int .i64 c.d, .int .i64 c.k, .int .i64 c.e, .int .i64 c.v, .int .i64 c.r, .int .i64 c.l, .int .i64 c.p]) (.agg (cfC (bNodes c)))).run Tryz.prog W = .ok (.bool (!nodesB c)) W := fun W => by rw [← same_nodes]; exact neqCf c (bNodes c) W
  have K2 : Hid (∀ W, Calls Tryz.prog 41 #[.agg (cfC c)] W fun e w' => e = .returned (.agg (cfC (bSlots c))) ∧ Below W.heap.size W w') := fun W => bslots_ok W c
  have n2 : ∀ W, (binOp .neq 23 (.agg #[.int .i64 c.n, .int .i64 c.f, .int .i64 c.s, .int .i64 c.d, .int .i64 c.k, .int .i64 c.e, .int .i64 c.v, .int .i64 c.r, .int .i64 c.l, .int .i64 c.p]) (.agg (cfC (bSlots c)))).run Tryz.prog W = .ok (.bool (!slotsB c)) W := fun W => by rw [← same_slots]; exact neqCf c (bSlots c) W
  have K3 : Hid (∀ W, Calls Tryz.prog 42 #[.agg (cfC c)] W fun e w' => e = .returned (.agg (cfC (bKeys c))) ∧ Below W.heap.size W w') := fun W => bkeys_ok W c
  have n3 : ∀ W, (binOp .neq 23 (.agg #[.int .i64 c.n, .int .i64 c.f, .int .i64 c.s, .int .i64 c.d, .int .i64 c.k, .int .i64 c.e, .int .i64 c.v, .int .i64 c.r, .int .i64 c.l, .int .i64 c.p]) (.agg (cfC (bKeys c)))).run Tryz.prog W = .ok (.bool (!keysB c)) W := fun W => by rw [← same_keys]; exact neqCf c (bKeys c) W
  have K4 : Hid (∀ W, Calls Tryz.prog 43 #[.agg (cfC c)] W fun e w' => e = .returned (.agg (cfC (bClocks c))) ∧ Below W.heap.size W w') := fun W => bclocks_ok W c
  have n4 : ∀ W, (binOp .neq 23 (.agg #[.int .i64 c.n, .int .i64 c.f, .int .i64 c.s, .int .i64 c.d, .int .i64 c.k, .int .i64 c.e, .int .i64 c.v, .int .i64 c.r, .int .i64 c.l, .int .i64 c.p]) (.agg (cfC (bClocks c)))).run Tryz.prog W = .ok (.bool (!clocksB c)) W := fun W => by rw [← same_clocks]; exact neqCf c (bClocks c) W
  have H0 : Hid (Cfg w w.heap.size c (w.alloc (.cells (cfC c) 23))) := Cfg.new w c
  unfold okB
  generalize nodesB c = b1 at *
  generalize bNodes c = c1 at *
  generalize slotsB c = b2 at *
  generalize bSlots c = c2 at *
  generalize keysB c = b3 at *
  generalize bKeys c = c3 at *
  generalize clocksB c = b4 at *
  generalize bClocks c = c4 at *
  go_enter Tryz.func20, Tryz.ntmps20
  go_upto_region 1 with fail
  generalize hg : w.heap.size = g at *
  generalize w.alloc (.cells (cfC c) 23) = W at *
  have HG : Hid (w.heap.size = g) := hg
  clear hg
  go_region_held3 (fun V => (V.cell? ⟨g, 0, none⟩ = some (.int .i64 c.n) ∧ V.cell? ⟨g, 1, none⟩ = some (.int .i64 c.f) ∧ V.cell? ⟨g, 2, none⟩ = some (.int .i64 c.s) ∧ V.cell? ⟨g, 3, none⟩ = some (.int .i64 c.d) ∧ V.cell? ⟨g, 4, none⟩ = some (.int .i64 c.k) ∧ V.cell? ⟨g, 5, none⟩ = some (.int .i64 c.e) ∧ V.cell? ⟨g, 6, none⟩ = some (.int .i64 c.v) ∧ V.cell? ⟨g, 7, none⟩ = some (.int .i64 c.r) ∧ V.cell? ⟨g, 8, none⟩ = some (.int .i64 c.l) ∧ V.cell? ⟨g, 9, none⟩ = some (.int .i64 c.p)) ∧ Cfg w g c V)
      (first | exact H0.out.held | assumption | exact (Cfg.drew (And.right (by assumption))).held | exact H0.out.drew.held)
      (first | (go_at_call 40; refine (K1.out _).mono ?_; rintro e w1 ⟨rfl, hb⟩; replace hb := (Cfg.step (And.right (by assumption)) hb).held))
  rename_i hh1
  have H1 : Hid (Cfg w g c w1) := hh1.2
  clear hh1 hb H0 K1 n1
  cases b1
  case false =>
    go_wp2
    go_ret
    exact ⟨by simp, HG.out ▸ H1.out.bel⟩
  go_upto_region 2 with fail
  go_region_held3 (fun V => (V.cell? ⟨g, 0, none⟩ = some (.int .i64 c.n) ∧ V.cell? ⟨g, 1, none⟩ = some (.int .i64 c.f) ∧ V.cell? ⟨g, 2, none⟩ = some (.int .i64 c.s) ∧ V.cell? ⟨g, 3, none⟩ = some (.int .i64 c.d) ∧ V.cell? ⟨g, 4, none⟩ = some (.int .i64 c.k) ∧ V.cell? ⟨g, 5, none⟩ = some (.int .i64 c.e) ∧ V.cell? ⟨g, 6, none⟩ = some (.int .i64 c.v) ∧ V.cell? ⟨g, 7, none⟩ = some (.int .i64 c.r) ∧ V.cell? ⟨g, 8, none⟩ = some (.int .i64 c.l) ∧ V.cell? ⟨g, 9, none⟩ = some (.int .i64 c.p)) ∧ Cfg w g c V)
      (first | exact H1.out.held | assumption | exact (Cfg.drew (And.right (by assumption))).held | exact H1.out.drew.held)
      (first | (go_at_call 41; refine (K2.out _).mono ?_; rintro e w2 ⟨rfl, hb⟩; replace hb := (Cfg.step (And.right (by assumption)) hb).held))
  rename_i hh2
  have H2 : Hid (Cfg w g c w2) := hh2.2
  clear hh2 hb H1 K2 n2
  cases b2
  case false =>
    go_wp2
    go_ret
    exact ⟨by simp, HG.out ▸ H2.out.bel⟩
  go_upto_region 3 with fail
  go_region_held3 (fun V => (V.cell? ⟨g, 0, none⟩ = some (.int .i64 c.n) ∧ V.cell? ⟨g, 1, none⟩ = some (.int .i64 c.f) ∧ V.cell? ⟨g, 2, none⟩ = some (.int .i64 c.s) ∧ V.cell? ⟨g, 3, none⟩ = some (.int .i64 c.d) ∧ V.cell? ⟨g, 4, none⟩ = some (.int .i64 c.k) ∧ V.cell? ⟨g, 5, none⟩ = some (.int .i64 c.e) ∧ V.cell? ⟨g, 6, none⟩ = some (.int .i64 c.v) ∧ V.cell? ⟨g, 7, none⟩ = some (.int .i64 c.r) ∧ V.cell? ⟨g, 8, none⟩ = some (.int .i64 c.l) ∧ V.cell? ⟨g, 9, none⟩ = some (.int .i64 c.p)) ∧ Cfg w g c V)
      (first | exact H2.out.held | assumption | exact (Cfg.drew (And.right (by assumption))).held | exact H2.out.drew.held)
      (first | (go_at_call 42; refine (K3.out _).mono ?_; rintro e w3 ⟨rfl, hb⟩; replace hb := (Cfg.step (And.right (by assumption)) hb).held))
  rename_i hh3
  have H3 : Hid (Cfg w g c w3) := hh3.2
  clear hh3 hb H2 K3 n3
  cases b3
  case false =>
    go_wp2
    go_ret
    exact ⟨by simp, HG.out ▸ H3.out.bel⟩
  go_upto_region 4 with fail
  go_region_held3 (fun V => (V.cell? ⟨g, 0, none⟩ = some (.int .i64 c.n) ∧ V.cell? ⟨g, 1, none⟩ = some (.int .i64 c.f) ∧ V.cell? ⟨g, 2, none⟩ = some (.int .i64 c.s) ∧ V.cell? ⟨g, 3, none⟩ = some (.int .i64 c.d) ∧ V.cell? ⟨g, 4, none⟩ = some (.int .i64 c.k) ∧ V.cell? ⟨g, 5, none⟩ = some (.int .i64 c.e) ∧ V.cell? ⟨g, 6, none⟩ = some (.int .i64 c.v) ∧ V.cell? ⟨g, 7, none⟩ = some (.int .i64 c.r) ∧ V.cell? ⟨g, 8, none⟩ = some (.int .i64 c.l) ∧ V.cell? ⟨g, 9, none⟩ = some (.int .i64 c.p)) ∧ Cfg w g c V)
      (first | exact H3.out.held | assumption | exact (Cfg.drew (And.right (by assumption))).held | exact H3.out.drew.held)
      (first | (go_at_call 43; refine (K4.out _).mono ?_; rintro e w4 ⟨rfl, hb⟩; replace hb := (Cfg.step (And.right (by assumption)) hb).held))
  rename_i hh4
  have H4 : Hid (Cfg w g c w4) := hh4.2
  clear hh4 hb H3 K4 n4
  cases b4
  case false =>
    go_wp2
    go_ret
    exact ⟨by simp, HG.out ▸ H4.out.bel⟩
  go_wp2
  go_ret
  exact ⟨by simp, HG.out ▸ H4.out.bel⟩
end Go.Proofs.YtgncdnejmobjbaaGreatDoor

namespace Go.Proofs.YtgncdnejmobjbaaGreatDoor
open Go.ChangeShapes Go.WideShapes Go.ChangeAt Go.RowKit
set_option maxRecDepth 20000

theorem wrap_in {x : Int} (h0 : -9223372036854775808 ≤ x) (h1 : x ≤ 9223372036854775807) : IntKind.i64.wrap x = x := by rw [IntKind.wrap_i64]; omega
theorem rnd_le (c : Cf) : 0 ≤ rndN c ∧ rndN c ≤ 80000 := by
  cases h : okB c
  · simp [rndN, h]
  · have := rnd_in h; omega

set_option maxHeartbeats 1600000 in
set_option maxRecDepth 20000 in
theorem round_ok (w : World) (c : Cf) : Calls Tryz.prog 79 #[.agg (cfC c)] w fun e w' => e = .returned (.int .i64 (rndN c)) ∧ Below w.heap.size w w' := by
  have HL : Hid ((Instr.loadAt 23 (.pointer (some ⟨w.heap.size, 0, none⟩))).run Tryz.prog (w.alloc (.cells (cfC c) 23)) = .ok (.agg (cfC c)) (w.alloc (.cells (cfC c) 23))) := (CfAt.new w c).loads
  have K1 := scheck_ok (w.alloc (.cells (cfC c) 23)) c
  have H0 : Hid (Cfg w w.heap.size c (w.alloc (.cells (cfC c) 23))) := Cfg.new w c
  cases ho : okB c
  · rw [ho, if_neg Bool.false_ne_true] at K1
    rw [show rndN c = 0 by simp [rndN, ho]]
    clear ho
    go_enter Tryz.func79, Tryz.ntmps79
    go_wp2_with (first | (refine wpList_gload_run rfl 23 _ rfl _ _ rfl HL.out ?_) | fail)
    refine K1.mono ?_
    rintro e w1 ⟨rfl, hb⟩
    have H1 : Hid (Cfg w w.heap.size c w1) := H0.out.step hb
    clear K1 HL H0 hb
    go_wp2
    go_ret
    exact ⟨rfl, H1.out.bel⟩
  · rw [ho, if_pos rfl] at K1
    have hr := rnd_in ho
    obtain ⟨R, hR⟩ : ∃ R, R = rndN c := ⟨_, rfl⟩
    rw [← hR] at hr ⊢
    have e1 : IntKind.i64.wrap (c.n * c.s) = R := by rw [← rnd_right ho, ← hR]; exact wrap_in (by omega) (by omega)
    clear ho hr hR
    go_enter Tryz.func79, Tryz.ntmps79
    go_wp2_with (first | (refine wpList_gload_run rfl 23 _ rfl _ _ rfl HL.out ?_) | fail)
    refine K1.mono ?_
    rintro e w1 ⟨rfl, hb⟩
    have H1 : Hid (Cfg w w.heap.size c w1) := H0.out.step hb
    have p0 := H1.out.own.c0
    have p2 := H1.out.own.c2
    clear K1 HL H0 hb
    go_wp2
    go_ret
    exact ⟨rfl, H1.out.bel⟩

/-- Quiet's sums and products, none of them too great. -/
theorem qui_sums {c : Cf} (h : okB c = true) : ∃ q A B X D Y Q : Int, IntKind.i64.wrap (c.r + c.l) = q ∧ IntKind.i64.wrap (2 * rndN c + c.v) = A ∧ IntKind.i64.wrap (100 + q) = B ∧ IntKind.i64.wrap (A * B) = X ∧ IntKind.i64.wrap (100 - q) = D ∧
    X.tdiv D = Y ∧ IntKind.i64.wrap Y = Y ∧ ¬ D = 0 ∧ (D == 0) = false ∧ IntKind.i64.wrap (Y + 200) = Q ∧ quiN c = Q := by
  have hr := rnd_in h
  have hq := qui_in h
  have g := right_of h
  have h1 := g.v0; have h2 := g.v1; have h3 := g.s1; have h4 := g.r0; have h5 := g.r1; have h6 := g.l0; have h7 := g.l1
  have hd : quiN c = ((2 * rndN c + c.v) * (100 + (c.r + c.l))).tdiv (100 - (c.r + c.l)) + 200 := by rw [quiN, if_pos h]
  have a1 : (2 * rndN c + c.v) * 100 ≤ (2 * rndN c + c.v) * (100 + (c.r + c.l)) := Int.mul_le_mul_of_nonneg_left (by omega) (by omega)
  have a2 : (2 * rndN c + c.v) * (100 + (c.r + c.l)) ≤ (2 * rndN c + c.v) * 110 := Int.mul_le_mul_of_nonneg_left (by omega) (by omega)
  refine ⟨c.r + c.l, 2 * rndN c + c.v, 100 + (c.r + c.l), (2 * rndN c + c.v) * (100 + (c.r + c.l)), 100 - (c.r + c.l), ((2 * rndN c + c.v) * (100 + (c.r + c.l))).tdiv (100 - (c.r + c.l)), quiN c,
    wrap_in (by omega) (by omega), wrap_in (by omega) (by omega), wrap_in (by omega) (by omega), wrap_in (by omega) (by omega), wrap_in (by omega) (by omega), rfl, ?_, by omega, by simp; omega, ?_, rfl⟩
  · exact wrap_in (by omega) (by omega)
  · rw [hd]; exact wrap_in (by omega) (by omega)

end Go.Proofs.YtgncdnejmobjbaaGreatDoor

namespace Go.Proofs.YtgncdnejmobjbaaGreatDoor
open Go.ChangeShapes Go.WideShapes Go.ChangeAt Go.RowKit
set_option maxRecDepth 20000

set_option maxHeartbeats 1600000 in
set_option maxRecDepth 20000 in
theorem isnode_ok (w : World) (c : Cf) (i : Int) : Calls Tryz.prog 103 #[.agg (cfC c), .int .i64 i] w fun e w' => e = .returned (.bool (nodeB c i)) ∧ Below w.heap.size w w' := by
  have HL : Hid ((Instr.loadAt 23 (.pointer (some ⟨w.heap.size, 0, none⟩))).run Tryz.prog (w.alloc (.cells (cfC c) 23)) = .ok (.agg (cfC c)) (w.alloc (.cells (cfC c) 23))) := (CfAt.new w c).loads
  have K1 := scheck_ok (w.alloc (.cells (cfC c) 23)) c
  have H0 : Hid (Cfg w w.heap.size c (w.alloc (.cells (cfC c) 23))) := Cfg.new w c
  cases ho : okB c
  · rw [ho, if_neg Bool.false_ne_true] at K1
    rw [show nodeB c i = false by simp [nodeB, ho]]
    clear ho
    go_enter Tryz.func103, Tryz.ntmps103
    go_wp2_with (first | (refine wpList_gload_run rfl 23 _ rfl _ _ rfl HL.out ?_) | fail)
    refine K1.mono ?_
    rintro e w1 ⟨rfl, hb⟩
    have H1 : Hid (Cfg w w.heap.size c w1) := H0.out.step hb
    clear K1 HL H0 hb
    go_wp2
    go_ret
    exact ⟨rfl, H1.out.bel⟩
  · rw [ho, if_pos rfl] at K1
    by_cases h0 : 0 ≤ i
    · have hN : nodeB c i = decide (i < c.n) := by simp [nodeB, ho, h0]
      rw [hN]
      clear hN
      by_cases h1 : i < c.n
      all_goals
        simp only [h1, decide_true, decide_false]
        clear ho
        go_enter Tryz.func103, Tryz.ntmps103
        go_wp2_with (first | (refine wpList_gload_run rfl 23 _ rfl _ _ rfl HL.out ?_) | fail)
        refine K1.mono ?_
        rintro e w1 ⟨rfl, hb⟩
        have H1 : Hid (Cfg w w.heap.size c w1) := H0.out.step hb
        have p0 := H1.out.own.c0
        clear K1 HL H0 hb
        go_wp2
        go_ret
        exact ⟨by first | rfl | (simp; done) | (simp; omega), H1.out.bel⟩
    · rw [show nodeB c i = false by simp [nodeB, h0]]
      clear ho
      go_enter Tryz.func103, Tryz.ntmps103
      go_wp2_with (first | (refine wpList_gload_run rfl 23 _ rfl _ _ rfl HL.out ?_) | fail)
      refine K1.mono ?_
      rintro e w1 ⟨rfl, hb⟩
      have H1 : Hid (Cfg w w.heap.size c w1) := H0.out.step hb
      clear K1 HL H0 hb
      go_wp2
      go_ret
      exact ⟨by first | rfl | (simp; done) | (simp; omega), H1.out.bel⟩

theorem istime_ok (w : World) (t : Int) : Calls Tryz.prog 78 #[.int .i64 t] w fun e w' => e = .returned (.bool (timeB t)) ∧ w' = w := by
  by_cases h0 : 0 ≤ t
  · have hN : timeB t = decide (t ≤ 1099511627776) := by simp [timeB, h0]
    rw [hN]
    clear hN
    by_cases h1 : t ≤ 1099511627776
    all_goals
      simp only [h1, decide_true, decide_false]
      go_enter Tryz.func78, Tryz.ntmps78
      go_wp2
      go_ret
      exact ⟨by first | rfl | (simp; done) | (simp; omega), rfl⟩
  · rw [show timeB t = false by simp [timeB, h0]]
    go_enter Tryz.func78, Tryz.ntmps78
    go_wp2
    go_ret
    exact ⟨by first | rfl | (simp; done) | (simp; omega), rfl⟩

theorem begin_ok (w : World) (c : Cf) (i u : Int) (e1 : IntKind.i64.wrap (i * c.s) = u) : Calls Tryz.prog 104 #[.agg (cfC c), .int .i64 i] w fun e w' => e = .returned (.int .i64 u) ∧ Below w.heap.size w w' := by
  have H0 : Hid (Cfg w w.heap.size c (w.alloc (.cells (cfC c) 23))) := Cfg.new w c
  have p2 := H0.out.own.c2
  go_enter Tryz.func104, Tryz.ntmps104
  go_wp2
  go_ret
  exact ⟨rfl, H0.out.bel⟩

/-- Patience's sums. -/
theorem pat_sums {c : Cf} {i : Int} (h : nodeB c i = true) : ∃ a b d x y z t P u : Int, upN (quiN c) (rndN c) = u ∧ IntKind.i64.wrap (6 + u) = a ∧ IntKind.i64.wrap (c.d + 1) = b ∧ IntKind.i64.wrap (2 * b) = d ∧ IntKind.i64.wrap (d + 8) = x ∧ IntKind.i64.wrap (c.n - 1) = y ∧
    IntKind.i64.wrap (y - i) = z ∧ IntKind.i64.wrap (z * a) = t ∧ IntKind.i64.wrap (x + t) = P ∧ patN c i = P ∧ IntKind.i64.wrap u = u := by
  obtain ⟨ho, i0, i1⟩ := node_ok h
  have hr := rnd_in ho
  have hq := qui_in ho
  have g := right_of ho
  have h1 := g.n0; have h2 := g.n1; have h3 := g.d0; have h4 := g.d1
  have hu := up_in (a := quiN c) (b := rndN c) (by omega) (by omega)
  have hp : patN c i = 2 * (c.d + 1) + 8 + (c.n - 1 - i) * (6 + upN (quiN c) (rndN c)) := by rw [patN, if_pos h]
  have a1 : 0 ≤ (c.n - 1 - i) * (6 + upN (quiN c) (rndN c)) := Int.mul_nonneg (by omega) (by omega)
  have a2 : (c.n - 1 - i) * (6 + upN (quiN c) (rndN c)) ≤ 8 * (6 + upN (quiN c) (rndN c)) := Int.mul_le_mul_of_nonneg_right (by omega) (by omega)
  exact ⟨6 + upN (quiN c) (rndN c), c.d + 1, 2 * (c.d + 1), 2 * (c.d + 1) + 8, c.n - 1, c.n - 1 - i, (c.n - 1 - i) * (6 + upN (quiN c) (rndN c)), patN c i, upN (quiN c) (rndN c), rfl,
    wrap_in (by omega) (by omega), wrap_in (by omega) (by omega), wrap_in (by omega) (by omega), wrap_in (by omega) (by omega), wrap_in (by omega) (by omega), wrap_in (by omega) (by omega), wrap_in (by omega) (by omega),
    by rw [hp]; exact wrap_in (by omega) (by omega), rfl, wrap_in (by omega) (by omega)⟩

/-- The usual config. -/
def usualC : Cf := ⟨3, 0, 400, 1, 16, 400, 400, 1, 2, 8⟩
end Go.Proofs.YtgncdnejmobjbaaGreatDoor

namespace Go.Proofs.YtgncdnejmobjbaaGreatDoor
open Go.ChangeShapes Go.WideShapes Go.ChangeAt Go.RowKit
set_option maxRecDepth 20000

/-- What At, Speak and Next answer. -/
def atV (c : Cf) (r s : Int) : Value := if cellB c r s = true then .tuple #[.int .i64 (atN c r s), .int .i64 0] else .tuple #[.int .i64 0, .int .i64 1]
def speakV (c : Cf) (r s : Int) : Value := if cellB c r s = true then .tuple #[.int .i64 (atN c r s), .int .i64 (atN c r s + c.s - 1), .int .i64 0] else .tuple #[.int .i64 0, .int .i64 0, .int .i64 1]
def nextV (c : Cf) (i t : Int) : Value := if snextB c i t = true then .tuple #[.int .i64 (nextN c i t), .int .i64 0] else .tuple #[.int .i64 0, .int .i64 1]

set_option maxHeartbeats 1600000 in
set_option maxRecDepth 20000 in
theorem at_ok (w : World) (c : Cf) (r s : Int) : Calls Tryz.prog 92 #[.agg (cfC c), .int .i64 r, .int .i64 s] w fun e w' => e = .returned (atV c r s) ∧ Below w.heap.size w w' := by
  have K1 := isnode_ok (w.alloc (.cells (cfC c) 23)) c s
  have H0 : Hid (Cfg w w.heap.size c (w.alloc (.cells (cfC c) 23))) := Cfg.new w c
  by_cases h0 : 0 ≤ r
  case neg =>
    rw [atV, if_neg (by simp [cellB, h0])]
    clear K1
    go_enter Tryz.func92, Tryz.ntmps92
    go_wp2
    go_ret2
    exact ⟨rfl, H0.out.bel⟩
  by_cases h1 : r < 1048576
  case neg =>
    rw [atV, if_neg (by simp [cellB, h1])]
    clear K1
    go_enter Tryz.func92, Tryz.ntmps92
    go_wp2
    go_ret2
    exact ⟨rfl, H0.out.bel⟩
  cases hn : nodeB c s
  · rw [hn] at K1
    rw [atV, if_neg (by simp [cellB, hn])]
    clear hn
    go_enter Tryz.func92, Tryz.ntmps92
    obtain ⟨p0, p1, p2, p3, p4, p5, p6, p7, p8, p9⟩ := H0.out.held.1
    go_wp2_with fail
    refine K1.mono ?_
    rintro e w1 ⟨rfl, hb⟩
    have H1 : Hid (Cfg w w.heap.size c w1) := H0.out.step hb
    clear K1 H0 hb p0 p1 p2 p3 p4 p5 p6 p7 p8 p9
    go_wp2
    go_ret2
    exact ⟨rfl, H1.out.bel⟩
  · rw [hn] at K1
    have hc : cellB c r s = true := by simp [cellB, hn, h0, h1]
    rw [atV, if_pos hc]
    obtain ⟨b1, b2, b3, b4, b5, b6, b7, b8⟩ := at_in hc
    have K2 : Hid (∀ W, Calls Tryz.prog 79 #[.agg (cfC c)] W fun e w' => e = .returned (.int .i64 (rndN c)) ∧ Below W.heap.size W w') := fun W => round_ok W c
    obtain ⟨u, hu⟩ : ∃ u, u = s * c.s := ⟨_, rfl⟩
    obtain ⟨x, hx⟩ : ∃ x, x = r * rndN c := ⟨_, rfl⟩
    obtain ⟨T, hT⟩ : ∃ T, T = atN c r s := ⟨_, rfl⟩
    have K3 : Hid (∀ W, Calls Tryz.prog 104 #[.agg (cfC c), .int .i64 s] W fun e w' => e = .returned (.int .i64 u) ∧ Below W.heap.size W w') := fun W => begin_ok W c s u (by rw [hu]; exact wrap_in (by omega) (by omega))
    have K4 : Hid (∀ W, Calls Tryz.prog 78 #[.int .i64 T] W fun e w' => e = .returned (.bool true) ∧ w' = W) := fun W => by
      have := istime_ok W T
      rw [show timeB T = true by rw [hT]; simp only [timeB, decide_eq_true_eq]; omega] at this
      exact this
    have e1 : IntKind.i64.wrap (r * rndN c) = x := by rw [hx]; exact wrap_in (by omega) (by omega)
    have e2 : IntKind.i64.wrap (x + u) = T := by rw [hx, hu, hT]; exact wrap_in (by unfold atN at b5; omega) (by unfold atN at b6; omega)
    rw [← hT]
    clear hu hx hT b1 b2 b3 b4 b5 b6 b7 b8 hc hn
    generalize rndN c = R at *
    go_enter Tryz.func92, Tryz.ntmps92
    obtain ⟨p0, p1, p2, p3, p4, p5, p6, p7, p8, p9⟩ := H0.out.held.1
    go_wp2_with fail
    refine K1.mono ?_
    rintro e w1 ⟨rfl, hb⟩
    have H1 : Hid (Cfg w w.heap.size c w1) := H0.out.step hb
    clear K1 H0 hb p0 p1 p2 p3 p4 p5 p6 p7 p8 p9
    go_upto_region 3 with fail
    clear h0 h1
    generalize hg : w.heap.size = g at *
    have HG : Hid (w.heap.size = g) := hg
    clear hg
    go_region_held3 (fun V => (V.cell? ⟨g, 0, none⟩ = some (.int .i64 c.n) ∧ V.cell? ⟨g, 1, none⟩ = some (.int .i64 c.f) ∧ V.cell? ⟨g, 2, none⟩ = some (.int .i64 c.s) ∧ V.cell? ⟨g, 3, none⟩ = some (.int .i64 c.d) ∧ V.cell? ⟨g, 4, none⟩ = some (.int .i64 c.k) ∧ V.cell? ⟨g, 5, none⟩ = some (.int .i64 c.e) ∧ V.cell? ⟨g, 6, none⟩ = some (.int .i64 c.v) ∧ V.cell? ⟨g, 7, none⟩ = some (.int .i64 c.r) ∧ V.cell? ⟨g, 8, none⟩ = some (.int .i64 c.l) ∧ V.cell? ⟨g, 9, none⟩ = some (.int .i64 c.p)) ∧ Cfg w g c V)
      (first | exact H1.out.held | assumption | exact (Cfg.drew (And.right (by assumption))).held | exact H1.out.drew.held)
      (first | (go_at_call 79; refine (K2.out _).mono ?_; rintro e w2 ⟨rfl, hb⟩; replace hb := (Cfg.step (And.right (by assumption)) hb).held)
             | (go_at_call 104; refine (K3.out _).mono ?_; rintro e w2 ⟨rfl, hb⟩; replace hb := (Cfg.step (And.right (by assumption)) hb).held))
    all_goals
      rename_i hh
      have H2 : Hid (Cfg w g c _) := hh.2
      clear hh H1 K2 K3
      go_wp2_with fail
      refine (K4.out _).mono ?_
      rintro e w3 ⟨rfl, rfl⟩
      go_wp2
      go_ret2
      exact ⟨rfl, HG.out ▸ H2.out.bel⟩

end Go.Proofs.YtgncdnejmobjbaaGreatDoor

namespace Go.Proofs.YtgncdnejmobjbaaGreatDoor
open Go.ChangeShapes Go.WideShapes Go.ChangeAt Go.RowKit
set_option maxRecDepth 20000

/-- What Place answers. -/
def triA (a b d : Int) : Array Value := #[.int .i64 a, .int .i64 b, .int .i64 d]
def placeV (c : Cf) (t : Int) : Value := if placeB c t = true then .tuple #[.agg #[.int .i64 (t / rndN c), .int .i64 (t % rndN c / c.s), .int .i64 (t % c.s)], .int .i64 0] else .tuple #[.agg #[.int .i64 0, .int .i64 0, .int .i64 0], .int .i64 1]
/-- Block k holds some cell of the schedule. -/
def Rm (W : World) (k : Nat) : Prop := ∃ x y z, Tri W k x y z
/-- The config in block g, and room for a cell of the schedule in the next one. -/
structure Cfr (w : World) (g : Nat) (c : Cf) (W : World) : Prop where
  cfg : Cfg w g c W
  room : Rm W (g + 1)
theorem Cfr.new (w : World) (c : Cf) : Cfr w w.heap.size c ((w.alloc (.cells (cfC c) 23)).alloc (.cells #[.int .i64 0, .int .i64 0, .int .i64 0] 99)) :=
  ⟨⟨(CfAt.new w c).alloc _, Nat.le_refl _, Go.Joins.below_alloc2 _ _ _⟩, 0, 0, 0, by simpa using Tri.new (w.alloc (.cells (cfC c) 23)) 0 0 0⟩
theorem Cfr.drew {w W : World} {g : Nat} {c : Cf} (h : Cfr w g c W) : Cfr w g c W.drew := ⟨h.cfg.drew, h.room⟩
theorem Cfr.step {w W V : World} {g : Nat} {c : Cf} (h : Cfr w g c W) (hb : Below W.heap.size W V) : Cfr w g c V := ⟨h.cfg.step hb, by
  obtain ⟨x, y, z, ht⟩ := h.room
  exact ⟨x, y, z, ht.below hb⟩⟩
theorem Cfr.put {w W : World} {g : Nat} {c : Cf} (h : Cfr w g c W) (a b d : Int) : Cfr w g c (((W.setCell ⟨g + 1, 0, none⟩ (.int .i64 a)).setCell ⟨g + 1, 1, none⟩ (.int .i64 b)).setCell ⟨g + 1, 2, none⟩ (.int .i64 d)) := by
  obtain ⟨x, y, z, ht⟩ := h.room
  refine ⟨⟨?_, h.cfg.le, below_tri h.cfg.bel (by have := h.cfg.le; omega) _ _ _⟩, a, b, d, ht.set a b d⟩
  refine h.cfg.own.keep ?_
  rw [heap_setCell_other _ _ _ _ (by simp), heap_setCell_other _ _ _ _ (by simp), heap_setCell_other _ _ _ _ (by simp)]
theorem Cfr.held {w W : World} {g : Nat} {c : Cf} (h : Cfr w g c W) : (W.cell? ⟨g, 0, none⟩ = some (.int .i64 c.n) ∧ W.cell? ⟨g, 1, none⟩ = some (.int .i64 c.f) ∧ W.cell? ⟨g, 2, none⟩ = some (.int .i64 c.s) ∧ W.cell? ⟨g, 3, none⟩ = some (.int .i64 c.d) ∧ W.cell? ⟨g, 4, none⟩ = some (.int .i64 c.k) ∧ W.cell? ⟨g, 5, none⟩ = some (.int .i64 c.e) ∧ W.cell? ⟨g, 6, none⟩ = some (.int .i64 c.v) ∧ W.cell? ⟨g, 7, none⟩ = some (.int .i64 c.r) ∧ W.cell? ⟨g, 8, none⟩ = some (.int .i64 c.l) ∧ W.cell? ⟨g, 9, none⟩ = some (.int .i64 c.p)) ∧ Cfr w g c W := ⟨h.cfg.held.1, h⟩

/-- Place's quotients. -/
theorem place_sums {c : Cf} {t : Int} (ho : okB c = true) (ht : timeB t = true) : ∃ R q m k o : Int, rndN c = R ∧ ¬ R = 0 ∧ (R == 0) = false ∧ t.tdiv R = q ∧ IntKind.i64.wrap q = q ∧ t.tmod R = m ∧ ¬ c.s = 0 ∧ (c.s == 0) = false ∧ m.tdiv c.s = k ∧ IntKind.i64.wrap k = k ∧ t.tmod c.s = o ∧
    t / rndN c = q ∧ t % rndN c / c.s = k ∧ t % c.s = o ∧ t % rndN c = m ∧ m.tmod c.s = o := by
  have hr := rnd_in ho
  have hT := time_in ht
  have hs := (right_of ho).s0
  have p1 := parts t (rndN c) (by omega)
  have q1 : t.tdiv (rndN c) = t / rndN c := Int.tdiv_eq_ediv_of_nonneg hT.1
  have q2 : t.tmod (rndN c) = t % rndN c := Int.tmod_eq_emod_of_nonneg hT.1
  have q3 : (t % rndN c).tdiv c.s = t % rndN c / c.s := Int.tdiv_eq_ediv_of_nonneg p1.2.1
  have q4 : t.tmod c.s = t % c.s := Int.tmod_eq_emod_of_nonneg hT.1
  have q5 : (t % rndN c).tmod c.s = t % c.s := by rw [Int.tmod_eq_emod_of_nonneg p1.2.1, over_eq ho]
  have u1 : 0 ≤ t / rndN c := Int.ediv_nonneg hT.1 (by omega)
  have u2 : t / rndN c ≤ t := Int.ediv_le_self _ hT.1
  have u3 := slot_of ho t
  have u4 := (right_of ho).n1
  refine ⟨rndN c, t / rndN c, t % rndN c, t % rndN c / c.s, t % c.s, rfl, by omega, by simp; omega, q1, wrap_in (by omega) (by omega), q2, by omega, by simp; omega, q3, wrap_in (by omega) (by omega), q4, rfl, rfl, rfl, rfl, q5⟩

set_option maxHeartbeats 1600000 in
set_option maxRecDepth 20000 in
theorem place_ok (w : World) (c : Cf) (t : Int) : Calls Tryz.prog 60 #[.agg (cfC c), .int .i64 t] w fun e w' => e = .returned (placeV c t) ∧ Below w.heap.size w w' := by
  have H0 : Hid (Cfr w w.heap.size c ((w.alloc (.cells (cfC c) 23)).alloc (.cells #[.int .i64 0, .int .i64 0, .int .i64 0] 99))) := Cfr.new w c
  have HL : Hid ((Instr.loadAt 23 (.pointer (some ⟨w.heap.size, 0, none⟩))).run Tryz.prog ((w.alloc (.cells (cfC c) 23)).alloc (.cells #[.int .i64 0, .int .i64 0, .int .i64 0] 99)) = .ok (.agg (cfC c)) ((w.alloc (.cells (cfC c) 23)).alloc (.cells #[.int .i64 0, .int .i64 0, .int .i64 0] 99))) := H0.out.cfg.own.loads
  have K1 := scheck_ok ((w.alloc (.cells (cfC c) 23)).alloc (.cells #[.int .i64 0, .int .i64 0, .int .i64 0] 99)) c
  cases ho : okB c
  · rw [ho, if_neg Bool.false_ne_true] at K1
    rw [placeV, if_neg (by simp [placeB, ho])]
    clear ho
    go_enter Tryz.func60, Tryz.ntmps60
    go_wp2_with (first | (refine wpList_gload_run rfl 23 _ rfl _ _ rfl HL.out ?_) | fail)
    refine K1.mono ?_
    rintro e w1 ⟨rfl, hb⟩
    have H1 : Hid (Cfr w w.heap.size c w1) := H0.out.step hb
    obtain ⟨x, y, z, hT⟩ := H1.out.room
    obtain ⟨t0, t1, t2, f0, f1, f2⟩ := hT.facts
    have H2 := H1.out.put 0 0 0
    have H3 : Hid (Tri (((w1.setCell ⟨w.heap.size + 1, 0, none⟩ (.int .i64 0)).setCell ⟨w.heap.size + 1, 1, none⟩ (.int .i64 0)).setCell ⟨w.heap.size + 1, 2, none⟩ (.int .i64 0)) (w.heap.size + 1) 0 0 0) := hT.set 0 0 0
    clear K1 HL H0 hb H1 hT
    have H4 : Hid _ := H2
    clear H2
    go_wp2
    refine bodyPost_ret (res_tri_tmp rfl rfl H3.out) rfl ?_
    exact ⟨rfl, H4.out.cfg.bel⟩
  rw [ho, if_pos rfl] at K1
  have K2 := fun W => istime_ok W t
  cases ht : timeB t
  · rw [ht] at K2
    have K2' : Hid (∀ W, Calls Tryz.prog 78 #[.int .i64 t] W fun e w' => e = .returned (.bool false) ∧ w' = W) := K2
    rw [placeV, if_neg (by simp [placeB, ht])]
    clear ho ht K2
    go_enter Tryz.func60, Tryz.ntmps60
    go_wp2_with (first | (refine wpList_gload_run rfl 23 _ rfl _ _ rfl HL.out ?_) | fail)
    refine K1.mono ?_
    rintro e w1 ⟨rfl, hb⟩
    have H1 : Hid (Cfr w w.heap.size c w1) := H0.out.step hb
    clear K1 HL H0 hb
    go_wp2_with fail
    refine (K2'.out _).mono ?_
    rintro e w2 ⟨rfl, rfl⟩
    clear K2'
    obtain ⟨x, y, z, hT⟩ := H1.out.room
    obtain ⟨t0, t1, t2, f0, f1, f2⟩ := hT.facts
    have H3 : Hid (Tri (((w2.setCell ⟨w.heap.size + 1, 0, none⟩ (.int .i64 0)).setCell ⟨w.heap.size + 1, 1, none⟩ (.int .i64 0)).setCell ⟨w.heap.size + 1, 2, none⟩ (.int .i64 0)) (w.heap.size + 1) 0 0 0) := hT.set 0 0 0
    have H4 : Hid (Cfr w w.heap.size c (((w2.setCell ⟨w.heap.size + 1, 0, none⟩ (.int .i64 0)).setCell ⟨w.heap.size + 1, 1, none⟩ (.int .i64 0)).setCell ⟨w.heap.size + 1, 2, none⟩ (.int .i64 0))) := H1.out.put 0 0 0
    clear H1 hT
    go_wp2
    refine bodyPost_ret (res_tri_tmp rfl rfl H3.out) rfl ?_
    exact ⟨rfl, H4.out.cfg.bel⟩
  rw [ht] at K2
  have K2' : Hid (∀ W, Calls Tryz.prog 78 #[.int .i64 t] W fun e w' => e = .returned (.bool true) ∧ w' = W) := K2
  have K3 : Hid (∀ W, Calls Tryz.prog 79 #[.agg (cfC c)] W fun e w' => e = .returned (.int .i64 (rndN c)) ∧ Below W.heap.size W w') := fun W => round_ok W c
  obtain ⟨R, q, m, k, o, hR, y0, y1, e1, e2, e3, y2, y3, e4, e5, e6, g1, g2, g3, g4, g5⟩ := place_sums ho ht
  have hv : placeV c t = if q < 1048576 then .tuple #[.agg #[.int .i64 q, .int .i64 k, .int .i64 o], .int .i64 0] else .tuple #[.agg #[.int .i64 0, .int .i64 0, .int .i64 0], .int .i64 1] := by
    unfold placeV
    rw [g1, g2, g3]
    simp [placeB, ho, ht, g1]
  rw [hv]
  rw [hR] at K3
  clear hv ho ht K2 g1 g2 g3 g4 g5 hR
  by_cases hq : q < 1048576
  · rw [if_pos hq]
    go_enter Tryz.func60, Tryz.ntmps60
    go_wp2_with (first | (refine wpList_gload_run rfl 23 _ rfl _ _ rfl HL.out ?_) | fail)
    refine K1.mono ?_
    rintro e w1 ⟨rfl, hb⟩
    have H1 : Hid (Cfr w w.heap.size c w1) := H0.out.step hb
    clear K1 HL H0 hb
    go_wp2_with fail
    refine (K2'.out _).mono ?_
    rintro e w2 ⟨rfl, rfl⟩
    clear K2'
    go_upto_region 3 with fail
    generalize hg : w.heap.size = g at *
    have HG : Hid (w.heap.size = g) := hg
    clear hg
    go_region_held3 (fun V => (V.cell? ⟨g, 0, none⟩ = some (.int .i64 c.n) ∧ V.cell? ⟨g, 1, none⟩ = some (.int .i64 c.f) ∧ V.cell? ⟨g, 2, none⟩ = some (.int .i64 c.s) ∧ V.cell? ⟨g, 3, none⟩ = some (.int .i64 c.d) ∧ V.cell? ⟨g, 4, none⟩ = some (.int .i64 c.k) ∧ V.cell? ⟨g, 5, none⟩ = some (.int .i64 c.e) ∧ V.cell? ⟨g, 6, none⟩ = some (.int .i64 c.v) ∧ V.cell? ⟨g, 7, none⟩ = some (.int .i64 c.r) ∧ V.cell? ⟨g, 8, none⟩ = some (.int .i64 c.l) ∧ V.cell? ⟨g, 9, none⟩ = some (.int .i64 c.p)) ∧ Cfr w g c V)
      (first | exact H1.out.held | assumption | exact (Cfr.drew (And.right (by assumption))).held | exact H1.out.drew.held)
      (first | (go_at_call 79; refine (K3.out _).mono ?_; rintro e w2 ⟨rfl, hb⟩; replace hb := (Cfr.step (And.right (by assumption)) hb).held))
    rename_i hh
    have H2 : Hid (Cfr w g c w2) := hh.2
    clear hh hb H1
    go_upto_region 6 with fail
    go_region_held3 (fun V => (V.cell? ⟨g, 0, none⟩ = some (.int .i64 c.n) ∧ V.cell? ⟨g, 1, none⟩ = some (.int .i64 c.f) ∧ V.cell? ⟨g, 2, none⟩ = some (.int .i64 c.s) ∧ V.cell? ⟨g, 3, none⟩ = some (.int .i64 c.d) ∧ V.cell? ⟨g, 4, none⟩ = some (.int .i64 c.k) ∧ V.cell? ⟨g, 5, none⟩ = some (.int .i64 c.e) ∧ V.cell? ⟨g, 6, none⟩ = some (.int .i64 c.v) ∧ V.cell? ⟨g, 7, none⟩ = some (.int .i64 c.r) ∧ V.cell? ⟨g, 8, none⟩ = some (.int .i64 c.l) ∧ V.cell? ⟨g, 9, none⟩ = some (.int .i64 c.p)) ∧ Cfr w g c V)
      (first | exact H2.out.held | assumption | exact H2.out.drew.held | exact (H3.out.put q k o).held)
      (first | (go_at_call 79; refine (K3.out _).mono ?_; rintro e w3 ⟨rfl, hb⟩; have H3 : Hid (Cfr w g c w3) := Cfr.step (And.right (by assumption)) hb; obtain ⟨x, y, z, hT⟩ := H3.out.room; obtain ⟨t0, t1, t2, f0, f1, f2⟩ := hT.facts; have HT : Hid (Tri w3 (g + 1) x y z) := hT; clear hb; replace hb := H3.out.held))
    rename_i hh
    have H4 : Hid (Cfr w g c _) := hh.2
    have H5 : Hid (Tri _ (g + 1) q k o) := HT.out.set q k o
    go_wp2
    refine bodyPost_ret (res_tri_tmp rfl rfl H5.out) rfl ?_
    exact ⟨rfl, HG.out ▸ H4.out.cfg.bel⟩
  · rw [if_neg hq]
    go_enter Tryz.func60, Tryz.ntmps60
    go_wp2_with (first | (refine wpList_gload_run rfl 23 _ rfl _ _ rfl HL.out ?_) | fail)
    refine K1.mono ?_
    rintro e w1 ⟨rfl, hb⟩
    have H1 : Hid (Cfr w w.heap.size c w1) := H0.out.step hb
    clear K1 HL H0 hb
    go_wp2_with fail
    refine (K2'.out _).mono ?_
    rintro e w2 ⟨rfl, rfl⟩
    clear K2'
    go_upto_region 3 with fail
    generalize hg : w.heap.size = g at *
    have HG : Hid (w.heap.size = g) := hg
    clear hg
    go_region_held3 (fun V => (V.cell? ⟨g, 0, none⟩ = some (.int .i64 c.n) ∧ V.cell? ⟨g, 1, none⟩ = some (.int .i64 c.f) ∧ V.cell? ⟨g, 2, none⟩ = some (.int .i64 c.s) ∧ V.cell? ⟨g, 3, none⟩ = some (.int .i64 c.d) ∧ V.cell? ⟨g, 4, none⟩ = some (.int .i64 c.k) ∧ V.cell? ⟨g, 5, none⟩ = some (.int .i64 c.e) ∧ V.cell? ⟨g, 6, none⟩ = some (.int .i64 c.v) ∧ V.cell? ⟨g, 7, none⟩ = some (.int .i64 c.r) ∧ V.cell? ⟨g, 8, none⟩ = some (.int .i64 c.l) ∧ V.cell? ⟨g, 9, none⟩ = some (.int .i64 c.p)) ∧ Cfr w g c V)
      (first | exact H1.out.held | assumption | exact (Cfr.drew (And.right (by assumption))).held | exact H1.out.drew.held)
      (first | (go_at_call 79; refine (K3.out _).mono ?_; rintro e w2 ⟨rfl, hb⟩; replace hb := (Cfr.step (And.right (by assumption)) hb).held))
    rename_i hh
    have H2 : Hid (Cfr w g c w2) := hh.2
    obtain ⟨x, y, z, hT⟩ := hh.2.room
    obtain ⟨t0, t1, t2, f0, f1, f2⟩ := hT.facts
    have H3 : Hid (Tri (((w2.setCell ⟨g + 1, 0, none⟩ (.int .i64 0)).setCell ⟨g + 1, 1, none⟩ (.int .i64 0)).setCell ⟨g + 1, 2, none⟩ (.int .i64 0)) (g + 1) 0 0 0) := hT.set 0 0 0
    have H4 : Hid (Cfr w g c (((w2.setCell ⟨g + 1, 0, none⟩ (.int .i64 0)).setCell ⟨g + 1, 1, none⟩ (.int .i64 0)).setCell ⟨g + 1, 2, none⟩ (.int .i64 0))) := H2.out.put 0 0 0
    clear hh hb H1 H2 hT
    go_wp2
    refine bodyPost_ret (res_tri_tmp rfl rfl H3.out) rfl ?_
    exact ⟨rfl, HG.out ▸ H4.out.cfg.bel⟩
end Go.Proofs.YtgncdnejmobjbaaGreatDoor
