/-
  The contract of Check.
-/
import Derived.Test.YtoibndfiolipbaaSchedB
namespace Go.Proofs.Ytoibndfiolipbaa
open Go.ChangeShapes Go.WideShapes Go.ChangeAt Go.RowKit

/-- The config lies in block g, which is new since w. -/
structure Cfg (w : World) (g : Nat) (c : Cf) (W : World) : Prop where
  own : CfAt W g c
  le : w.heap.size ≤ g
  bel : Below w.heap.size w W
theorem Cfg.new (w : World) (c : Cf) : Cfg w w.heap.size c (w.alloc (.cells (cfC c) 23)) := ⟨CfAt.new w c, Nat.le_refl _, Go.Joins.below_alloc1 _ _⟩
theorem Cfg.drew {w W : World} {g : Nat} {c : Cf} (h : Cfg w g c W) : Cfg w g c W.drew := ⟨h.own, h.le, h.bel.drew⟩
theorem Cfg.step {w W V : World} {g : Nat} {c : Cf} (h : Cfg w g c W) (hb : Below W.heap.size W V) : Cfg w g c V := ⟨h.own.below hb, h.le, h.bel.trans (hb.mono h.bel.size)⟩
/-- What a region that draws holds of memory: the config's cells. -/
theorem Cfg.held {w W : World} {g : Nat} {c : Cf} (h : Cfg w g c W) : (W.cell? ⟨g, 0, none⟩ = some (.int .i64 c.n) ∧ W.cell? ⟨g, 1, none⟩ = some (.int .i64 c.f) ∧ W.cell? ⟨g, 2, none⟩ = some (.int .i64 c.s) ∧ W.cell? ⟨g, 3, none⟩ = some (.int .i64 c.d) ∧ W.cell? ⟨g, 4, none⟩ = some (.int .i64 c.k) ∧ W.cell? ⟨g, 5, none⟩ = some (.int .i64 c.e) ∧ W.cell? ⟨g, 6, none⟩ = some (.int .i64 c.v) ∧ W.cell? ⟨g, 7, none⟩ = some (.int .i64 c.r) ∧ W.cell? ⟨g, 8, none⟩ = some (.int .i64 c.l) ∧ W.cell? ⟨g, 9, none⟩ = some (.int .i64 c.p)) ∧ Cfg w g c W :=
  ⟨⟨h.own.c0, h.own.c1, h.own.c2, h.own.c3, h.own.c4, h.own.c5, h.own.c6, h.own.c7, h.own.c8, h.own.c9⟩, h⟩

set_option maxHeartbeats 1600000 in
set_option maxRecDepth 20000 in
theorem check_ok (w : World) (c : Cf) : Calls Try.prog 27 #[.agg (cfC c)] w fun e w' => e = .returned (.int .i64 (if okB c = true then 0 else 1)) ∧ Below w.heap.size w w' := by
  have K1 : Hid (∀ W, Calls Try.prog 44 #[.agg (cfC c)] W fun e w' => e = .returned (.agg (cfC (bNodes c))) ∧ Below W.heap.size W w') := fun W => bnodes_ok W c
  have n1 : ∀ W, (binOp .neq 23 (.agg #[.int .i64 c.n, .int .i64 c.f, .int .i64 c.s, .int .i64 c.d, .int .i64 c.k, .int .i64 c.e, .int .i64 c.v, .int .i64 c.r, .int .i64 c.l, .int .i64 c.p]) (.agg (cfC (bNodes c)))).run Try.prog W = .ok (.bool (!nodesB c)) W := fun W => by rw [← same_nodes]; exact neqCf c (bNodes c) W
  have K2 : Hid (∀ W, Calls Try.prog 45 #[.agg (cfC c)] W fun e w' => e = .returned (.agg (cfC (bSlots c))) ∧ Below W.heap.size W w') := fun W => bslots_ok W c
  have n2 : ∀ W, (binOp .neq 23 (.agg #[.int .i64 c.n, .int .i64 c.f, .int .i64 c.s, .int .i64 c.d, .int .i64 c.k, .int .i64 c.e, .int .i64 c.v, .int .i64 c.r, .int .i64 c.l, .int .i64 c.p]) (.agg (cfC (bSlots c)))).run Try.prog W = .ok (.bool (!slotsB c)) W := fun W => by rw [← same_slots]; exact neqCf c (bSlots c) W
  have K3 : Hid (∀ W, Calls Try.prog 46 #[.agg (cfC c)] W fun e w' => e = .returned (.agg (cfC (bKeys c))) ∧ Below W.heap.size W w') := fun W => bkeys_ok W c
  have n3 : ∀ W, (binOp .neq 23 (.agg #[.int .i64 c.n, .int .i64 c.f, .int .i64 c.s, .int .i64 c.d, .int .i64 c.k, .int .i64 c.e, .int .i64 c.v, .int .i64 c.r, .int .i64 c.l, .int .i64 c.p]) (.agg (cfC (bKeys c)))).run Try.prog W = .ok (.bool (!keysB c)) W := fun W => by rw [← same_keys]; exact neqCf c (bKeys c) W
  have K4 : Hid (∀ W, Calls Try.prog 47 #[.agg (cfC c)] W fun e w' => e = .returned (.agg (cfC (bClocks c))) ∧ Below W.heap.size W w') := fun W => bclocks_ok W c
  have n4 : ∀ W, (binOp .neq 23 (.agg #[.int .i64 c.n, .int .i64 c.f, .int .i64 c.s, .int .i64 c.d, .int .i64 c.k, .int .i64 c.e, .int .i64 c.v, .int .i64 c.r, .int .i64 c.l, .int .i64 c.p]) (.agg (cfC (bClocks c)))).run Try.prog W = .ok (.bool (!clocksB c)) W := fun W => by rw [← same_clocks]; exact neqCf c (bClocks c) W
  have H0 : Hid (Cfg w w.heap.size c (w.alloc (.cells (cfC c) 23))) := Cfg.new w c
  unfold okB
  generalize nodesB c = b1 at *
  generalize bNodes c = c1 at *
  generalize slotsB c = b2 at *
  generalize bSlots c = c2 at *
  generalize keysB c = b3 at *
  generalize bKeys c = c3 at *
  generalize clocksB c = b4 at *
  generalize bClocks c = c4 at *
  go_enter Try.func27, Try.ntmps27
  go_upto_region 1 with fail
  generalize hg : w.heap.size = g at *
  generalize w.alloc (.cells (cfC c) 23) = W at *
  have HG : Hid (w.heap.size = g) := hg
  clear hg
  go_region_held3 (fun V => (V.cell? ⟨g, 0, none⟩ = some (.int .i64 c.n) ∧ V.cell? ⟨g, 1, none⟩ = some (.int .i64 c.f) ∧ V.cell? ⟨g, 2, none⟩ = some (.int .i64 c.s) ∧ V.cell? ⟨g, 3, none⟩ = some (.int .i64 c.d) ∧ V.cell? ⟨g, 4, none⟩ = some (.int .i64 c.k) ∧ V.cell? ⟨g, 5, none⟩ = some (.int .i64 c.e) ∧ V.cell? ⟨g, 6, none⟩ = some (.int .i64 c.v) ∧ V.cell? ⟨g, 7, none⟩ = some (.int .i64 c.r) ∧ V.cell? ⟨g, 8, none⟩ = some (.int .i64 c.l) ∧ V.cell? ⟨g, 9, none⟩ = some (.int .i64 c.p)) ∧ Cfg w g c V)
      (first | exact H0.out.held | assumption | exact (Cfg.drew (And.right (by assumption))).held | exact H0.out.drew.held)
      (first | (go_at_call 44; refine (K1.out _).mono ?_; rintro e w1 ⟨rfl, hb⟩; replace hb := (Cfg.step (And.right (by assumption)) hb).held))
  rename_i hh1
  have H1 : Hid (Cfg w g c w1) := hh1.2
  clear hh1 hb H0 K1 n1
  cases b1
  case false =>
    go_wp2
    go_ret
    exact ⟨by simp, HG.out ▸ H1.out.bel⟩
  go_upto_region 2 with fail
  go_region_held3 (fun V => (V.cell? ⟨g, 0, none⟩ = some (.int .i64 c.n) ∧ V.cell? ⟨g, 1, none⟩ = some (.int .i64 c.f) ∧ V.cell? ⟨g, 2, none⟩ = some (.int .i64 c.s) ∧ V.cell? ⟨g, 3, none⟩ = some (.int .i64 c.d) ∧ V.cell? ⟨g, 4, none⟩ = some (.int .i64 c.k) ∧ V.cell? ⟨g, 5, none⟩ = some (.int .i64 c.e) ∧ V.cell? ⟨g, 6, none⟩ = some (.int .i64 c.v) ∧ V.cell? ⟨g, 7, none⟩ = some (.int .i64 c.r) ∧ V.cell? ⟨g, 8, none⟩ = some (.int .i64 c.l) ∧ V.cell? ⟨g, 9, none⟩ = some (.int .i64 c.p)) ∧ Cfg w g c V)
      (first | exact H1.out.held | assumption | exact (Cfg.drew (And.right (by assumption))).held | exact H1.out.drew.held)
      (first | (go_at_call 45; refine (K2.out _).mono ?_; rintro e w2 ⟨rfl, hb⟩; replace hb := (Cfg.step (And.right (by assumption)) hb).held))
  rename_i hh2
  have H2 : Hid (Cfg w g c w2) := hh2.2
  clear hh2 hb H1 K2 n2
  cases b2
  case false =>
    go_wp2
    go_ret
    exact ⟨by simp, HG.out ▸ H2.out.bel⟩
  go_upto_region 3 with fail
  go_region_held3 (fun V => (V.cell? ⟨g, 0, none⟩ = some (.int .i64 c.n) ∧ V.cell? ⟨g, 1, none⟩ = some (.int .i64 c.f) ∧ V.cell? ⟨g, 2, none⟩ = some (.int .i64 c.s) ∧ V.cell? ⟨g, 3, none⟩ = some (.int .i64 c.d) ∧ V.cell? ⟨g, 4, none⟩ = some (.int .i64 c.k) ∧ V.cell? ⟨g, 5, none⟩ = some (.int .i64 c.e) ∧ V.cell? ⟨g, 6, none⟩ = some (.int .i64 c.v) ∧ V.cell? ⟨g, 7, none⟩ = some (.int .i64 c.r) ∧ V.cell? ⟨g, 8, none⟩ = some (.int .i64 c.l) ∧ V.cell? ⟨g, 9, none⟩ = some (.int .i64 c.p)) ∧ Cfg w g c V)
      (first | exact H2.out.held | assumption | exact (Cfg.drew (And.right (by assumption))).held | exact H2.out.drew.held)
      (first | (go_at_call 46; refine (K3.out _).mono ?_; rintro e w3 ⟨rfl, hb⟩; replace hb := (Cfg.step (And.right (by assumption)) hb).held))
  rename_i hh3
  have H3 : Hid (Cfg w g c w3) := hh3.2
  clear hh3 hb H2 K3 n3
  cases b3
  case false =>
    go_wp2
    go_ret
    exact ⟨by simp, HG.out ▸ H3.out.bel⟩
  go_upto_region 4 with fail
  go_region_held3 (fun V => (V.cell? ⟨g, 0, none⟩ = some (.int .i64 c.n) ∧ V.cell? ⟨g, 1, none⟩ = some (.int .i64 c.f) ∧ V.cell? ⟨g, 2, none⟩ = some (.int .i64 c.s) ∧ V.cell? ⟨g, 3, none⟩ = some (.int .i64 c.d) ∧ V.cell? ⟨g, 4, none⟩ = some (.int .i64 c.k) ∧ V.cell? ⟨g, 5, none⟩ = some (.int .i64 c.e) ∧ V.cell? ⟨g, 6, none⟩ = some (.int .i64 c.v) ∧ V.cell? ⟨g, 7, none⟩ = some (.int .i64 c.r) ∧ V.cell? ⟨g, 8, none⟩ = some (.int .i64 c.l) ∧ V.cell? ⟨g, 9, none⟩ = some (.int .i64 c.p)) ∧ Cfg w g c V)
      (first | exact H3.out.held | assumption | exact (Cfg.drew (And.right (by assumption))).held | exact H3.out.drew.held)
      (first | (go_at_call 47; refine (K4.out _).mono ?_; rintro e w4 ⟨rfl, hb⟩; replace hb := (Cfg.step (And.right (by assumption)) hb).held))
  rename_i hh4
  have H4 : Hid (Cfg w g c w4) := hh4.2
  clear hh4 hb H3 K4 n4
  cases b4
  case false =>
    go_wp2
    go_ret
    exact ⟨by simp, HG.out ▸ H4.out.bel⟩
  go_wp2
  go_ret
  exact ⟨by simp, HG.out ▸ H4.out.bel⟩
end Go.Proofs.Ytoibndfiolipbaa
