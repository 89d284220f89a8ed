/-
  The contracts of within, boundNodes, boundSlots, boundKeys, boundClocks and Check.
-/
import Derived.Test.YtoibndfiolipbaaSchedA
import Derived.Deep.Cut
namespace Go.Proofs.Ytoibndfiolipbaa
open Go.ChangeShapes Go.WideShapes Go.ChangeAt Go.RowKit

set_option maxHeartbeats 800000 in
set_option maxRecDepth 20000 in
theorem within_ok (w : World) (n l m : Int) : Calls Try.prog 58 #[.int .i64 n, .int .i64 l, .int .i64 m] w fun e w' => e = .returned (.int .i64 (wiN n l m)) ∧ w' = w := by
  have c1 : (if n < l then l else n) = smxN n l := rfl
  have c2 : (if m < smxN n l then m else smxN n l) = wiN n l m := rfl
  generalize wiN n l m = q at *
  generalize smxN n l = u at *
  go_enter Try.func58, Try.ntmps58
  go_wp2
  go_ret
  exact ⟨rfl, rfl⟩

/-- The config and the answer's room, laid at entry. -/
theorem laid2 (w : World) (c : Cf) : CfAt ((w.alloc (.cells (cfC c) 23)).alloc (.cells (cfC Cf.zero) 23)) w.heap.size c ∧ CfAt ((w.alloc (.cells (cfC c) 23)).alloc (.cells (cfC Cf.zero) 23)) (w.heap.size + 1) Cf.zero ∧
    Below w.heap.size w ((w.alloc (.cells (cfC c) 23)).alloc (.cells (cfC Cf.zero) 23)) :=
  ⟨(CfAt.new w c).alloc _, by simpa using CfAt.new (w.alloc (.cells (cfC c) 23)) Cf.zero, Go.Joins.below_alloc2 _ _ _⟩
/-- A number of the config at g put; what lies at g + 1 stays. -/
structure Mid (w W : World) (g : Nat) (c : Cf) : Prop where
  own : CfAt W g c
  room : CfAt W (g + 1) Cf.zero
  le : w.heap.size ≤ g
  bel : Below w.heap.size w W
theorem Mid.put {w W : World} {g : Nat} {c b : Cf} (h : Mid w W g c) (i : Nat) (u : Value) (hl : (cfL c).set i u = cfL b) : Mid w (W.setCell ⟨g, i, none⟩ u) g b :=
  ⟨h.own.put i u hl, h.room.keep (heap_setCell_other _ _ _ _ (by simp)), h.le, h.bel.setCell (p := ⟨g, i, none⟩) h.le u⟩
theorem Mid.out {w W : World} {g : Nat} {c : Cf} (h : Mid w W g c) : CfAt (W.setRow (g + 1) (cfC c)) (g + 1) c ∧ Below w.heap.size w (W.setRow (g + 1) (cfC c)) :=
  ⟨h.room.stored c, below_setRow h.bel (by have := h.le; omega) _⟩

set_option maxHeartbeats 1600000 in
set_option maxRecDepth 20000 in
theorem bnodes_ok (w : World) (c : Cf) : Calls Try.prog 44 #[.agg (cfC c)] w fun e w' => e = .returned (.agg (cfC (bNodes c))) ∧ Below w.heap.size w w' := by
  obtain ⟨a1, a2, a3⟩ := laid2 w c
  have H0 : Mid w ((w.alloc (.cells (cfC c) 23)).alloc (.cells (cfC Cf.zero) 23)) w.heap.size c := ⟨a1, a2, Nat.le_refl _, a3⟩
  have hq := wi_in (n := c.n) (l := 1) (m := 8) (by omega)
  obtain ⟨q0, eq0⟩ : ∃ q, q = wiN c.n 1 8 := ⟨_, rfl⟩
  rw [← eq0] at hq
  obtain ⟨u, eu⟩ : ∃ u, u = (q0 - 1).tdiv 3 := ⟨_, rfl⟩
  have hu : 0 ≤ u ∧ u ≤ 2 := by rw [eu, Int.tdiv_eq_ediv_of_nonneg (by omega)]; omega
  have e1 : IntKind.i64.wrap (q0 - 1) = q0 - 1 := by rw [IntKind.wrap_i64]; omega
  have e2 : IntKind.i64.wrap u = u := by rw [IntKind.wrap_i64]; omega
  have e3 : (q0 - 1).tdiv 3 = u := eu.symm
  clear hq hu
  obtain ⟨q1, eq1⟩ : ∃ q, q = wiN c.f 0 u := ⟨_, rfl⟩
  have eb : bNodes c = { c with n := q0, f := q1 } := by rw [bNodes, ← eq0, ← eu, ← eq1]
  rw [eb]
  obtain ⟨W0, hW0⟩ : ∃ W, W = (w.alloc (.cells (cfC c) 23)).alloc (.cells (cfC Cf.zero) 23) := ⟨_, rfl⟩
  rw [← hW0] at H0
  have k0 := within_ok W0 c.n 1 8
  rw [← eq0] at k0
  have H1 := H0.put (b := { c with n := q0 }) 0 (.int .i64 q0) rfl
  obtain ⟨W1, hW1⟩ : ∃ W, W = W0.setCell ⟨w.heap.size, 0, none⟩ (.int .i64 q0) := ⟨_, rfl⟩
  rw [← hW1] at H1
  have k1 := within_ok W1 c.f 0 u
  rw [← eq1] at k1
  have H2 := H1.put (b := { c with n := q0, f := q1 }) 1 (.int .i64 q1) rfl
  obtain ⟨W2, hW2⟩ : ∃ W, W = W1.setCell ⟨w.heap.size, 1, none⟩ (.int .i64 q1) := ⟨_, rfl⟩
  rw [← hW2] at H2
  have HL : Hid ((Instr.loadAt 23 (.pointer (some ⟨w.heap.size, 0, none⟩))).run Try.prog W2 = .ok (.agg (cfC { c with n := q0, f := q1 })) W2) := H2.own.loads
  have HS : Hid ((Instr.storeAt 23 (.pointer (some ⟨w.heap.size + 1, 0, none⟩)) (.agg (cfC { c with n := q0, f := q1 }))).run Try.prog W2 = .ok () (W2.setRow (w.heap.size + 1) (cfC { c with n := q0, f := q1 }))) := H2.room.stores _
  have HE : Hid (CfAt (W2.setRow (w.heap.size + 1) (cfC { c with n := q0, f := q1 })) (w.heap.size + 1) { c with n := q0, f := q1 } ∧ Below w.heap.size w (W2.setRow (w.heap.size + 1) (cfC { c with n := q0, f := q1 }))) := H2.out
  have p0x0 := H0.own.c0
  have z0 := H0.own.fz 0
  have p1x1 := H1.own.c1
  have p1x0 := H1.own.c0
  have z1 := H1.own.fz 1
  have HW0 : Hid ((w.alloc (.cells (cfC c) 23)).alloc (.cells #[.int .i64 0, .int .i64 0, .int .i64 0, .int .i64 0, .int .i64 0, .int .i64 0, .int .i64 0, .int .i64 0, .int .i64 0, .int .i64 0] 23) = W0) := hW0.symm
  have HW1 : Hid (W0.setCell ⟨w.heap.size, 0, none⟩ (.int .i64 q0) = W1) := hW1.symm
  have HW2 : Hid (W1.setCell ⟨w.heap.size, 1, none⟩ (.int .i64 q1) = W2) := hW2.symm
  clear a1 a2 a3 eb eu H0 hW0 H1 hW1 H2 hW2 eq0 eq1
  go_enter Try.func44, Try.ntmps44
  go_upto_region 1 with fail
  rw [HW0.out]
  clear HW0
  go_wp2_with fail
  refine k0.mono ?_
  rintro e w1 ⟨rfl, rfl⟩
  clear k0
  go_upto_region 2 with fail
  rw [HW1.out]
  clear HW1 z0 p0x0
  go_wp2_with fail
  refine k1.mono ?_
  rintro e w1 ⟨rfl, rfl⟩
  clear k1
  go_upto_region 3 with fail
  rw [HW2.out]
  clear HW2 z1 p1x1 p1x0
  go_wp2_with (first | (refine wpList_load_run rfl 23 _ rfl _ _ rfl HL.out ?_) | (refine wpList_store_run rfl 23 _ _ rfl _ _ rfl rfl HS.out ?_) | fail)
  refine bodyPost_ret (res_cf rfl rfl HE.out.1) rfl ?_
  exact ⟨rfl, HE.out.2⟩

set_option maxHeartbeats 1600000 in
set_option maxRecDepth 20000 in
theorem bslots_ok (w : World) (c : Cf) : Calls Try.prog 45 #[.agg (cfC c)] w fun e w' => e = .returned (.agg (cfC (bSlots c))) ∧ Below w.heap.size w w' := by
  obtain ⟨a1, a2, a3⟩ := laid2 w c
  have H0 : Mid w ((w.alloc (.cells (cfC c) 23)).alloc (.cells (cfC Cf.zero) 23)) w.heap.size c := ⟨a1, a2, Nat.le_refl _, a3⟩
  have hq := wi_in (n := c.s) (l := 300) (m := 10000) (by omega)
  obtain ⟨q0, eq0⟩ : ∃ q, q = wiN c.s 300 10000 := ⟨_, rfl⟩
  rw [← eq0] at hq
  obtain ⟨u, eu⟩ : ∃ u, u = 4 * q0 := ⟨_, rfl⟩
  have e1 : IntKind.i64.wrap (4 * q0) = u := by rw [IntKind.wrap_i64]; omega
  clear hq
  obtain ⟨q1, eq1⟩ : ∃ q, q = wiN c.e 1 u := ⟨_, rfl⟩
  obtain ⟨q2, eq2⟩ : ∃ q, q = wiN c.v 100 u := ⟨_, rfl⟩
  have eb : bSlots c = { c with s := q0, e := q1, v := q2 } := by rw [bSlots, ← eq0, ← eu, ← eq1, ← eq2]
  rw [eb]
  obtain ⟨W0, hW0⟩ : ∃ W, W = (w.alloc (.cells (cfC c) 23)).alloc (.cells (cfC Cf.zero) 23) := ⟨_, rfl⟩
  rw [← hW0] at H0
  have k0 := within_ok W0 c.s 300 10000
  rw [← eq0] at k0
  have H1 := H0.put (b := { c with s := q0 }) 2 (.int .i64 q0) rfl
  obtain ⟨W1, hW1⟩ : ∃ W, W = W0.setCell ⟨w.heap.size, 2, none⟩ (.int .i64 q0) := ⟨_, rfl⟩
  rw [← hW1] at H1
  have k1 := within_ok W1 c.e 1 u
  rw [← eq1] at k1
  have H2 := H1.put (b := { c with s := q0, e := q1 }) 5 (.int .i64 q1) rfl
  obtain ⟨W2, hW2⟩ : ∃ W, W = W1.setCell ⟨w.heap.size, 5, none⟩ (.int .i64 q1) := ⟨_, rfl⟩
  rw [← hW2] at H2
  have k2 := within_ok W2 c.v 100 u
  rw [← eq2] at k2
  have H3 := H2.put (b := { c with s := q0, e := q1, v := q2 }) 6 (.int .i64 q2) rfl
  obtain ⟨W3, hW3⟩ : ∃ W, W = W2.setCell ⟨w.heap.size, 6, none⟩ (.int .i64 q2) := ⟨_, rfl⟩
  rw [← hW3] at H3
  have HL : Hid ((Instr.loadAt 23 (.pointer (some ⟨w.heap.size, 0, none⟩))).run Try.prog W3 = .ok (.agg (cfC { c with s := q0, e := q1, v := q2 })) W3) := H3.own.loads
  have HS : Hid ((Instr.storeAt 23 (.pointer (some ⟨w.heap.size + 1, 0, none⟩)) (.agg (cfC { c with s := q0, e := q1, v := q2 }))).run Try.prog W3 = .ok () (W3.setRow (w.heap.size + 1) (cfC { c with s := q0, e := q1, v := q2 }))) := H3.room.stores _
  have HE : Hid (CfAt (W3.setRow (w.heap.size + 1) (cfC { c with s := q0, e := q1, v := q2 })) (w.heap.size + 1) { c with s := q0, e := q1, v := q2 } ∧ Below w.heap.size w (W3.setRow (w.heap.size + 1) (cfC { c with s := q0, e := q1, v := q2 }))) := H3.out
  have p0x2 := H0.own.c2
  have z0 := H0.own.fz 2
  have p1x5 := H1.own.c5
  have p1x2 := H1.own.c2
  have z1 := H1.own.fz 5
  have p2x6 := H2.own.c6
  have p2x2 := H2.own.c2
  have z2 := H2.own.fz 6
  have HW0 : Hid ((w.alloc (.cells (cfC c) 23)).alloc (.cells #[.int .i64 0, .int .i64 0, .int .i64 0, .int .i64 0, .int .i64 0, .int .i64 0, .int .i64 0, .int .i64 0, .int .i64 0, .int .i64 0] 23) = W0) := hW0.symm
  have HW1 : Hid (W0.setCell ⟨w.heap.size, 2, none⟩ (.int .i64 q0) = W1) := hW1.symm
  have HW2 : Hid (W1.setCell ⟨w.heap.size, 5, none⟩ (.int .i64 q1) = W2) := hW2.symm
  have HW3 : Hid (W2.setCell ⟨w.heap.size, 6, none⟩ (.int .i64 q2) = W3) := hW3.symm
  clear a1 a2 a3 eb eu H0 hW0 H1 hW1 H2 hW2 H3 hW3 eq0 eq1 eq2
  go_enter Try.func45, Try.ntmps45
  go_upto_region 1 with fail
  rw [HW0.out]
  clear HW0
  go_wp2_with fail
  refine k0.mono ?_
  rintro e w1 ⟨rfl, rfl⟩
  clear k0
  go_upto_region 2 with fail
  rw [HW1.out]
  clear HW1 z0 p0x2
  go_wp2_with fail
  refine k1.mono ?_
  rintro e w1 ⟨rfl, rfl⟩
  clear k1
  go_upto_region 3 with fail
  rw [HW2.out]
  clear HW2 z1 p1x5 p1x2
  go_wp2_with fail
  refine k2.mono ?_
  rintro e w1 ⟨rfl, rfl⟩
  clear k2
  go_upto_region 4 with fail
  rw [HW3.out]
  clear HW3 z2 p2x6 p2x2
  go_wp2_with (first | (refine wpList_load_run rfl 23 _ rfl _ _ rfl HL.out ?_) | (refine wpList_store_run rfl 23 _ _ rfl _ _ rfl rfl HS.out ?_) | fail)
  refine bodyPost_ret (res_cf rfl rfl HE.out.1) rfl ?_
  exact ⟨rfl, HE.out.2⟩

set_option maxHeartbeats 1600000 in
set_option maxRecDepth 20000 in
theorem bkeys_ok (w : World) (c : Cf) : Calls Try.prog 46 #[.agg (cfC c)] w fun e w' => e = .returned (.agg (cfC (bKeys c))) ∧ Below w.heap.size w w' := by
  obtain ⟨a1, a2, a3⟩ := laid2 w c
  have H0 : Mid w ((w.alloc (.cells (cfC c) 23)).alloc (.cells (cfC Cf.zero) 23)) w.heap.size c := ⟨a1, a2, Nat.le_refl _, a3⟩
  have hq := wi_in (n := c.d) (l := 1) (m := 4) (by omega)
  obtain ⟨q0, eq0⟩ : ∃ q, q = wiN c.d 1 4 := ⟨_, rfl⟩
  rw [← eq0] at hq
  obtain ⟨u, eu⟩ : ∃ u, u = q0 + 4 := ⟨_, rfl⟩
  have e1 : IntKind.i64.wrap (q0 + 4) = u := by rw [IntKind.wrap_i64]; omega
  clear hq
  obtain ⟨q1, eq1⟩ : ∃ q, q = wiN c.k u 256 := ⟨_, rfl⟩
  obtain ⟨q2, eq2⟩ : ∃ q, q = wiN c.p 1 64 := ⟨_, rfl⟩
  have eb : bKeys c = { c with d := q0, k := q1, p := q2 } := by rw [bKeys, ← eq0, ← eu, ← eq1, ← eq2]
  rw [eb]
  obtain ⟨W0, hW0⟩ : ∃ W, W = (w.alloc (.cells (cfC c) 23)).alloc (.cells (cfC Cf.zero) 23) := ⟨_, rfl⟩
  rw [← hW0] at H0
  have k0 := within_ok W0 c.d 1 4
  rw [← eq0] at k0
  have H1 := H0.put (b := { c with d := q0 }) 3 (.int .i64 q0) rfl
  obtain ⟨W1, hW1⟩ : ∃ W, W = W0.setCell ⟨w.heap.size, 3, none⟩ (.int .i64 q0) := ⟨_, rfl⟩
  rw [← hW1] at H1
  have k1 := within_ok W1 c.k u 256
  rw [← eq1] at k1
  have H2 := H1.put (b := { c with d := q0, k := q1 }) 4 (.int .i64 q1) rfl
  obtain ⟨W2, hW2⟩ : ∃ W, W = W1.setCell ⟨w.heap.size, 4, none⟩ (.int .i64 q1) := ⟨_, rfl⟩
  rw [← hW2] at H2
  have k2 := within_ok W2 c.p 1 64
  rw [← eq2] at k2
  have H3 := H2.put (b := { c with d := q0, k := q1, p := q2 }) 9 (.int .i64 q2) rfl
  obtain ⟨W3, hW3⟩ : ∃ W, W = W2.setCell ⟨w.heap.size, 9, none⟩ (.int .i64 q2) := ⟨_, rfl⟩
  rw [← hW3] at H3
  have HL : Hid ((Instr.loadAt 23 (.pointer (some ⟨w.heap.size, 0, none⟩))).run Try.prog W3 = .ok (.agg (cfC { c with d := q0, k := q1, p := q2 })) W3) := H3.own.loads
  have HS : Hid ((Instr.storeAt 23 (.pointer (some ⟨w.heap.size + 1, 0, none⟩)) (.agg (cfC { c with d := q0, k := q1, p := q2 }))).run Try.prog W3 = .ok () (W3.setRow (w.heap.size + 1) (cfC { c with d := q0, k := q1, p := q2 }))) := H3.room.stores _
  have HE : Hid (CfAt (W3.setRow (w.heap.size + 1) (cfC { c with d := q0, k := q1, p := q2 })) (w.heap.size + 1) { c with d := q0, k := q1, p := q2 } ∧ Below w.heap.size w (W3.setRow (w.heap.size + 1) (cfC { c with d := q0, k := q1, p := q2 }))) := H3.out
  have p0x3 := H0.own.c3
  have z0 := H0.own.fz 3
  have p1x4 := H1.own.c4
  have p1x3 := H1.own.c3
  have z1 := H1.own.fz 4
  have p2x9 := H2.own.c9
  have z2 := H2.own.fz 9
  have HW0 : Hid ((w.alloc (.cells (cfC c) 23)).alloc (.cells #[.int .i64 0, .int .i64 0, .int .i64 0, .int .i64 0, .int .i64 0, .int .i64 0, .int .i64 0, .int .i64 0, .int .i64 0, .int .i64 0] 23) = W0) := hW0.symm
  have HW1 : Hid (W0.setCell ⟨w.heap.size, 3, none⟩ (.int .i64 q0) = W1) := hW1.symm
  have HW2 : Hid (W1.setCell ⟨w.heap.size, 4, none⟩ (.int .i64 q1) = W2) := hW2.symm
  have HW3 : Hid (W2.setCell ⟨w.heap.size, 9, none⟩ (.int .i64 q2) = W3) := hW3.symm
  clear a1 a2 a3 eb eu H0 hW0 H1 hW1 H2 hW2 H3 hW3 eq0 eq1 eq2
  go_enter Try.func46, Try.ntmps46
  go_upto_region 1 with fail
  rw [HW0.out]
  clear HW0
  go_wp2_with fail
  refine k0.mono ?_
  rintro e w1 ⟨rfl, rfl⟩
  clear k0
  go_upto_region 2 with fail
  rw [HW1.out]
  clear HW1 z0 p0x3
  go_wp2_with fail
  refine k1.mono ?_
  rintro e w1 ⟨rfl, rfl⟩
  clear k1
  go_upto_region 3 with fail
  rw [HW2.out]
  clear HW2 z1 p1x4 p1x3
  go_wp2_with fail
  refine k2.mono ?_
  rintro e w1 ⟨rfl, rfl⟩
  clear k2
  go_upto_region 4 with fail
  rw [HW3.out]
  clear HW3 z2 p2x9
  go_wp2_with (first | (refine wpList_load_run rfl 23 _ rfl _ _ rfl HL.out ?_) | (refine wpList_store_run rfl 23 _ _ rfl _ _ rfl rfl HS.out ?_) | fail)
  refine bodyPost_ret (res_cf rfl rfl HE.out.1) rfl ?_
  exact ⟨rfl, HE.out.2⟩

set_option maxHeartbeats 1600000 in
set_option maxRecDepth 20000 in
theorem bclocks_ok (w : World) (c : Cf) : Calls Try.prog 47 #[.agg (cfC c)] w fun e w' => e = .returned (.agg (cfC (bClocks c))) ∧ Below w.heap.size w w' := by
  obtain ⟨a1, a2, a3⟩ := laid2 w c
  have H0 : Mid w ((w.alloc (.cells (cfC c) 23)).alloc (.cells (cfC Cf.zero) 23)) w.heap.size c := ⟨a1, a2, Nat.le_refl _, a3⟩
  obtain ⟨q0, eq0⟩ : ∃ q, q = wiN c.r 0 5 := ⟨_, rfl⟩
  obtain ⟨q1, eq1⟩ : ∃ q, q = wiN c.l 0 5 := ⟨_, rfl⟩
  have eb : bClocks c = { c with r := q0, l := q1 } := by rw [bClocks, ← eq0, ← eq1]
  rw [eb]
  obtain ⟨W0, hW0⟩ : ∃ W, W = (w.alloc (.cells (cfC c) 23)).alloc (.cells (cfC Cf.zero) 23) := ⟨_, rfl⟩
  rw [← hW0] at H0
  have k0 := within_ok W0 c.r 0 5
  rw [← eq0] at k0
  have H1 := H0.put (b := { c with r := q0 }) 7 (.int .i64 q0) rfl
  obtain ⟨W1, hW1⟩ : ∃ W, W = W0.setCell ⟨w.heap.size, 7, none⟩ (.int .i64 q0) := ⟨_, rfl⟩
  rw [← hW1] at H1
  have k1 := within_ok W1 c.l 0 5
  rw [← eq1] at k1
  have H2 := H1.put (b := { c with r := q0, l := q1 }) 8 (.int .i64 q1) rfl
  obtain ⟨W2, hW2⟩ : ∃ W, W = W1.setCell ⟨w.heap.size, 8, none⟩ (.int .i64 q1) := ⟨_, rfl⟩
  rw [← hW2] at H2
  have HL : Hid ((Instr.loadAt 23 (.pointer (some ⟨w.heap.size, 0, none⟩))).run Try.prog W2 = .ok (.agg (cfC { c with r := q0, l := q1 })) W2) := H2.own.loads
  have HS : Hid ((Instr.storeAt 23 (.pointer (some ⟨w.heap.size + 1, 0, none⟩)) (.agg (cfC { c with r := q0, l := q1 }))).run Try.prog W2 = .ok () (W2.setRow (w.heap.size + 1) (cfC { c with r := q0, l := q1 }))) := H2.room.stores _
  have HE : Hid (CfAt (W2.setRow (w.heap.size + 1) (cfC { c with r := q0, l := q1 })) (w.heap.size + 1) { c with r := q0, l := q1 } ∧ Below w.heap.size w (W2.setRow (w.heap.size + 1) (cfC { c with r := q0, l := q1 }))) := H2.out
  have p0x7 := H0.own.c7
  have z0 := H0.own.fz 7
  have p1x8 := H1.own.c8
  have z1 := H1.own.fz 8
  have HW0 : Hid ((w.alloc (.cells (cfC c) 23)).alloc (.cells #[.int .i64 0, .int .i64 0, .int .i64 0, .int .i64 0, .int .i64 0, .int .i64 0, .int .i64 0, .int .i64 0, .int .i64 0, .int .i64 0] 23) = W0) := hW0.symm
  have HW1 : Hid (W0.setCell ⟨w.heap.size, 7, none⟩ (.int .i64 q0) = W1) := hW1.symm
  have HW2 : Hid (W1.setCell ⟨w.heap.size, 8, none⟩ (.int .i64 q1) = W2) := hW2.symm
  clear a1 a2 a3 eb H0 hW0 H1 hW1 H2 hW2 eq0 eq1
  go_enter Try.func47, Try.ntmps47
  go_upto_region 1 with fail
  rw [HW0.out]
  clear HW0
  go_wp2_with fail
  refine k0.mono ?_
  rintro e w1 ⟨rfl, rfl⟩
  clear k0
  go_upto_region 2 with fail
  rw [HW1.out]
  clear HW1 z0 p0x7
  go_wp2_with fail
  refine k1.mono ?_
  rintro e w1 ⟨rfl, rfl⟩
  clear k1
  go_upto_region 3 with fail
  rw [HW2.out]
  clear HW2 z1 p1x8
  go_wp2_with (first | (refine wpList_load_run rfl 23 _ rfl _ _ rfl HL.out ?_) | (refine wpList_store_run rfl 23 _ _ rfl _ _ rfl rfl HS.out ?_) | fail)
  refine bodyPost_ret (res_cf rfl rfl HE.out.1) rfl ?_
  exact ⟨rfl, HE.out.2⟩
end Go.Proofs.Ytoibndfiolipbaa
