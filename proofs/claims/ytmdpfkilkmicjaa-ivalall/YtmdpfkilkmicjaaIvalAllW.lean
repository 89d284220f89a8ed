/-
  The walk of IvalAll, out of the contracts.
-/
import Derived.Test.YtmdpfkilkmicjaaIvalMakesW
namespace Go.Proofs.Ytmdpfkilkmicjaa
open Go.ChangeShapes Go.WideShapes Go.ChangeAt Go.RowKit

/-- What a region that draws holds of memory: one box, and what lies below. -/
def One (w : World) (a b : Int) (W : World) : Prop :=
  (W.cell? ⟨w.heap.size, 0, none⟩ = some (.int .i64 a) ∧ W.cell? ⟨w.heap.size, 1, none⟩ = some (.int .i64 b)) ∧ Pair W w.heap.size a b ∧ Below w.heap.size w W
theorem One.mk' {w W : World} {a b : Int} (h1 : Pair W w.heap.size a b) (h3 : Below w.heap.size w W) : One w a b W := ⟨⟨h1.c0, h1.c1⟩, h1, h3⟩
theorem One.below {w W W' : World} {a b : Int} (h : One w a b W) (hb : Below W.heap.size W W') : One w a b W' := One.mk' (h.2.1.below hb) (h.2.2.trans (hb.mono h.2.2.size))
theorem One.drew {w W : World} {a b : Int} (h : One w a b W) : One w a b W.drew := One.mk' h.2.1 h.2.2.drew


set_option maxHeartbeats 3200000 in
set_option maxRecDepth 20000 in

theorem all_walk (a b c d n t k : Int) (w : World) (hn : n ≤ 9223372036854775807) : Calls Try.prog 3 #[.agg #[.int .i64 a, .int .i64 b], .agg #[.int .i64 c, .int .i64 d], .int .i64 n, .int .i64 t, .int .i64 k] w fun e w' => e = .returned (.bool true) ∧ Below w.heap.size w w' := by
  have K1 : Hid (∀ W, Calls Try.prog 9 #[.agg #[.int .i64 a, .int .i64 b], .agg #[.int .i64 c, .int .i64 d]] W fun e w' => e = .returned (meetV a b c d) ∧ Below W.heap.size W w') := fun W => meets_ok W a b c d
  have K2 : Hid (∀ W, Calls Try.prog 10 #[.agg #[.int .i64 a, .int .i64 b], .agg #[.int .i64 c, .int .i64 d]] W fun e w' => e = .returned (meetV a b c d) ∧ Below W.heap.size W w') := fun W => refmeets_ok W a b c d
  have K3 : Hid (∀ W, Calls Try.prog 11 #[.agg #[.int .i64 a, .int .i64 b], .agg #[.int .i64 c, .int .i64 d]] W fun e w' => e = .returned (hullV a b c d) ∧ Below W.heap.size W w') := fun W => hull_ok W a b c d
  have K4 : Hid (∀ W, Calls Try.prog 12 #[.agg #[.int .i64 a, .int .i64 b], .agg #[.int .i64 c, .int .i64 d]] W fun e w' => e = .returned (hullV a b c d) ∧ Below W.heap.size W w') := fun W => refhull_ok W a b c d
  have K5 : Hid (∀ W, Calls Try.prog 13 #[.agg #[.int .i64 a, .int .i64 b], .int .i64 n] W fun e w' => e = .returned (shiftV a b n) ∧ Below W.heap.size W w') := fun W => shift_ok W a b n
  have K6 : Hid (∀ W, Calls Try.prog 14 #[.agg #[.int .i64 a, .int .i64 b], .int .i64 n] W fun e w' => e = .returned (shiftV a b n) ∧ Below W.heap.size W w') := fun W => refshift_ok W a b n
  have K7 : Hid (∀ W, Calls Try.prog 15 #[.agg #[.int .i64 a, .int .i64 b], .int .i64 t, .int .i64 k] W fun e w' => e = .returned (growV a b t k) ∧ Below W.heap.size W w') := fun W => grow_ok W a b t k
  have K8 : Hid (∀ W, Calls Try.prog 16 #[.agg #[.int .i64 a, .int .i64 b], .int .i64 t, .int .i64 k] W fun e w' => e = .returned (growV a b t k) ∧ Below W.heap.size W w') := fun W => refgrow_ok W a b t k
  have K9 : Hid (∀ W, Calls Try.prog 17 #[.agg #[.int .i64 a, .int .i64 b]] W fun e w' => e = .returned (middleV a b) ∧ Below W.heap.size W w') := fun W => middle_ok W a b
  have K10 : Hid (∀ W, Calls Try.prog 18 #[.agg #[.int .i64 a, .int .i64 b]] W fun e w' => e = .returned (middleV a b) ∧ Below W.heap.size W w') := fun W => refmiddle_ok W a b
  have L1 : Hid (∀ W, Calls Try.prog 19 #[.agg #[.int .i64 a, .int .i64 b]] W fun e w' => e = .returned (.bool (rightB a b)) ∧ Below W.heap.size W w') := fun W => isright_ok W a b
  have L2 : Hid (∀ W, Calls Try.prog 20 #[.agg #[.int .i64 a, .int .i64 b]] W fun e w' => e = .returned (.bool (rightB a b)) ∧ Below W.heap.size W w') := fun W => refright_ok W a b
  have L3 : Hid (∀ W, Calls Try.prog 21 #[.agg #[.int .i64 a, .int .i64 b], .int .i64 n] W fun e w' => e = .returned (.bool (holdsB a b n)) ∧ Below W.heap.size W w') := fun W => holds_ok W a b n
  have L4 : Hid (∀ W, Calls Try.prog 22 #[.agg #[.int .i64 a, .int .i64 b], .int .i64 n] W fun e w' => e = .returned (.bool (holdsB a b n)) ∧ Below W.heap.size W w') := fun W => refholds_ok W a b n
  have L5 : Hid (∀ W, Calls Try.prog 23 #[.agg #[.int .i64 a, .int .i64 b], .int .i64 n] W fun e w' => e = .returned (.bool (insideB a b n)) ∧ Below W.heap.size W w') := fun W => inside_ok W a b n hn
  have L6 : Hid (∀ W, Calls Try.prog 24 #[.agg #[.int .i64 a, .int .i64 b], .int .i64 n] W fun e w' => e = .returned (.bool (insideB a b n)) ∧ Below W.heap.size W w') := fun W => refinside_ok W a b n hn
  have L7 : Hid (∀ W, Calls Try.prog 25 #[] W fun e w' => e = .returned (.bool true) ∧ Below W.heap.size W w') := fun W => awake_ok W
  obtain ⟨x0, y0, r0, hv0⟩ := meetV_told a b c d
  rw [hv0] at K1 K2
  have N0 := neqSame x0 y0
  clear hv0
  obtain ⟨x1, y1, r1, hv1⟩ := hullV_told a b c d
  rw [hv1] at K3 K4
  have N1 := neqSame x1 y1
  clear hv1
  obtain ⟨x2, y2, r2, hv2⟩ := shiftV_told a b n
  rw [hv2] at K5 K6
  have N2 := neqSame x2 y2
  clear hv2
  obtain ⟨x3, y3, r3, hv3⟩ := growV_told a b t k
  rw [hv3] at K7 K8
  have N3 := neqSame x3 y3
  clear hv3
  obtain ⟨x4, r4, hv4⟩ := middleV_told a b
  rw [hv4] at K9 K10
  clear hv4
  generalize rightB a b = u1 at *
  generalize holdsB a b n = u2 at *
  generalize insideB a b n = u3 at *
  have HA : Hid (Pair ((w.alloc (.cells #[.int .i64 a, .int .i64 b] 23)).alloc (.cells #[.int .i64 c, .int .i64 d] 23)) (w.heap.size) a b ∧ Pair ((w.alloc (.cells #[.int .i64 a, .int .i64 b] 23)).alloc (.cells #[.int .i64 c, .int .i64 d] 23)) (w.heap.size + 1) c d) := by
    refine ⟨(Pair.new w a b).alloc _, ?_⟩
    have := Pair.new (w.alloc (.cells #[.int .i64 a, .int .i64 b] 23)) c d
    simpa using this
  have bel := Go.Joins.below_alloc2 w (.cells #[.int .i64 a, .int .i64 b] 23) (.cells #[.int .i64 c, .int .i64 d] 23)
  go_enter Try.func3, Try.ntmps3
  go_wp2_with fail
  refine (K1.out _).mono ?_
  rintro e w1 ⟨rfl, hb⟩
  clear K1
  have G0 : Hid (Pair w1 w.heap.size a b ∧ Pair w1 (w.heap.size + 1) c d) := ⟨(HA.out.1).below hb, (HA.out.2).below hb⟩
  have bel0 := bel.trans (hb.mono bel.size)
  clear bel hb HA
  have bel := bel0
  clear bel0
  have J0 : Hid (Pair (w1.alloc (.cells #[.int .i64 x0, .int .i64 y0] 23)) w.heap.size a b ∧ Pair (w1.alloc (.cells #[.int .i64 x0, .int .i64 y0] 23)) (w.heap.size + 1) c d ∧ Pair (w1.alloc (.cells #[.int .i64 x0, .int .i64 y0] 23)) w1.heap.size x0 y0) := ⟨(G0.out.1).alloc _, (G0.out.2).alloc _, Pair.new w1 x0 y0⟩
  have bel0 := bel.alloc bel.size (.cells #[.int .i64 x0, .int .i64 y0] 23)
  obtain ⟨f0_0, f0_1, _, _⟩ := (G0.out.1).facts
  obtain ⟨f1_0, f1_1, _, _⟩ := (G0.out.2).facts
  have lt0 : w.heap.size < w1.heap.size ∧ w.heap.size + 1 < w1.heap.size := ⟨(G0.out.1).lt, (G0.out.2).lt⟩
  obtain ⟨l0, m0⟩ := lt0
  clear bel G0
  have bel := bel0
  clear bel0
  have f2_0 := True.intro
  have f2_1 := True.intro
  go_wp2_with fail
  refine (K2.out _).mono ?_
  rintro e w2 ⟨rfl, hb⟩
  clear K2
  clear f0_0 f0_1 f1_0 f1_1 f2_0 f2_1
  have G1 : Hid (Pair w2 w.heap.size a b ∧ Pair w2 (w.heap.size + 1) c d ∧ Pair w2 w1.heap.size x0 y0) := ⟨(J0.out.1).below hb, (J0.out.2.1).below hb, (J0.out.2.2).below hb⟩
  have bel1 := bel.trans (hb.mono bel.size)
  clear bel hb J0
  have bel := bel1
  clear bel1
  have J1 : Hid (Pair (w2.alloc (.cells #[.int .i64 x0, .int .i64 y0] 23)) w.heap.size a b ∧ Pair (w2.alloc (.cells #[.int .i64 x0, .int .i64 y0] 23)) (w.heap.size + 1) c d ∧ Pair (w2.alloc (.cells #[.int .i64 x0, .int .i64 y0] 23)) w1.heap.size x0 y0 ∧ Pair (w2.alloc (.cells #[.int .i64 x0, .int .i64 y0] 23)) w2.heap.size x0 y0) := ⟨(G1.out.1).alloc _, (G1.out.2.1).alloc _, (G1.out.2.2).alloc _, Pair.new w2 x0 y0⟩
  have bel1 := bel.alloc bel.size (.cells #[.int .i64 x0, .int .i64 y0] 23)
  obtain ⟨f0_0, f0_1, _, _⟩ := (G1.out.1).facts
  obtain ⟨f1_0, f1_1, _, _⟩ := (G1.out.2.1).facts
  obtain ⟨f2_0, f2_1, _, _⟩ := (G1.out.2.2).facts
  have lt1 : w.heap.size < w2.heap.size ∧ w.heap.size + 1 < w2.heap.size := ⟨(G1.out.1).lt, (G1.out.2.1).lt⟩
  obtain ⟨l1, m1⟩ := lt1
  clear bel G1
  have bel := bel1
  clear bel1
  have f3_0 := True.intro
  have f3_1 := True.intro
  go_wp2_with fail
  refine (K3.out _).mono ?_
  rintro e w3 ⟨rfl, hb⟩
  clear K3
  clear f0_0 f0_1 f1_0 f1_1 f2_0 f2_1 f3_0 f3_1
  have G2 : Hid (Pair w3 w.heap.size a b ∧ Pair w3 (w.heap.size + 1) c d ∧ Pair w3 w1.heap.size x0 y0 ∧ Pair w3 w2.heap.size x0 y0) := ⟨(J1.out.1).below hb, (J1.out.2.1).below hb, (J1.out.2.2.1).below hb, (J1.out.2.2.2).below hb⟩
  have bel2 := bel.trans (hb.mono bel.size)
  clear bel hb J1
  have bel := bel2
  clear bel2
  have J2 : Hid (Pair (w3.alloc (.cells #[.int .i64 x1, .int .i64 y1] 23)) w.heap.size a b ∧ Pair (w3.alloc (.cells #[.int .i64 x1, .int .i64 y1] 23)) (w.heap.size + 1) c d ∧ Pair (w3.alloc (.cells #[.int .i64 x1, .int .i64 y1] 23)) w1.heap.size x0 y0 ∧ Pair (w3.alloc (.cells #[.int .i64 x1, .int .i64 y1] 23)) w2.heap.size x0 y0 ∧ Pair (w3.alloc (.cells #[.int .i64 x1, .int .i64 y1] 23)) w3.heap.size x1 y1) := ⟨(G2.out.1).alloc _, (G2.out.2.1).alloc _, (G2.out.2.2.1).alloc _, (G2.out.2.2.2).alloc _, Pair.new w3 x1 y1⟩
  have bel2 := bel.alloc bel.size (.cells #[.int .i64 x1, .int .i64 y1] 23)
  obtain ⟨f0_0, f0_1, _, _⟩ := (G2.out.1).facts
  obtain ⟨f1_0, f1_1, _, _⟩ := (G2.out.2.1).facts
  obtain ⟨f2_0, f2_1, _, _⟩ := (G2.out.2.2.1).facts
  obtain ⟨f3_0, f3_1, _, _⟩ := (G2.out.2.2.2).facts
  have lt2 : w.heap.size < w3.heap.size ∧ w.heap.size + 1 < w3.heap.size := ⟨(G2.out.1).lt, (G2.out.2.1).lt⟩
  obtain ⟨l2, m2⟩ := lt2
  clear bel G2
  have bel := bel2
  clear bel2
  have f4_0 := True.intro
  have f4_1 := True.intro
  go_wp2_with fail
  refine (K4.out _).mono ?_
  rintro e w4 ⟨rfl, hb⟩
  clear K4
  clear f0_0 f0_1 f1_0 f1_1 f2_0 f2_1 f3_0 f3_1 f4_0 f4_1
  have G3 : Hid (Pair w4 w.heap.size a b ∧ Pair w4 (w.heap.size + 1) c d ∧ Pair w4 w1.heap.size x0 y0 ∧ Pair w4 w2.heap.size x0 y0 ∧ Pair w4 w3.heap.size x1 y1) := ⟨(J2.out.1).below hb, (J2.out.2.1).below hb, (J2.out.2.2.1).below hb, (J2.out.2.2.2.1).below hb, (J2.out.2.2.2.2).below hb⟩
  have bel3 := bel.trans (hb.mono bel.size)
  clear bel hb J2
  have bel := bel3
  clear bel3
  have J3 : Hid (Pair (w4.alloc (.cells #[.int .i64 x1, .int .i64 y1] 23)) w.heap.size a b ∧ Pair (w4.alloc (.cells #[.int .i64 x1, .int .i64 y1] 23)) (w.heap.size + 1) c d ∧ Pair (w4.alloc (.cells #[.int .i64 x1, .int .i64 y1] 23)) w1.heap.size x0 y0 ∧ Pair (w4.alloc (.cells #[.int .i64 x1, .int .i64 y1] 23)) w2.heap.size x0 y0 ∧ Pair (w4.alloc (.cells #[.int .i64 x1, .int .i64 y1] 23)) w3.heap.size x1 y1 ∧ Pair (w4.alloc (.cells #[.int .i64 x1, .int .i64 y1] 23)) w4.heap.size x1 y1) := ⟨(G3.out.1).alloc _, (G3.out.2.1).alloc _, (G3.out.2.2.1).alloc _, (G3.out.2.2.2.1).alloc _, (G3.out.2.2.2.2).alloc _, Pair.new w4 x1 y1⟩
  have bel3 := bel.alloc bel.size (.cells #[.int .i64 x1, .int .i64 y1] 23)
  obtain ⟨f0_0, f0_1, _, _⟩ := (G3.out.1).facts
  obtain ⟨f1_0, f1_1, _, _⟩ := (G3.out.2.1).facts
  obtain ⟨f2_0, f2_1, _, _⟩ := (G3.out.2.2.1).facts
  obtain ⟨f3_0, f3_1, _, _⟩ := (G3.out.2.2.2.1).facts
  obtain ⟨f4_0, f4_1, _, _⟩ := (G3.out.2.2.2.2).facts
  have lt3 : w.heap.size < w4.heap.size ∧ w.heap.size + 1 < w4.heap.size := ⟨(G3.out.1).lt, (G3.out.2.1).lt⟩
  obtain ⟨l3, m3⟩ := lt3
  clear bel G3
  have bel := bel3
  clear bel3
  have f5_0 := True.intro
  have f5_1 := True.intro
  go_wp2_with fail
  refine (K5.out _).mono ?_
  rintro e w5 ⟨rfl, hb⟩
  clear K5
  clear f0_0 f0_1 f1_0 f1_1 f2_0 f2_1 f3_0 f3_1 f4_0 f4_1 f5_0 f5_1
  have G4 : Hid (Pair w5 w.heap.size a b ∧ Pair w5 (w.heap.size + 1) c d ∧ Pair w5 w1.heap.size x0 y0 ∧ Pair w5 w2.heap.size x0 y0 ∧ Pair w5 w3.heap.size x1 y1 ∧ Pair w5 w4.heap.size x1 y1) := ⟨(J3.out.1).below hb, (J3.out.2.1).below hb, (J3.out.2.2.1).below hb, (J3.out.2.2.2.1).below hb, (J3.out.2.2.2.2.1).below hb, (J3.out.2.2.2.2.2).below hb⟩
  have bel4 := bel.trans (hb.mono bel.size)
  clear bel hb J3
  have bel := bel4
  clear bel4
  have J4 : Hid (Pair (w5.alloc (.cells #[.int .i64 x2, .int .i64 y2] 23)) w.heap.size a b ∧ Pair (w5.alloc (.cells #[.int .i64 x2, .int .i64 y2] 23)) (w.heap.size + 1) c d ∧ Pair (w5.alloc (.cells #[.int .i64 x2, .int .i64 y2] 23)) w1.heap.size x0 y0 ∧ Pair (w5.alloc (.cells #[.int .i64 x2, .int .i64 y2] 23)) w2.heap.size x0 y0 ∧ Pair (w5.alloc (.cells #[.int .i64 x2, .int .i64 y2] 23)) w3.heap.size x1 y1 ∧ Pair (w5.alloc (.cells #[.int .i64 x2, .int .i64 y2] 23)) w4.heap.size x1 y1 ∧ Pair (w5.alloc (.cells #[.int .i64 x2, .int .i64 y2] 23)) w5.heap.size x2 y2) := ⟨(G4.out.1).alloc _, (G4.out.2.1).alloc _, (G4.out.2.2.1).alloc _, (G4.out.2.2.2.1).alloc _, (G4.out.2.2.2.2.1).alloc _, (G4.out.2.2.2.2.2).alloc _, Pair.new w5 x2 y2⟩
  have bel4 := bel.alloc bel.size (.cells #[.int .i64 x2, .int .i64 y2] 23)
  obtain ⟨f0_0, f0_1, _, _⟩ := (G4.out.1).facts
  obtain ⟨f1_0, f1_1, _, _⟩ := (G4.out.2.1).facts
  obtain ⟨f2_0, f2_1, _, _⟩ := (G4.out.2.2.1).facts
  obtain ⟨f3_0, f3_1, _, _⟩ := (G4.out.2.2.2.1).facts
  obtain ⟨f4_0, f4_1, _, _⟩ := (G4.out.2.2.2.2.1).facts
  obtain ⟨f5_0, f5_1, _, _⟩ := (G4.out.2.2.2.2.2).facts
  have lt4 : w.heap.size < w5.heap.size ∧ w.heap.size + 1 < w5.heap.size := ⟨(G4.out.1).lt, (G4.out.2.1).lt⟩
  obtain ⟨l4, m4⟩ := lt4
  clear bel G4
  have bel := bel4
  clear bel4
  have f6_0 := True.intro
  have f6_1 := True.intro
  go_wp2_with fail
  refine (K6.out _).mono ?_
  rintro e w6 ⟨rfl, hb⟩
  clear K6
  clear f0_0 f0_1 f1_0 f1_1 f2_0 f2_1 f3_0 f3_1 f4_0 f4_1 f5_0 f5_1 f6_0 f6_1
  have G5 : Hid (Pair w6 w.heap.size a b ∧ Pair w6 (w.heap.size + 1) c d ∧ Pair w6 w1.heap.size x0 y0 ∧ Pair w6 w2.heap.size x0 y0 ∧ Pair w6 w3.heap.size x1 y1 ∧ Pair w6 w4.heap.size x1 y1 ∧ Pair w6 w5.heap.size x2 y2) := ⟨(J4.out.1).below hb, (J4.out.2.1).below hb, (J4.out.2.2.1).below hb, (J4.out.2.2.2.1).below hb, (J4.out.2.2.2.2.1).below hb, (J4.out.2.2.2.2.2.1).below hb, (J4.out.2.2.2.2.2.2).below hb⟩
  have bel5 := bel.trans (hb.mono bel.size)
  clear bel hb J4
  have bel := bel5
  clear bel5
  have J5 : Hid (Pair (w6.alloc (.cells #[.int .i64 x2, .int .i64 y2] 23)) w.heap.size a b ∧ Pair (w6.alloc (.cells #[.int .i64 x2, .int .i64 y2] 23)) (w.heap.size + 1) c d ∧ Pair (w6.alloc (.cells #[.int .i64 x2, .int .i64 y2] 23)) w1.heap.size x0 y0 ∧ Pair (w6.alloc (.cells #[.int .i64 x2, .int .i64 y2] 23)) w2.heap.size x0 y0 ∧ Pair (w6.alloc (.cells #[.int .i64 x2, .int .i64 y2] 23)) w3.heap.size x1 y1 ∧ Pair (w6.alloc (.cells #[.int .i64 x2, .int .i64 y2] 23)) w4.heap.size x1 y1 ∧ Pair (w6.alloc (.cells #[.int .i64 x2, .int .i64 y2] 23)) w5.heap.size x2 y2 ∧ Pair (w6.alloc (.cells #[.int .i64 x2, .int .i64 y2] 23)) w6.heap.size x2 y2) := ⟨(G5.out.1).alloc _, (G5.out.2.1).alloc _, (G5.out.2.2.1).alloc _, (G5.out.2.2.2.1).alloc _, (G5.out.2.2.2.2.1).alloc _, (G5.out.2.2.2.2.2.1).alloc _, (G5.out.2.2.2.2.2.2).alloc _, Pair.new w6 x2 y2⟩
  have bel5 := bel.alloc bel.size (.cells #[.int .i64 x2, .int .i64 y2] 23)
  obtain ⟨f0_0, f0_1, _, _⟩ := (G5.out.1).facts
  obtain ⟨f1_0, f1_1, _, _⟩ := (G5.out.2.1).facts
  obtain ⟨f2_0, f2_1, _, _⟩ := (G5.out.2.2.1).facts
  obtain ⟨f3_0, f3_1, _, _⟩ := (G5.out.2.2.2.1).facts
  obtain ⟨f4_0, f4_1, _, _⟩ := (G5.out.2.2.2.2.1).facts
  obtain ⟨f5_0, f5_1, _, _⟩ := (G5.out.2.2.2.2.2.1).facts
  obtain ⟨f6_0, f6_1, _, _⟩ := (G5.out.2.2.2.2.2.2).facts
  have lt5 : w.heap.size < w6.heap.size ∧ w.heap.size + 1 < w6.heap.size := ⟨(G5.out.1).lt, (G5.out.2.1).lt⟩
  obtain ⟨l5, m5⟩ := lt5
  clear bel G5
  have bel := bel5
  clear bel5
  have f7_0 := True.intro
  have f7_1 := True.intro
  go_wp2_with fail
  refine (K7.out _).mono ?_
  rintro e w7 ⟨rfl, hb⟩
  clear K7
  clear f0_0 f0_1 f1_0 f1_1 f2_0 f2_1 f3_0 f3_1 f4_0 f4_1 f5_0 f5_1 f6_0 f6_1 f7_0 f7_1
  have G6 : Hid (Pair w7 w.heap.size a b ∧ Pair w7 (w.heap.size + 1) c d ∧ Pair w7 w1.heap.size x0 y0 ∧ Pair w7 w2.heap.size x0 y0 ∧ Pair w7 w3.heap.size x1 y1 ∧ Pair w7 w4.heap.size x1 y1 ∧ Pair w7 w5.heap.size x2 y2 ∧ Pair w7 w6.heap.size x2 y2) := ⟨(J5.out.1).below hb, (J5.out.2.1).below hb, (J5.out.2.2.1).below hb, (J5.out.2.2.2.1).below hb, (J5.out.2.2.2.2.1).below hb, (J5.out.2.2.2.2.2.1).below hb, (J5.out.2.2.2.2.2.2.1).below hb, (J5.out.2.2.2.2.2.2.2).below hb⟩
  have bel6 := bel.trans (hb.mono bel.size)
  clear bel hb J5
  have bel := bel6
  clear bel6
  have J6 : Hid (Pair (w7.alloc (.cells #[.int .i64 x3, .int .i64 y3] 23)) w.heap.size a b ∧ Pair (w7.alloc (.cells #[.int .i64 x3, .int .i64 y3] 23)) (w.heap.size + 1) c d ∧ Pair (w7.alloc (.cells #[.int .i64 x3, .int .i64 y3] 23)) w1.heap.size x0 y0 ∧ Pair (w7.alloc (.cells #[.int .i64 x3, .int .i64 y3] 23)) w2.heap.size x0 y0 ∧ Pair (w7.alloc (.cells #[.int .i64 x3, .int .i64 y3] 23)) w3.heap.size x1 y1 ∧ Pair (w7.alloc (.cells #[.int .i64 x3, .int .i64 y3] 23)) w4.heap.size x1 y1 ∧ Pair (w7.alloc (.cells #[.int .i64 x3, .int .i64 y3] 23)) w5.heap.size x2 y2 ∧ Pair (w7.alloc (.cells #[.int .i64 x3, .int .i64 y3] 23)) w6.heap.size x2 y2 ∧ Pair (w7.alloc (.cells #[.int .i64 x3, .int .i64 y3] 23)) w7.heap.size x3 y3) := ⟨(G6.out.1).alloc _, (G6.out.2.1).alloc _, (G6.out.2.2.1).alloc _, (G6.out.2.2.2.1).alloc _, (G6.out.2.2.2.2.1).alloc _, (G6.out.2.2.2.2.2.1).alloc _, (G6.out.2.2.2.2.2.2.1).alloc _, (G6.out.2.2.2.2.2.2.2).alloc _, Pair.new w7 x3 y3⟩
  have bel6 := bel.alloc bel.size (.cells #[.int .i64 x3, .int .i64 y3] 23)
  obtain ⟨f0_0, f0_1, _, _⟩ := (G6.out.1).facts
  obtain ⟨f1_0, f1_1, _, _⟩ := (G6.out.2.1).facts
  obtain ⟨f2_0, f2_1, _, _⟩ := (G6.out.2.2.1).facts
  obtain ⟨f3_0, f3_1, _, _⟩ := (G6.out.2.2.2.1).facts
  obtain ⟨f4_0, f4_1, _, _⟩ := (G6.out.2.2.2.2.1).facts
  obtain ⟨f5_0, f5_1, _, _⟩ := (G6.out.2.2.2.2.2.1).facts
  obtain ⟨f6_0, f6_1, _, _⟩ := (G6.out.2.2.2.2.2.2.1).facts
  obtain ⟨f7_0, f7_1, _, _⟩ := (G6.out.2.2.2.2.2.2.2).facts
  have lt6 : w.heap.size < w7.heap.size ∧ w.heap.size + 1 < w7.heap.size := ⟨(G6.out.1).lt, (G6.out.2.1).lt⟩
  obtain ⟨l6, m6⟩ := lt6
  clear bel G6
  have bel := bel6
  clear bel6
  have f8_0 := True.intro
  have f8_1 := True.intro
  go_wp2_with fail
  refine (K8.out _).mono ?_
  rintro e w8 ⟨rfl, hb⟩
  clear K8
  clear f0_0 f0_1 f1_0 f1_1 f2_0 f2_1 f3_0 f3_1 f4_0 f4_1 f5_0 f5_1 f6_0 f6_1 f7_0 f7_1 f8_0 f8_1
  have G7 : Hid (Pair w8 w.heap.size a b ∧ Pair w8 (w.heap.size + 1) c d ∧ Pair w8 w1.heap.size x0 y0 ∧ Pair w8 w2.heap.size x0 y0 ∧ Pair w8 w3.heap.size x1 y1 ∧ Pair w8 w4.heap.size x1 y1 ∧ Pair w8 w5.heap.size x2 y2 ∧ Pair w8 w6.heap.size x2 y2 ∧ Pair w8 w7.heap.size x3 y3) := ⟨(J6.out.1).below hb, (J6.out.2.1).below hb, (J6.out.2.2.1).below hb, (J6.out.2.2.2.1).below hb, (J6.out.2.2.2.2.1).below hb, (J6.out.2.2.2.2.2.1).below hb, (J6.out.2.2.2.2.2.2.1).below hb, (J6.out.2.2.2.2.2.2.2.1).below hb, (J6.out.2.2.2.2.2.2.2.2).below hb⟩
  have bel7 := bel.trans (hb.mono bel.size)
  clear bel hb J6
  have bel := bel7
  clear bel7
  have J7 : Hid (Pair (w8.alloc (.cells #[.int .i64 x3, .int .i64 y3] 23)) w.heap.size a b ∧ Pair (w8.alloc (.cells #[.int .i64 x3, .int .i64 y3] 23)) (w.heap.size + 1) c d ∧ Pair (w8.alloc (.cells #[.int .i64 x3, .int .i64 y3] 23)) w1.heap.size x0 y0 ∧ Pair (w8.alloc (.cells #[.int .i64 x3, .int .i64 y3] 23)) w2.heap.size x0 y0 ∧ Pair (w8.alloc (.cells #[.int .i64 x3, .int .i64 y3] 23)) w3.heap.size x1 y1 ∧ Pair (w8.alloc (.cells #[.int .i64 x3, .int .i64 y3] 23)) w4.heap.size x1 y1 ∧ Pair (w8.alloc (.cells #[.int .i64 x3, .int .i64 y3] 23)) w5.heap.size x2 y2 ∧ Pair (w8.alloc (.cells #[.int .i64 x3, .int .i64 y3] 23)) w6.heap.size x2 y2 ∧ Pair (w8.alloc (.cells #[.int .i64 x3, .int .i64 y3] 23)) w7.heap.size x3 y3 ∧ Pair (w8.alloc (.cells #[.int .i64 x3, .int .i64 y3] 23)) w8.heap.size x3 y3) := ⟨(G7.out.1).alloc _, (G7.out.2.1).alloc _, (G7.out.2.2.1).alloc _, (G7.out.2.2.2.1).alloc _, (G7.out.2.2.2.2.1).alloc _, (G7.out.2.2.2.2.2.1).alloc _, (G7.out.2.2.2.2.2.2.1).alloc _, (G7.out.2.2.2.2.2.2.2.1).alloc _, (G7.out.2.2.2.2.2.2.2.2).alloc _, Pair.new w8 x3 y3⟩
  have bel7 := bel.alloc bel.size (.cells #[.int .i64 x3, .int .i64 y3] 23)
  obtain ⟨f0_0, f0_1, _, _⟩ := (G7.out.1).facts
  obtain ⟨f1_0, f1_1, _, _⟩ := (G7.out.2.1).facts
  obtain ⟨f2_0, f2_1, _, _⟩ := (G7.out.2.2.1).facts
  obtain ⟨f3_0, f3_1, _, _⟩ := (G7.out.2.2.2.1).facts
  obtain ⟨f4_0, f4_1, _, _⟩ := (G7.out.2.2.2.2.1).facts
  obtain ⟨f5_0, f5_1, _, _⟩ := (G7.out.2.2.2.2.2.1).facts
  obtain ⟨f6_0, f6_1, _, _⟩ := (G7.out.2.2.2.2.2.2.1).facts
  obtain ⟨f7_0, f7_1, _, _⟩ := (G7.out.2.2.2.2.2.2.2.1).facts
  obtain ⟨f8_0, f8_1, _, _⟩ := (G7.out.2.2.2.2.2.2.2.2).facts
  have lt7 : w.heap.size < w8.heap.size ∧ w.heap.size + 1 < w8.heap.size := ⟨(G7.out.1).lt, (G7.out.2.1).lt⟩
  obtain ⟨l7, m7⟩ := lt7
  clear bel G7
  have bel := bel7
  clear bel7
  have f9_0 := True.intro
  have f9_1 := True.intro
  go_wp2_with fail
  refine (K9.out _).mono ?_
  rintro e w9 ⟨rfl, hb⟩
  clear K9
  clear f0_0 f0_1 f1_0 f1_1 f2_0 f2_1 f3_0 f3_1 f4_0 f4_1 f5_0 f5_1 f6_0 f6_1 f7_0 f7_1 f8_0 f8_1 f9_0 f9_1
  have G8 : Hid (Pair w9 w.heap.size a b ∧ Pair w9 (w.heap.size + 1) c d ∧ Pair w9 w1.heap.size x0 y0 ∧ Pair w9 w2.heap.size x0 y0 ∧ Pair w9 w3.heap.size x1 y1 ∧ Pair w9 w4.heap.size x1 y1 ∧ Pair w9 w5.heap.size x2 y2 ∧ Pair w9 w6.heap.size x2 y2 ∧ Pair w9 w7.heap.size x3 y3 ∧ Pair w9 w8.heap.size x3 y3) := ⟨(J7.out.1).below hb, (J7.out.2.1).below hb, (J7.out.2.2.1).below hb, (J7.out.2.2.2.1).below hb, (J7.out.2.2.2.2.1).below hb, (J7.out.2.2.2.2.2.1).below hb, (J7.out.2.2.2.2.2.2.1).below hb, (J7.out.2.2.2.2.2.2.2.1).below hb, (J7.out.2.2.2.2.2.2.2.2.1).below hb, (J7.out.2.2.2.2.2.2.2.2.2).below hb⟩
  have bel8 := bel.trans (hb.mono bel.size)
  clear bel hb J7
  have bel := bel8
  clear bel8
  obtain ⟨f0_0, f0_1, _, _⟩ := (G8.out.1).facts
  obtain ⟨f1_0, f1_1, _, _⟩ := (G8.out.2.1).facts
  obtain ⟨f2_0, f2_1, _, _⟩ := (G8.out.2.2.1).facts
  obtain ⟨f3_0, f3_1, _, _⟩ := (G8.out.2.2.2.1).facts
  obtain ⟨f4_0, f4_1, _, _⟩ := (G8.out.2.2.2.2.1).facts
  obtain ⟨f5_0, f5_1, _, _⟩ := (G8.out.2.2.2.2.2.1).facts
  obtain ⟨f6_0, f6_1, _, _⟩ := (G8.out.2.2.2.2.2.2.1).facts
  obtain ⟨f7_0, f7_1, _, _⟩ := (G8.out.2.2.2.2.2.2.2.1).facts
  obtain ⟨f8_0, f8_1, _, _⟩ := (G8.out.2.2.2.2.2.2.2.2.1).facts
  obtain ⟨f9_0, f9_1, _, _⟩ := (G8.out.2.2.2.2.2.2.2.2.2).facts
  go_wp2_with fail
  refine (K10.out _).mono ?_
  rintro e w10 ⟨rfl, hb⟩
  clear K10
  clear f0_0 f0_1 f1_0 f1_1 f2_0 f2_1 f3_0 f3_1 f4_0 f4_1 f5_0 f5_1 f6_0 f6_1 f7_0 f7_1 f8_0 f8_1 f9_0 f9_1
  have G9 : Hid (Pair w10 w.heap.size a b ∧ Pair w10 (w.heap.size + 1) c d ∧ Pair w10 w1.heap.size x0 y0 ∧ Pair w10 w2.heap.size x0 y0 ∧ Pair w10 w3.heap.size x1 y1 ∧ Pair w10 w4.heap.size x1 y1 ∧ Pair w10 w5.heap.size x2 y2 ∧ Pair w10 w6.heap.size x2 y2 ∧ Pair w10 w7.heap.size x3 y3 ∧ Pair w10 w8.heap.size x3 y3) := ⟨(G8.out.1).below hb, (G8.out.2.1).below hb, (G8.out.2.2.1).below hb, (G8.out.2.2.2.1).below hb, (G8.out.2.2.2.2.1).below hb, (G8.out.2.2.2.2.2.1).below hb, (G8.out.2.2.2.2.2.2.1).below hb, (G8.out.2.2.2.2.2.2.2.1).below hb, (G8.out.2.2.2.2.2.2.2.2.1).below hb, (G8.out.2.2.2.2.2.2.2.2.2).below hb⟩
  have bel9 := bel.trans (hb.mono bel.size)
  clear bel hb G8
  have bel := bel9
  clear bel9
  obtain ⟨f0_0, f0_1, _, _⟩ := (G9.out.1).facts
  obtain ⟨f1_0, f1_1, _, _⟩ := (G9.out.2.1).facts
  obtain ⟨f2_0, f2_1, _, _⟩ := (G9.out.2.2.1).facts
  obtain ⟨f3_0, f3_1, _, _⟩ := (G9.out.2.2.2.1).facts
  obtain ⟨f4_0, f4_1, _, _⟩ := (G9.out.2.2.2.2.1).facts
  obtain ⟨f5_0, f5_1, _, _⟩ := (G9.out.2.2.2.2.2.1).facts
  obtain ⟨f6_0, f6_1, _, _⟩ := (G9.out.2.2.2.2.2.2.1).facts
  obtain ⟨f7_0, f7_1, _, _⟩ := (G9.out.2.2.2.2.2.2.2.1).facts
  obtain ⟨f8_0, f8_1, _, _⟩ := (G9.out.2.2.2.2.2.2.2.2.1).facts
  obtain ⟨f9_0, f9_1, _, _⟩ := (G9.out.2.2.2.2.2.2.2.2.2).facts
  have H0 : Hid (One w a b w10) := One.mk' G9.out.1 bel
  clear bel
  go_wp2
  clear f0_0 f0_1 f1_0 f1_1 f2_0 f2_1 f3_0 f3_1 f4_0 f4_1 f5_0 f5_1 f6_0 f6_1 f7_0 f7_1 f8_0 f8_1 f9_0 f9_1 G9 N0 N1 N2 N3 hn
  go_region_held3 (fun W => (W.cell? ⟨w.heap.size, 0, none⟩ = some (.int .i64 a) ∧ W.cell? ⟨w.heap.size, 1, none⟩ = some (.int .i64 b)) ∧ Pair W w.heap.size a b ∧ Below w.heap.size w W)
      (first | exact H0.out | assumption | exact H0.out.drew | exact One.drew (by assumption) | exact One.below (by assumption) (by assumption))
      (first | (go_at_call 19; refine (L1.out _).mono ?_; rintro e w9 ⟨rfl, hb9⟩)
             | (go_at_call 20; refine (L2.out _).mono ?_; rintro e w9 ⟨rfl, hb9⟩)
             | (go_at_call 21; refine (L3.out _).mono ?_; rintro e w9 ⟨rfl, hb9⟩)
             | (go_at_call 22; refine (L4.out _).mono ?_; rintro e w9 ⟨rfl, hb9⟩)
             | (go_at_call 23; refine (L5.out _).mono ?_; rintro e w9 ⟨rfl, hb9⟩)
             | (go_at_call 24; refine (L6.out _).mono ?_; rintro e w9 ⟨rfl, hb9⟩)
             | (go_at_call 25; refine (L7.out _).mono ?_; rintro e w9 ⟨rfl, hb9⟩))
  all_goals
    go_wp2
    go_ret
    rename_i hh
    exact ⟨by first | rfl | simp, hh.2.2⟩
end Go.Proofs.Ytmdpfkilkmicjaa
