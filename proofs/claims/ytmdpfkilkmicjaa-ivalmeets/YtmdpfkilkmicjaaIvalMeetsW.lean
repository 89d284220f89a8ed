/-
  The walk of IvalMeets, out of the contracts.
-/
import Derived.Test.YtmdpfkilkmicjaaIvalMakesW
namespace Go.Proofs.Ytmdpfkilkmicjaa
open Go.ChangeShapes Go.WideShapes Go.ChangeAt Go.RowKit

theorem meet_holds {a b c d n : Int} (h1 : rightB a b = true) (h2 : rightB c d = true) (h3 : rightB (mxN a c) (mnN b d) = true) : holdsB (mxN a c) (mnN b d) n = (holdsB a b n && holdsB c d n) := by
  rw [holdsB_eq h1, holdsB_eq h2, holdsB_eq h3, ← Bool.decide_and]
  congr 1
  unfold mxN mnN
  split <;> split <;> (apply propext; constructor <;> (intro h; omega))
theorem meet_none {a b c d n : Int} (h1 : rightB a b = true) (h2 : rightB c d = true) (h3 : rightB (mxN a c) (mnN b d) = false) : (holdsB a b n && holdsB c d n) = false := by
  have g1 := rightB_true h1
  have g2 := rightB_true h2
  have g3 : ¬ (-1099511627776 ≤ mxN a c ∧ mxN a c ≤ mnN b d ∧ mnN b d ≤ 1099511627776) := of_decide_eq_false h3
  rw [holdsB_eq h1, holdsB_eq h2, ← Bool.decide_and]
  apply decide_eq_false
  intro h
  apply g3
  unfold mxN mnN
  split <;> split <;> omega
theorem hull_holds {a b c d n : Int} (h1 : rightB a b = true) (h2 : rightB c d = true) (h : holdsB a b n = true ∨ holdsB c d n = true) : holdsB (mnN a c) (mxN b d) n = true := by
  have g1 := rightB_true h1
  have g2 := rightB_true h2
  rw [holdsB_eq h1, holdsB_eq h2, decide_eq_true_iff, decide_eq_true_iff] at h
  unfold holdsB mnN mxN
  apply decide_eq_true
  split <;> split <;> omega

/-- The two boxes of the arguments. -/
theorem two_boxes (w : World) (a b c d : Int) : Pair ((w.alloc (.cells #[.int .i64 a, .int .i64 b] 23)).alloc (.cells #[.int .i64 c, .int .i64 d] 23)) w.heap.size a b ∧ Pair ((w.alloc (.cells #[.int .i64 a, .int .i64 b] 23)).alloc (.cells #[.int .i64 c, .int .i64 d] 23)) (w.heap.size + 1) c d := by
  refine ⟨(Pair.new w a b).alloc _, ?_⟩
  have := Pair.new (w.alloc (.cells #[.int .i64 a, .int .i64 b] 23)) c d
  simpa using this


set_option maxHeartbeats 3200000 in
set_option maxRecDepth 20000 in
theorem meets_wrong0 (a b c d n : Int) (w : World) (h1 : rightB a b = false) : Calls Try.prog 6 #[.agg #[.int .i64 a, .int .i64 b], .agg #[.int .i64 c, .int .i64 d], .int .i64 n] w fun e w' => e = .returned (.bool true) ∧ Below w.heap.size w w' := by
  have K1 : Hid (∀ W, Calls Try.prog 9 #[.agg #[.int .i64 a, .int .i64 b], .agg #[.int .i64 c, .int .i64 d]] W fun e w' => e = .returned (.tuple #[.agg #[.int .i64 0, .int .i64 0], .int .i64 1]) ∧ Below W.heap.size W w') := fun W => by have h := meets_ok W a b c d; rw [show meetV a b c d = errV 1 from if_neg (fun h => by simp_all), errV] at h; exact h
  have K2 : Hid (∀ W, Calls Try.prog 11 #[.agg #[.int .i64 a, .int .i64 b], .agg #[.int .i64 c, .int .i64 d]] W fun e w' => e = .returned (.tuple #[.agg #[.int .i64 0, .int .i64 0], .int .i64 1]) ∧ Below W.heap.size W w') := fun W => by have h := hull_ok W a b c d; rw [show hullV a b c d = errV 1 from if_neg (fun h => by simp_all), errV] at h; exact h
  have K3 : Hid (∀ W, Calls Try.prog 19 #[.agg #[.int .i64 a, .int .i64 b]] W fun e w' => e = .returned (.bool false) ∧ Below W.heap.size W w') := fun W => by have h := isright_ok W a b; rw [h1] at h; exact h
  have K5 : Hid (∀ W, Calls Try.prog 25 #[] W fun e w' => e = .returned (.bool true) ∧ Below W.heap.size W w') := fun W => awake_ok W
  clear h1
  have HA : Hid (Pair ((w.alloc (.cells #[.int .i64 a, .int .i64 b] 23)).alloc (.cells #[.int .i64 c, .int .i64 d] 23)) w.heap.size a b ∧ Pair ((w.alloc (.cells #[.int .i64 a, .int .i64 b] 23)).alloc (.cells #[.int .i64 c, .int .i64 d] 23)) (w.heap.size + 1) c d) := two_boxes w a b c d
  have bel := Go.Joins.below_alloc2 w (.cells #[.int .i64 a, .int .i64 b] 23) (.cells #[.int .i64 c, .int .i64 d] 23)
  go_enter Try.func6, Try.ntmps6
  go_wp2_with fail
  refine (K1.out _).mono ?_
  rintro e v1 ⟨rfl, hb⟩
  clear K1
  have G1 : Hid (Pair v1 w.heap.size a b ∧ Pair v1 (w.heap.size + 1) c d) := ⟨(HA.out.1).below hb, (HA.out.2).below hb⟩
  have bel1 := bel.trans (hb.mono bel.size)
  clear bel hb HA
  have bel := bel1
  clear bel1
  obtain ⟨f0_0, f0_1, _, _⟩ := (G1.out.1).facts
  obtain ⟨f1_0, f1_1, _, _⟩ := (G1.out.2).facts
  have l1_0 := (G1.out.1).lt
  have l1_1 := (G1.out.2).lt
  have J1 : Hid (Pair (v1.alloc (.cells #[.int .i64 0, .int .i64 0] 23)) w.heap.size a b ∧ Pair (v1.alloc (.cells #[.int .i64 0, .int .i64 0] 23)) (w.heap.size + 1) c d ∧ Pair (v1.alloc (.cells #[.int .i64 0, .int .i64 0] 23)) v1.heap.size 0 0) := ⟨(G1.out.1).alloc _, (G1.out.2).alloc _, Pair.new v1 0 0⟩
  have belJ := bel.alloc bel.size (.cells #[.int .i64 0, .int .i64 0] 23)
  clear bel G1
  have bel := belJ
  clear belJ
  go_wp2_with fail
  refine (K2.out _).mono ?_
  rintro e v2 ⟨rfl, hb⟩
  clear K2
  clear f0_0 f0_1 f1_0 f1_1 l1_0 l1_1
  have G2 : Hid (Pair v2 w.heap.size a b ∧ Pair v2 (w.heap.size + 1) c d ∧ Pair v2 v1.heap.size 0 0) := ⟨(J1.out.1).below hb, (J1.out.2.1).below hb, (J1.out.2.2).below hb⟩
  have bel2 := bel.trans (hb.mono bel.size)
  clear bel hb J1
  have bel := bel2
  clear bel2
  obtain ⟨f0_0, f0_1, _, _⟩ := (G2.out.1).facts
  obtain ⟨f1_0, f1_1, _, _⟩ := (G2.out.2.1).facts
  obtain ⟨f2_0, f2_1, _, _⟩ := (G2.out.2.2).facts
  have l2_0 := (G2.out.1).lt
  have l2_1 := (G2.out.2.1).lt
  have l2_2 := (G2.out.2.2).lt
  have J2 : Hid (Pair (v2.alloc (.cells #[.int .i64 0, .int .i64 0] 23)) w.heap.size a b ∧ Pair (v2.alloc (.cells #[.int .i64 0, .int .i64 0] 23)) (w.heap.size + 1) c d ∧ Pair (v2.alloc (.cells #[.int .i64 0, .int .i64 0] 23)) v1.heap.size 0 0 ∧ Pair (v2.alloc (.cells #[.int .i64 0, .int .i64 0] 23)) v2.heap.size 0 0) := ⟨(G2.out.1).alloc _, (G2.out.2.1).alloc _, (G2.out.2.2).alloc _, Pair.new v2 0 0⟩
  have belJ := bel.alloc bel.size (.cells #[.int .i64 0, .int .i64 0] 23)
  clear bel G2
  have bel := belJ
  clear belJ
  go_wp2_with fail
  refine (K3.out _).mono ?_
  rintro e v3 ⟨rfl, hb⟩
  clear K3
  clear f0_0 f0_1 f1_0 f1_1 f2_0 f2_1 l2_0 l2_1 l2_2
  have G3 : Hid (Pair v3 w.heap.size a b ∧ Pair v3 (w.heap.size + 1) c d ∧ Pair v3 v1.heap.size 0 0 ∧ Pair v3 v2.heap.size 0 0) := ⟨(J2.out.1).below hb, (J2.out.2.1).below hb, (J2.out.2.2.1).below hb, (J2.out.2.2.2).below hb⟩
  have bel3 := bel.trans (hb.mono bel.size)
  clear bel hb J2
  have bel := bel3
  clear bel3
  obtain ⟨f0_0, f0_1, _, _⟩ := (G3.out.1).facts
  obtain ⟨f1_0, f1_1, _, _⟩ := (G3.out.2.1).facts
  obtain ⟨f2_0, f2_1, _, _⟩ := (G3.out.2.2.1).facts
  obtain ⟨f3_0, f3_1, _, _⟩ := (G3.out.2.2.2).facts
  have l3_0 := (G3.out.1).lt
  have l3_1 := (G3.out.2.1).lt
  have l3_2 := (G3.out.2.2.1).lt
  have l3_3 := (G3.out.2.2.2).lt
  go_wp2_with fail
  refine (K5.out _).mono ?_
  rintro e v4 ⟨rfl, hb⟩
  clear K5
  clear f0_0 f0_1 f1_0 f1_1 f2_0 f2_1 f3_0 f3_1 l3_0 l3_1 l3_2 l3_3
  have G4 : Hid (Pair v4 w.heap.size a b ∧ Pair v4 (w.heap.size + 1) c d ∧ Pair v4 v1.heap.size 0 0 ∧ Pair v4 v2.heap.size 0 0) := ⟨(G3.out.1).below hb, (G3.out.2.1).below hb, (G3.out.2.2.1).below hb, (G3.out.2.2.2).below hb⟩
  have bel4 := bel.trans (hb.mono bel.size)
  clear bel hb G3
  have bel := bel4
  clear bel4
  go_wp2
  go_ret
  exact ⟨by first | rfl | simp, bel⟩

set_option maxHeartbeats 3200000 in
set_option maxRecDepth 20000 in
theorem meets_wrong1 (a b c d n : Int) (w : World) (h1 : rightB a b = true) (h2 : rightB c d = false) : Calls Try.prog 6 #[.agg #[.int .i64 a, .int .i64 b], .agg #[.int .i64 c, .int .i64 d], .int .i64 n] w fun e w' => e = .returned (.bool true) ∧ Below w.heap.size w w' := by
  have K1 : Hid (∀ W, Calls Try.prog 9 #[.agg #[.int .i64 a, .int .i64 b], .agg #[.int .i64 c, .int .i64 d]] W fun e w' => e = .returned (.tuple #[.agg #[.int .i64 0, .int .i64 0], .int .i64 1]) ∧ Below W.heap.size W w') := fun W => by have h := meets_ok W a b c d; rw [show meetV a b c d = errV 1 from if_neg (fun h => by simp_all), errV] at h; exact h
  have K2 : Hid (∀ W, Calls Try.prog 11 #[.agg #[.int .i64 a, .int .i64 b], .agg #[.int .i64 c, .int .i64 d]] W fun e w' => e = .returned (.tuple #[.agg #[.int .i64 0, .int .i64 0], .int .i64 1]) ∧ Below W.heap.size W w') := fun W => by have h := hull_ok W a b c d; rw [show hullV a b c d = errV 1 from if_neg (fun h => by simp_all), errV] at h; exact h
  have K3 : Hid (∀ W, Calls Try.prog 19 #[.agg #[.int .i64 a, .int .i64 b]] W fun e w' => e = .returned (.bool true) ∧ Below W.heap.size W w') := fun W => by have h := isright_ok W a b; rw [h1] at h; exact h
  have K4 : Hid (∀ W, Calls Try.prog 19 #[.agg #[.int .i64 c, .int .i64 d]] W fun e w' => e = .returned (.bool false) ∧ Below W.heap.size W w') := fun W => by have h := isright_ok W c d; rw [h2] at h; exact h
  have K5 : Hid (∀ W, Calls Try.prog 25 #[] W fun e w' => e = .returned (.bool true) ∧ Below W.heap.size W w') := fun W => awake_ok W
  clear h1 h2
  have HA : Hid (Pair ((w.alloc (.cells #[.int .i64 a, .int .i64 b] 23)).alloc (.cells #[.int .i64 c, .int .i64 d] 23)) w.heap.size a b ∧ Pair ((w.alloc (.cells #[.int .i64 a, .int .i64 b] 23)).alloc (.cells #[.int .i64 c, .int .i64 d] 23)) (w.heap.size + 1) c d) := two_boxes w a b c d
  have bel := Go.Joins.below_alloc2 w (.cells #[.int .i64 a, .int .i64 b] 23) (.cells #[.int .i64 c, .int .i64 d] 23)
  go_enter Try.func6, Try.ntmps6
  go_wp2_with fail
  refine (K1.out _).mono ?_
  rintro e v1 ⟨rfl, hb⟩
  clear K1
  have G1 : Hid (Pair v1 w.heap.size a b ∧ Pair v1 (w.heap.size + 1) c d) := ⟨(HA.out.1).below hb, (HA.out.2).below hb⟩
  have bel1 := bel.trans (hb.mono bel.size)
  clear bel hb HA
  have bel := bel1
  clear bel1
  obtain ⟨f0_0, f0_1, _, _⟩ := (G1.out.1).facts
  obtain ⟨f1_0, f1_1, _, _⟩ := (G1.out.2).facts
  have l1_0 := (G1.out.1).lt
  have l1_1 := (G1.out.2).lt
  have J1 : Hid (Pair (v1.alloc (.cells #[.int .i64 0, .int .i64 0] 23)) w.heap.size a b ∧ Pair (v1.alloc (.cells #[.int .i64 0, .int .i64 0] 23)) (w.heap.size + 1) c d ∧ Pair (v1.alloc (.cells #[.int .i64 0, .int .i64 0] 23)) v1.heap.size 0 0) := ⟨(G1.out.1).alloc _, (G1.out.2).alloc _, Pair.new v1 0 0⟩
  have belJ := bel.alloc bel.size (.cells #[.int .i64 0, .int .i64 0] 23)
  clear bel G1
  have bel := belJ
  clear belJ
  go_wp2_with fail
  refine (K2.out _).mono ?_
  rintro e v2 ⟨rfl, hb⟩
  clear K2
  clear f0_0 f0_1 f1_0 f1_1 l1_0 l1_1
  have G2 : Hid (Pair v2 w.heap.size a b ∧ Pair v2 (w.heap.size + 1) c d ∧ Pair v2 v1.heap.size 0 0) := ⟨(J1.out.1).below hb, (J1.out.2.1).below hb, (J1.out.2.2).below hb⟩
  have bel2 := bel.trans (hb.mono bel.size)
  clear bel hb J1
  have bel := bel2
  clear bel2
  obtain ⟨f0_0, f0_1, _, _⟩ := (G2.out.1).facts
  obtain ⟨f1_0, f1_1, _, _⟩ := (G2.out.2.1).facts
  obtain ⟨f2_0, f2_1, _, _⟩ := (G2.out.2.2).facts
  have l2_0 := (G2.out.1).lt
  have l2_1 := (G2.out.2.1).lt
  have l2_2 := (G2.out.2.2).lt
  have J2 : Hid (Pair (v2.alloc (.cells #[.int .i64 0, .int .i64 0] 23)) w.heap.size a b ∧ Pair (v2.alloc (.cells #[.int .i64 0, .int .i64 0] 23)) (w.heap.size + 1) c d ∧ Pair (v2.alloc (.cells #[.int .i64 0, .int .i64 0] 23)) v1.heap.size 0 0 ∧ Pair (v2.alloc (.cells #[.int .i64 0, .int .i64 0] 23)) v2.heap.size 0 0) := ⟨(G2.out.1).alloc _, (G2.out.2.1).alloc _, (G2.out.2.2).alloc _, Pair.new v2 0 0⟩
  have belJ := bel.alloc bel.size (.cells #[.int .i64 0, .int .i64 0] 23)
  clear bel G2
  have bel := belJ
  clear belJ
  go_wp2_with fail
  refine (K3.out _).mono ?_
  rintro e v3 ⟨rfl, hb⟩
  clear K3
  clear f0_0 f0_1 f1_0 f1_1 f2_0 f2_1 l2_0 l2_1 l2_2
  have G3 : Hid (Pair v3 w.heap.size a b ∧ Pair v3 (w.heap.size + 1) c d ∧ Pair v3 v1.heap.size 0 0 ∧ Pair v3 v2.heap.size 0 0) := ⟨(J2.out.1).below hb, (J2.out.2.1).below hb, (J2.out.2.2.1).below hb, (J2.out.2.2.2).below hb⟩
  have bel3 := bel.trans (hb.mono bel.size)
  clear bel hb J2
  have bel := bel3
  clear bel3
  obtain ⟨f0_0, f0_1, _, _⟩ := (G3.out.1).facts
  obtain ⟨f1_0, f1_1, _, _⟩ := (G3.out.2.1).facts
  obtain ⟨f2_0, f2_1, _, _⟩ := (G3.out.2.2.1).facts
  obtain ⟨f3_0, f3_1, _, _⟩ := (G3.out.2.2.2).facts
  have l3_0 := (G3.out.1).lt
  have l3_1 := (G3.out.2.1).lt
  have l3_2 := (G3.out.2.2.1).lt
  have l3_3 := (G3.out.2.2.2).lt
  go_wp2_with fail
  refine (K4.out _).mono ?_
  rintro e v4 ⟨rfl, hb⟩
  clear K4
  clear f0_0 f0_1 f1_0 f1_1 f2_0 f2_1 f3_0 f3_1 l3_0 l3_1 l3_2 l3_3
  have G4 : Hid (Pair v4 w.heap.size a b ∧ Pair v4 (w.heap.size + 1) c d ∧ Pair v4 v1.heap.size 0 0 ∧ Pair v4 v2.heap.size 0 0) := ⟨(G3.out.1).below hb, (G3.out.2.1).below hb, (G3.out.2.2.1).below hb, (G3.out.2.2.2).below hb⟩
  have bel4 := bel.trans (hb.mono bel.size)
  clear bel hb G3
  have bel := bel4
  clear bel4
  obtain ⟨f0_0, f0_1, _, _⟩ := (G4.out.1).facts
  obtain ⟨f1_0, f1_1, _, _⟩ := (G4.out.2.1).facts
  obtain ⟨f2_0, f2_1, _, _⟩ := (G4.out.2.2.1).facts
  obtain ⟨f3_0, f3_1, _, _⟩ := (G4.out.2.2.2).facts
  have l4_0 := (G4.out.1).lt
  have l4_1 := (G4.out.2.1).lt
  have l4_2 := (G4.out.2.2.1).lt
  have l4_3 := (G4.out.2.2.2).lt
  go_wp2_with fail
  refine (K5.out _).mono ?_
  rintro e v5 ⟨rfl, hb⟩
  clear K5
  clear f0_0 f0_1 f1_0 f1_1 f2_0 f2_1 f3_0 f3_1 l4_0 l4_1 l4_2 l4_3
  have G5 : Hid (Pair v5 w.heap.size a b ∧ Pair v5 (w.heap.size + 1) c d ∧ Pair v5 v1.heap.size 0 0 ∧ Pair v5 v2.heap.size 0 0) := ⟨(G4.out.1).below hb, (G4.out.2.1).below hb, (G4.out.2.2.1).below hb, (G4.out.2.2.2).below hb⟩
  have bel5 := bel.trans (hb.mono bel.size)
  clear bel hb G4
  have bel := bel5
  clear bel5
  go_wp2
  go_ret
  exact ⟨by first | rfl | simp, bel⟩

set_option maxHeartbeats 3200000 in
set_option maxRecDepth 20000 in
theorem meets_ttt (a b c d n : Int) (w : World) (h1 : rightB a b = true) (h2 : rightB c d = true) (h3 : rightB (mxN a c) (mnN b d) = true) (g1 : holdsB a b n = true) (g2 : holdsB c d n = true) : Calls Try.prog 6 #[.agg #[.int .i64 a, .int .i64 b], .agg #[.int .i64 c, .int .i64 d], .int .i64 n] w fun e w' => e = .returned (.bool true) ∧ Below w.heap.size w w' := by
  have K1 : Hid (∀ W, Calls Try.prog 9 #[.agg #[.int .i64 a, .int .i64 b], .agg #[.int .i64 c, .int .i64 d]] W fun e w' => e = .returned (.tuple #[.agg #[.int .i64 (mxN a c), .int .i64 (mnN b d)], .int .i64 0]) ∧ Below W.heap.size W w') := fun W => by have h := meets_ok W a b c d; rw [show meetV a b c d = okV (mxN a c) (mnN b d) from by rw [meetV, if_pos ⟨h1, h2⟩, if_pos h3], okV] at h; exact h
  have K2 : Hid (∀ W, Calls Try.prog 11 #[.agg #[.int .i64 a, .int .i64 b], .agg #[.int .i64 c, .int .i64 d]] W fun e w' => e = .returned (.tuple #[.agg #[.int .i64 (mnN a c), .int .i64 (mxN b d)], .int .i64 0]) ∧ Below W.heap.size W w') := fun W => by have h := hull_ok W a b c d; rw [show hullV a b c d = okV (mnN a c) (mxN b d) from if_pos ⟨h1, h2⟩, okV] at h; exact h
  have K3 : Hid (∀ W, Calls Try.prog 19 #[.agg #[.int .i64 a, .int .i64 b]] W fun e w' => e = .returned (.bool true) ∧ Below W.heap.size W w') := fun W => by have h := isright_ok W a b; rw [h1] at h; exact h
  have K4 : Hid (∀ W, Calls Try.prog 19 #[.agg #[.int .i64 c, .int .i64 d]] W fun e w' => e = .returned (.bool true) ∧ Below W.heap.size W w') := fun W => by have h := isright_ok W c d; rw [h2] at h; exact h
  have K5 : Hid (∀ W, Calls Try.prog 21 #[.agg #[.int .i64 a, .int .i64 b], .int .i64 n] W fun e w' => e = .returned (.bool true) ∧ Below W.heap.size W w') := fun W => by have h := holds_ok W a b n; rw [g1] at h; exact h
  have K6 : Hid (∀ W, Calls Try.prog 21 #[.agg #[.int .i64 c, .int .i64 d], .int .i64 n] W fun e w' => e = .returned (.bool true) ∧ Below W.heap.size W w') := fun W => by have h := holds_ok W c d n; rw [g2] at h; exact h
  have K7 : Hid (∀ W, Calls Try.prog 21 #[.agg #[.int .i64 (mxN a c), .int .i64 (mnN b d)], .int .i64 n] W fun e w' => e = .returned (.bool true) ∧ Below W.heap.size W w') := fun W => by have h := holds_ok W (mxN a c) (mnN b d) n; rw [meet_holds h1 h2 h3, g1, g2] at h; exact h
  have K8 : Hid (∀ W, Calls Try.prog 21 #[.agg #[.int .i64 (mnN a c), .int .i64 (mxN b d)], .int .i64 n] W fun e w' => e = .returned (.bool true) ∧ Below W.heap.size W w') := fun W => by have h := holds_ok W (mnN a c) (mxN b d) n; rw [hull_holds h1 h2 (.inl g1)] at h; exact h
  have K9 : Hid (∀ W, Calls Try.prog 25 #[] W fun e w' => e = .returned (.bool true) ∧ Below W.heap.size W w') := fun W => awake_ok W
  generalize mxN a c = p at *
  generalize mnN b d = q at *
  generalize mnN a c = r at *
  generalize mxN b d = s at *
  clear h1 h2 h3 g1 g2
  have HA : Hid (Pair ((w.alloc (.cells #[.int .i64 a, .int .i64 b] 23)).alloc (.cells #[.int .i64 c, .int .i64 d] 23)) w.heap.size a b ∧ Pair ((w.alloc (.cells #[.int .i64 a, .int .i64 b] 23)).alloc (.cells #[.int .i64 c, .int .i64 d] 23)) (w.heap.size + 1) c d) := two_boxes w a b c d
  have bel := Go.Joins.below_alloc2 w (.cells #[.int .i64 a, .int .i64 b] 23) (.cells #[.int .i64 c, .int .i64 d] 23)
  go_enter Try.func6, Try.ntmps6
  go_wp2_with fail
  refine (K1.out _).mono ?_
  rintro e v1 ⟨rfl, hb⟩
  clear K1
  have G1 : Hid (Pair v1 w.heap.size a b ∧ Pair v1 (w.heap.size + 1) c d) := ⟨(HA.out.1).below hb, (HA.out.2).below hb⟩
  have bel1 := bel.trans (hb.mono bel.size)
  clear bel hb HA
  have bel := bel1
  clear bel1
  obtain ⟨f0_0, f0_1, _, _⟩ := (G1.out.1).facts
  obtain ⟨f1_0, f1_1, _, _⟩ := (G1.out.2).facts
  have l1_0 := (G1.out.1).lt
  have l1_1 := (G1.out.2).lt
  have J1 : Hid (Pair (v1.alloc (.cells #[.int .i64 p, .int .i64 q] 23)) w.heap.size a b ∧ Pair (v1.alloc (.cells #[.int .i64 p, .int .i64 q] 23)) (w.heap.size + 1) c d ∧ Pair (v1.alloc (.cells #[.int .i64 p, .int .i64 q] 23)) v1.heap.size p q) := ⟨(G1.out.1).alloc _, (G1.out.2).alloc _, Pair.new v1 p q⟩
  have belJ := bel.alloc bel.size (.cells #[.int .i64 p, .int .i64 q] 23)
  clear bel G1
  have bel := belJ
  clear belJ
  go_wp2_with fail
  refine (K2.out _).mono ?_
  rintro e v2 ⟨rfl, hb⟩
  clear K2
  clear f0_0 f0_1 f1_0 f1_1 l1_0 l1_1
  have G2 : Hid (Pair v2 w.heap.size a b ∧ Pair v2 (w.heap.size + 1) c d ∧ Pair v2 v1.heap.size p q) := ⟨(J1.out.1).below hb, (J1.out.2.1).below hb, (J1.out.2.2).below hb⟩
  have bel2 := bel.trans (hb.mono bel.size)
  clear bel hb J1
  have bel := bel2
  clear bel2
  obtain ⟨f0_0, f0_1, _, _⟩ := (G2.out.1).facts
  obtain ⟨f1_0, f1_1, _, _⟩ := (G2.out.2.1).facts
  obtain ⟨f2_0, f2_1, _, _⟩ := (G2.out.2.2).facts
  have l2_0 := (G2.out.1).lt
  have l2_1 := (G2.out.2.1).lt
  have l2_2 := (G2.out.2.2).lt
  have J2 : Hid (Pair (v2.alloc (.cells #[.int .i64 r, .int .i64 s] 23)) w.heap.size a b ∧ Pair (v2.alloc (.cells #[.int .i64 r, .int .i64 s] 23)) (w.heap.size + 1) c d ∧ Pair (v2.alloc (.cells #[.int .i64 r, .int .i64 s] 23)) v1.heap.size p q ∧ Pair (v2.alloc (.cells #[.int .i64 r, .int .i64 s] 23)) v2.heap.size r s) := ⟨(G2.out.1).alloc _, (G2.out.2.1).alloc _, (G2.out.2.2).alloc _, Pair.new v2 r s⟩
  have belJ := bel.alloc bel.size (.cells #[.int .i64 r, .int .i64 s] 23)
  clear bel G2
  have bel := belJ
  clear belJ
  go_wp2_with fail
  refine (K3.out _).mono ?_
  rintro e v3 ⟨rfl, hb⟩
  clear K3
  clear f0_0 f0_1 f1_0 f1_1 f2_0 f2_1 l2_0 l2_1 l2_2
  have G3 : Hid (Pair v3 w.heap.size a b ∧ Pair v3 (w.heap.size + 1) c d ∧ Pair v3 v1.heap.size p q ∧ Pair v3 v2.heap.size r s) := ⟨(J2.out.1).below hb, (J2.out.2.1).below hb, (J2.out.2.2.1).below hb, (J2.out.2.2.2).below hb⟩
  have bel3 := bel.trans (hb.mono bel.size)
  clear bel hb J2
  have bel := bel3
  clear bel3
  obtain ⟨f0_0, f0_1, _, _⟩ := (G3.out.1).facts
  obtain ⟨f1_0, f1_1, _, _⟩ := (G3.out.2.1).facts
  obtain ⟨f2_0, f2_1, _, _⟩ := (G3.out.2.2.1).facts
  obtain ⟨f3_0, f3_1, _, _⟩ := (G3.out.2.2.2).facts
  have l3_0 := (G3.out.1).lt
  have l3_1 := (G3.out.2.1).lt
  have l3_2 := (G3.out.2.2.1).lt
  have l3_3 := (G3.out.2.2.2).lt
  go_wp2_with fail
  refine (K4.out _).mono ?_
  rintro e v4 ⟨rfl, hb⟩
  clear K4
  clear f0_0 f0_1 f1_0 f1_1 f2_0 f2_1 f3_0 f3_1 l3_0 l3_1 l3_2 l3_3
  have G4 : Hid (Pair v4 w.heap.size a b ∧ Pair v4 (w.heap.size + 1) c d ∧ Pair v4 v1.heap.size p q ∧ Pair v4 v2.heap.size r s) := ⟨(G3.out.1).below hb, (G3.out.2.1).below hb, (G3.out.2.2.1).below hb, (G3.out.2.2.2).below hb⟩
  have bel4 := bel.trans (hb.mono bel.size)
  clear bel hb G3
  have bel := bel4
  clear bel4
  obtain ⟨f0_0, f0_1, _, _⟩ := (G4.out.1).facts
  obtain ⟨f1_0, f1_1, _, _⟩ := (G4.out.2.1).facts
  obtain ⟨f2_0, f2_1, _, _⟩ := (G4.out.2.2.1).facts
  obtain ⟨f3_0, f3_1, _, _⟩ := (G4.out.2.2.2).facts
  have l4_0 := (G4.out.1).lt
  have l4_1 := (G4.out.2.1).lt
  have l4_2 := (G4.out.2.2.1).lt
  have l4_3 := (G4.out.2.2.2).lt
  go_wp2_with fail
  refine (K5.out _).mono ?_
  rintro e v5 ⟨rfl, hb⟩
  clear f0_0 f0_1 f1_0 f1_1 f2_0 f2_1 f3_0 f3_1 l4_0 l4_1 l4_2 l4_3
  have G5 : Hid (Pair v5 w.heap.size a b ∧ Pair v5 (w.heap.size + 1) c d ∧ Pair v5 v1.heap.size p q ∧ Pair v5 v2.heap.size r s) := ⟨(G4.out.1).below hb, (G4.out.2.1).below hb, (G4.out.2.2.1).below hb, (G4.out.2.2.2).below hb⟩
  have bel5 := bel.trans (hb.mono bel.size)
  clear bel hb G4
  have bel := bel5
  clear bel5
  obtain ⟨f0_0, f0_1, _, _⟩ := (G5.out.1).facts
  obtain ⟨f1_0, f1_1, _, _⟩ := (G5.out.2.1).facts
  obtain ⟨f2_0, f2_1, _, _⟩ := (G5.out.2.2.1).facts
  obtain ⟨f3_0, f3_1, _, _⟩ := (G5.out.2.2.2).facts
  have l5_0 := (G5.out.1).lt
  have l5_1 := (G5.out.2.1).lt
  have l5_2 := (G5.out.2.2.1).lt
  have l5_3 := (G5.out.2.2.2).lt
  go_wp2_with fail
  refine (K6.out _).mono ?_
  rintro e v6 ⟨rfl, hb⟩
  clear f0_0 f0_1 f1_0 f1_1 f2_0 f2_1 f3_0 f3_1 l5_0 l5_1 l5_2 l5_3
  have G6 : Hid (Pair v6 w.heap.size a b ∧ Pair v6 (w.heap.size + 1) c d ∧ Pair v6 v1.heap.size p q ∧ Pair v6 v2.heap.size r s) := ⟨(G5.out.1).below hb, (G5.out.2.1).below hb, (G5.out.2.2.1).below hb, (G5.out.2.2.2).below hb⟩
  have bel6 := bel.trans (hb.mono bel.size)
  clear bel hb G5
  have bel := bel6
  clear bel6
  obtain ⟨f0_0, f0_1, _, _⟩ := (G6.out.1).facts
  obtain ⟨f1_0, f1_1, _, _⟩ := (G6.out.2.1).facts
  obtain ⟨f2_0, f2_1, _, _⟩ := (G6.out.2.2.1).facts
  obtain ⟨f3_0, f3_1, _, _⟩ := (G6.out.2.2.2).facts
  have l6_0 := (G6.out.1).lt
  have l6_1 := (G6.out.2.1).lt
  have l6_2 := (G6.out.2.2.1).lt
  have l6_3 := (G6.out.2.2.2).lt
  go_wp2_with fail
  refine (K7.out _).mono ?_
  rintro e v7 ⟨rfl, hb⟩
  clear K7
  clear f0_0 f0_1 f1_0 f1_1 f2_0 f2_1 f3_0 f3_1 l6_0 l6_1 l6_2 l6_3
  have G7 : Hid (Pair v7 w.heap.size a b ∧ Pair v7 (w.heap.size + 1) c d ∧ Pair v7 v1.heap.size p q ∧ Pair v7 v2.heap.size r s) := ⟨(G6.out.1).below hb, (G6.out.2.1).below hb, (G6.out.2.2.1).below hb, (G6.out.2.2.2).below hb⟩
  have bel7 := bel.trans (hb.mono bel.size)
  clear bel hb G6
  have bel := bel7
  clear bel7
  obtain ⟨f0_0, f0_1, _, _⟩ := (G7.out.1).facts
  obtain ⟨f1_0, f1_1, _, _⟩ := (G7.out.2.1).facts
  obtain ⟨f2_0, f2_1, _, _⟩ := (G7.out.2.2.1).facts
  obtain ⟨f3_0, f3_1, _, _⟩ := (G7.out.2.2.2).facts
  have l7_0 := (G7.out.1).lt
  have l7_1 := (G7.out.2.1).lt
  have l7_2 := (G7.out.2.2.1).lt
  have l7_3 := (G7.out.2.2.2).lt
  go_wp2_with fail
  refine (K5.out _).mono ?_
  rintro e v8 ⟨rfl, hb⟩
  clear K5
  clear f0_0 f0_1 f1_0 f1_1 f2_0 f2_1 f3_0 f3_1 l7_0 l7_1 l7_2 l7_3
  have G8 : Hid (Pair v8 w.heap.size a b ∧ Pair v8 (w.heap.size + 1) c d ∧ Pair v8 v1.heap.size p q ∧ Pair v8 v2.heap.size r s) := ⟨(G7.out.1).below hb, (G7.out.2.1).below hb, (G7.out.2.2.1).below hb, (G7.out.2.2.2).below hb⟩
  have bel8 := bel.trans (hb.mono bel.size)
  clear bel hb G7
  have bel := bel8
  clear bel8
  obtain ⟨f0_0, f0_1, _, _⟩ := (G8.out.1).facts
  obtain ⟨f1_0, f1_1, _, _⟩ := (G8.out.2.1).facts
  obtain ⟨f2_0, f2_1, _, _⟩ := (G8.out.2.2.1).facts
  obtain ⟨f3_0, f3_1, _, _⟩ := (G8.out.2.2.2).facts
  have l8_0 := (G8.out.1).lt
  have l8_1 := (G8.out.2.1).lt
  have l8_2 := (G8.out.2.2.1).lt
  have l8_3 := (G8.out.2.2.2).lt
  go_wp2_with fail
  refine (K8.out _).mono ?_
  rintro e v9 ⟨rfl, hb⟩
  clear K8
  clear f0_0 f0_1 f1_0 f1_1 f2_0 f2_1 f3_0 f3_1 l8_0 l8_1 l8_2 l8_3
  have G9 : Hid (Pair v9 w.heap.size a b ∧ Pair v9 (w.heap.size + 1) c d ∧ Pair v9 v1.heap.size p q ∧ Pair v9 v2.heap.size r s) := ⟨(G8.out.1).below hb, (G8.out.2.1).below hb, (G8.out.2.2.1).below hb, (G8.out.2.2.2).below hb⟩
  have bel9 := bel.trans (hb.mono bel.size)
  clear bel hb G8
  have bel := bel9
  clear bel9
  obtain ⟨f0_0, f0_1, _, _⟩ := (G9.out.1).facts
  obtain ⟨f1_0, f1_1, _, _⟩ := (G9.out.2.1).facts
  obtain ⟨f2_0, f2_1, _, _⟩ := (G9.out.2.2.1).facts
  obtain ⟨f3_0, f3_1, _, _⟩ := (G9.out.2.2.2).facts
  have l9_0 := (G9.out.1).lt
  have l9_1 := (G9.out.2.1).lt
  have l9_2 := (G9.out.2.2.1).lt
  have l9_3 := (G9.out.2.2.2).lt
  go_wp2_with fail
  refine (K9.out _).mono ?_
  rintro e v10 ⟨rfl, hb⟩
  clear K9
  clear f0_0 f0_1 f1_0 f1_1 f2_0 f2_1 f3_0 f3_1 l9_0 l9_1 l9_2 l9_3
  have G10 : Hid (Pair v10 w.heap.size a b ∧ Pair v10 (w.heap.size + 1) c d ∧ Pair v10 v1.heap.size p q ∧ Pair v10 v2.heap.size r s) := ⟨(G9.out.1).below hb, (G9.out.2.1).below hb, (G9.out.2.2.1).below hb, (G9.out.2.2.2).below hb⟩
  have bel10 := bel.trans (hb.mono bel.size)
  clear bel hb G9
  have bel := bel10
  clear bel10
  go_wp2
  go_ret
  exact ⟨by first | rfl | simp, bel⟩

set_option maxHeartbeats 3200000 in
set_option maxRecDepth 20000 in
theorem meets_ttf (a b c d n : Int) (w : World) (h1 : rightB a b = true) (h2 : rightB c d = true) (h3 : rightB (mxN a c) (mnN b d) = true) (g1 : holdsB a b n = true) (g2 : holdsB c d n = false) : Calls Try.prog 6 #[.agg #[.int .i64 a, .int .i64 b], .agg #[.int .i64 c, .int .i64 d], .int .i64 n] w fun e w' => e = .returned (.bool true) ∧ Below w.heap.size w w' := by
  have K1 : Hid (∀ W, Calls Try.prog 9 #[.agg #[.int .i64 a, .int .i64 b], .agg #[.int .i64 c, .int .i64 d]] W fun e w' => e = .returned (.tuple #[.agg #[.int .i64 (mxN a c), .int .i64 (mnN b d)], .int .i64 0]) ∧ Below W.heap.size W w') := fun W => by have h := meets_ok W a b c d; rw [show meetV a b c d = okV (mxN a c) (mnN b d) from by rw [meetV, if_pos ⟨h1, h2⟩, if_pos h3], okV] at h; exact h
  have K2 : Hid (∀ W, Calls Try.prog 11 #[.agg #[.int .i64 a, .int .i64 b], .agg #[.int .i64 c, .int .i64 d]] W fun e w' => e = .returned (.tuple #[.agg #[.int .i64 (mnN a c), .int .i64 (mxN b d)], .int .i64 0]) ∧ Below W.heap.size W w') := fun W => by have h := hull_ok W a b c d; rw [show hullV a b c d = okV (mnN a c) (mxN b d) from if_pos ⟨h1, h2⟩, okV] at h; exact h
  have K3 : Hid (∀ W, Calls Try.prog 19 #[.agg #[.int .i64 a, .int .i64 b]] W fun e w' => e = .returned (.bool true) ∧ Below W.heap.size W w') := fun W => by have h := isright_ok W a b; rw [h1] at h; exact h
  have K4 : Hid (∀ W, Calls Try.prog 19 #[.agg #[.int .i64 c, .int .i64 d]] W fun e w' => e = .returned (.bool true) ∧ Below W.heap.size W w') := fun W => by have h := isright_ok W c d; rw [h2] at h; exact h
  have K5 : Hid (∀ W, Calls Try.prog 21 #[.agg #[.int .i64 a, .int .i64 b], .int .i64 n] W fun e w' => e = .returned (.bool true) ∧ Below W.heap.size W w') := fun W => by have h := holds_ok W a b n; rw [g1] at h; exact h
  have K6 : Hid (∀ W, Calls Try.prog 21 #[.agg #[.int .i64 c, .int .i64 d], .int .i64 n] W fun e w' => e = .returned (.bool false) ∧ Below W.heap.size W w') := fun W => by have h := holds_ok W c d n; rw [g2] at h; exact h
  have K7 : Hid (∀ W, Calls Try.prog 21 #[.agg #[.int .i64 (mxN a c), .int .i64 (mnN b d)], .int .i64 n] W fun e w' => e = .returned (.bool false) ∧ Below W.heap.size W w') := fun W => by have h := holds_ok W (mxN a c) (mnN b d) n; rw [meet_holds h1 h2 h3, g1, g2] at h; exact h
  have K8 : Hid (∀ W, Calls Try.prog 21 #[.agg #[.int .i64 (mnN a c), .int .i64 (mxN b d)], .int .i64 n] W fun e w' => e = .returned (.bool true) ∧ Below W.heap.size W w') := fun W => by have h := holds_ok W (mnN a c) (mxN b d) n; rw [hull_holds h1 h2 (.inl g1)] at h; exact h
  have K9 : Hid (∀ W, Calls Try.prog 25 #[] W fun e w' => e = .returned (.bool true) ∧ Below W.heap.size W w') := fun W => awake_ok W
  generalize mxN a c = p at *
  generalize mnN b d = q at *
  generalize mnN a c = r at *
  generalize mxN b d = s at *
  clear h1 h2 h3 g1 g2
  have HA : Hid (Pair ((w.alloc (.cells #[.int .i64 a, .int .i64 b] 23)).alloc (.cells #[.int .i64 c, .int .i64 d] 23)) w.heap.size a b ∧ Pair ((w.alloc (.cells #[.int .i64 a, .int .i64 b] 23)).alloc (.cells #[.int .i64 c, .int .i64 d] 23)) (w.heap.size + 1) c d) := two_boxes w a b c d
  have bel := Go.Joins.below_alloc2 w (.cells #[.int .i64 a, .int .i64 b] 23) (.cells #[.int .i64 c, .int .i64 d] 23)
  go_enter Try.func6, Try.ntmps6
  go_wp2_with fail
  refine (K1.out _).mono ?_
  rintro e v1 ⟨rfl, hb⟩
  clear K1
  have G1 : Hid (Pair v1 w.heap.size a b ∧ Pair v1 (w.heap.size + 1) c d) := ⟨(HA.out.1).below hb, (HA.out.2).below hb⟩
  have bel1 := bel.trans (hb.mono bel.size)
  clear bel hb HA
  have bel := bel1
  clear bel1
  obtain ⟨f0_0, f0_1, _, _⟩ := (G1.out.1).facts
  obtain ⟨f1_0, f1_1, _, _⟩ := (G1.out.2).facts
  have l1_0 := (G1.out.1).lt
  have l1_1 := (G1.out.2).lt
  have J1 : Hid (Pair (v1.alloc (.cells #[.int .i64 p, .int .i64 q] 23)) w.heap.size a b ∧ Pair (v1.alloc (.cells #[.int .i64 p, .int .i64 q] 23)) (w.heap.size + 1) c d ∧ Pair (v1.alloc (.cells #[.int .i64 p, .int .i64 q] 23)) v1.heap.size p q) := ⟨(G1.out.1).alloc _, (G1.out.2).alloc _, Pair.new v1 p q⟩
  have belJ := bel.alloc bel.size (.cells #[.int .i64 p, .int .i64 q] 23)
  clear bel G1
  have bel := belJ
  clear belJ
  go_wp2_with fail
  refine (K2.out _).mono ?_
  rintro e v2 ⟨rfl, hb⟩
  clear K2
  clear f0_0 f0_1 f1_0 f1_1 l1_0 l1_1
  have G2 : Hid (Pair v2 w.heap.size a b ∧ Pair v2 (w.heap.size + 1) c d ∧ Pair v2 v1.heap.size p q) := ⟨(J1.out.1).below hb, (J1.out.2.1).below hb, (J1.out.2.2).below hb⟩
  have bel2 := bel.trans (hb.mono bel.size)
  clear bel hb J1
  have bel := bel2
  clear bel2
  obtain ⟨f0_0, f0_1, _, _⟩ := (G2.out.1).facts
  obtain ⟨f1_0, f1_1, _, _⟩ := (G2.out.2.1).facts
  obtain ⟨f2_0, f2_1, _, _⟩ := (G2.out.2.2).facts
  have l2_0 := (G2.out.1).lt
  have l2_1 := (G2.out.2.1).lt
  have l2_2 := (G2.out.2.2).lt
  have J2 : Hid (Pair (v2.alloc (.cells #[.int .i64 r, .int .i64 s] 23)) w.heap.size a b ∧ Pair (v2.alloc (.cells #[.int .i64 r, .int .i64 s] 23)) (w.heap.size + 1) c d ∧ Pair (v2.alloc (.cells #[.int .i64 r, .int .i64 s] 23)) v1.heap.size p q ∧ Pair (v2.alloc (.cells #[.int .i64 r, .int .i64 s] 23)) v2.heap.size r s) := ⟨(G2.out.1).alloc _, (G2.out.2.1).alloc _, (G2.out.2.2).alloc _, Pair.new v2 r s⟩
  have belJ := bel.alloc bel.size (.cells #[.int .i64 r, .int .i64 s] 23)
  clear bel G2
  have bel := belJ
  clear belJ
  go_wp2_with fail
  refine (K3.out _).mono ?_
  rintro e v3 ⟨rfl, hb⟩
  clear K3
  clear f0_0 f0_1 f1_0 f1_1 f2_0 f2_1 l2_0 l2_1 l2_2
  have G3 : Hid (Pair v3 w.heap.size a b ∧ Pair v3 (w.heap.size + 1) c d ∧ Pair v3 v1.heap.size p q ∧ Pair v3 v2.heap.size r s) := ⟨(J2.out.1).below hb, (J2.out.2.1).below hb, (J2.out.2.2.1).below hb, (J2.out.2.2.2).below hb⟩
  have bel3 := bel.trans (hb.mono bel.size)
  clear bel hb J2
  have bel := bel3
  clear bel3
  obtain ⟨f0_0, f0_1, _, _⟩ := (G3.out.1).facts
  obtain ⟨f1_0, f1_1, _, _⟩ := (G3.out.2.1).facts
  obtain ⟨f2_0, f2_1, _, _⟩ := (G3.out.2.2.1).facts
  obtain ⟨f3_0, f3_1, _, _⟩ := (G3.out.2.2.2).facts
  have l3_0 := (G3.out.1).lt
  have l3_1 := (G3.out.2.1).lt
  have l3_2 := (G3.out.2.2.1).lt
  have l3_3 := (G3.out.2.2.2).lt
  go_wp2_with fail
  refine (K4.out _).mono ?_
  rintro e v4 ⟨rfl, hb⟩
  clear K4
  clear f0_0 f0_1 f1_0 f1_1 f2_0 f2_1 f3_0 f3_1 l3_0 l3_1 l3_2 l3_3
  have G4 : Hid (Pair v4 w.heap.size a b ∧ Pair v4 (w.heap.size + 1) c d ∧ Pair v4 v1.heap.size p q ∧ Pair v4 v2.heap.size r s) := ⟨(G3.out.1).below hb, (G3.out.2.1).below hb, (G3.out.2.2.1).below hb, (G3.out.2.2.2).below hb⟩
  have bel4 := bel.trans (hb.mono bel.size)
  clear bel hb G3
  have bel := bel4
  clear bel4
  obtain ⟨f0_0, f0_1, _, _⟩ := (G4.out.1).facts
  obtain ⟨f1_0, f1_1, _, _⟩ := (G4.out.2.1).facts
  obtain ⟨f2_0, f2_1, _, _⟩ := (G4.out.2.2.1).facts
  obtain ⟨f3_0, f3_1, _, _⟩ := (G4.out.2.2.2).facts
  have l4_0 := (G4.out.1).lt
  have l4_1 := (G4.out.2.1).lt
  have l4_2 := (G4.out.2.2.1).lt
  have l4_3 := (G4.out.2.2.2).lt
  go_wp2_with fail
  refine (K5.out _).mono ?_
  rintro e v5 ⟨rfl, hb⟩
  clear f0_0 f0_1 f1_0 f1_1 f2_0 f2_1 f3_0 f3_1 l4_0 l4_1 l4_2 l4_3
  have G5 : Hid (Pair v5 w.heap.size a b ∧ Pair v5 (w.heap.size + 1) c d ∧ Pair v5 v1.heap.size p q ∧ Pair v5 v2.heap.size r s) := ⟨(G4.out.1).below hb, (G4.out.2.1).below hb, (G4.out.2.2.1).below hb, (G4.out.2.2.2).below hb⟩
  have bel5 := bel.trans (hb.mono bel.size)
  clear bel hb G4
  have bel := bel5
  clear bel5
  obtain ⟨f0_0, f0_1, _, _⟩ := (G5.out.1).facts
  obtain ⟨f1_0, f1_1, _, _⟩ := (G5.out.2.1).facts
  obtain ⟨f2_0, f2_1, _, _⟩ := (G5.out.2.2.1).facts
  obtain ⟨f3_0, f3_1, _, _⟩ := (G5.out.2.2.2).facts
  have l5_0 := (G5.out.1).lt
  have l5_1 := (G5.out.2.1).lt
  have l5_2 := (G5.out.2.2.1).lt
  have l5_3 := (G5.out.2.2.2).lt
  go_wp2_with fail
  refine (K6.out _).mono ?_
  rintro e v6 ⟨rfl, hb⟩
  clear f0_0 f0_1 f1_0 f1_1 f2_0 f2_1 f3_0 f3_1 l5_0 l5_1 l5_2 l5_3
  have G6 : Hid (Pair v6 w.heap.size a b ∧ Pair v6 (w.heap.size + 1) c d ∧ Pair v6 v1.heap.size p q ∧ Pair v6 v2.heap.size r s) := ⟨(G5.out.1).below hb, (G5.out.2.1).below hb, (G5.out.2.2.1).below hb, (G5.out.2.2.2).below hb⟩
  have bel6 := bel.trans (hb.mono bel.size)
  clear bel hb G5
  have bel := bel6
  clear bel6
  obtain ⟨f0_0, f0_1, _, _⟩ := (G6.out.1).facts
  obtain ⟨f1_0, f1_1, _, _⟩ := (G6.out.2.1).facts
  obtain ⟨f2_0, f2_1, _, _⟩ := (G6.out.2.2.1).facts
  obtain ⟨f3_0, f3_1, _, _⟩ := (G6.out.2.2.2).facts
  have l6_0 := (G6.out.1).lt
  have l6_1 := (G6.out.2.1).lt
  have l6_2 := (G6.out.2.2.1).lt
  have l6_3 := (G6.out.2.2.2).lt
  go_wp2_with fail
  refine (K7.out _).mono ?_
  rintro e v7 ⟨rfl, hb⟩
  clear K7
  clear f0_0 f0_1 f1_0 f1_1 f2_0 f2_1 f3_0 f3_1 l6_0 l6_1 l6_2 l6_3
  have G7 : Hid (Pair v7 w.heap.size a b ∧ Pair v7 (w.heap.size + 1) c d ∧ Pair v7 v1.heap.size p q ∧ Pair v7 v2.heap.size r s) := ⟨(G6.out.1).below hb, (G6.out.2.1).below hb, (G6.out.2.2.1).below hb, (G6.out.2.2.2).below hb⟩
  have bel7 := bel.trans (hb.mono bel.size)
  clear bel hb G6
  have bel := bel7
  clear bel7
  obtain ⟨f0_0, f0_1, _, _⟩ := (G7.out.1).facts
  obtain ⟨f1_0, f1_1, _, _⟩ := (G7.out.2.1).facts
  obtain ⟨f2_0, f2_1, _, _⟩ := (G7.out.2.2.1).facts
  obtain ⟨f3_0, f3_1, _, _⟩ := (G7.out.2.2.2).facts
  have l7_0 := (G7.out.1).lt
  have l7_1 := (G7.out.2.1).lt
  have l7_2 := (G7.out.2.2.1).lt
  have l7_3 := (G7.out.2.2.2).lt
  go_wp2_with fail
  refine (K5.out _).mono ?_
  rintro e v8 ⟨rfl, hb⟩
  clear K5
  clear f0_0 f0_1 f1_0 f1_1 f2_0 f2_1 f3_0 f3_1 l7_0 l7_1 l7_2 l7_3
  have G8 : Hid (Pair v8 w.heap.size a b ∧ Pair v8 (w.heap.size + 1) c d ∧ Pair v8 v1.heap.size p q ∧ Pair v8 v2.heap.size r s) := ⟨(G7.out.1).below hb, (G7.out.2.1).below hb, (G7.out.2.2.1).below hb, (G7.out.2.2.2).below hb⟩
  have bel8 := bel.trans (hb.mono bel.size)
  clear bel hb G7
  have bel := bel8
  clear bel8
  obtain ⟨f0_0, f0_1, _, _⟩ := (G8.out.1).facts
  obtain ⟨f1_0, f1_1, _, _⟩ := (G8.out.2.1).facts
  obtain ⟨f2_0, f2_1, _, _⟩ := (G8.out.2.2.1).facts
  obtain ⟨f3_0, f3_1, _, _⟩ := (G8.out.2.2.2).facts
  have l8_0 := (G8.out.1).lt
  have l8_1 := (G8.out.2.1).lt
  have l8_2 := (G8.out.2.2.1).lt
  have l8_3 := (G8.out.2.2.2).lt
  go_wp2_with fail
  refine (K8.out _).mono ?_
  rintro e v9 ⟨rfl, hb⟩
  clear K8
  clear f0_0 f0_1 f1_0 f1_1 f2_0 f2_1 f3_0 f3_1 l8_0 l8_1 l8_2 l8_3
  have G9 : Hid (Pair v9 w.heap.size a b ∧ Pair v9 (w.heap.size + 1) c d ∧ Pair v9 v1.heap.size p q ∧ Pair v9 v2.heap.size r s) := ⟨(G8.out.1).below hb, (G8.out.2.1).below hb, (G8.out.2.2.1).below hb, (G8.out.2.2.2).below hb⟩
  have bel9 := bel.trans (hb.mono bel.size)
  clear bel hb G8
  have bel := bel9
  clear bel9
  obtain ⟨f0_0, f0_1, _, _⟩ := (G9.out.1).facts
  obtain ⟨f1_0, f1_1, _, _⟩ := (G9.out.2.1).facts
  obtain ⟨f2_0, f2_1, _, _⟩ := (G9.out.2.2.1).facts
  obtain ⟨f3_0, f3_1, _, _⟩ := (G9.out.2.2.2).facts
  have l9_0 := (G9.out.1).lt
  have l9_1 := (G9.out.2.1).lt
  have l9_2 := (G9.out.2.2.1).lt
  have l9_3 := (G9.out.2.2.2).lt
  go_wp2_with fail
  refine (K9.out _).mono ?_
  rintro e v10 ⟨rfl, hb⟩
  clear K9
  clear f0_0 f0_1 f1_0 f1_1 f2_0 f2_1 f3_0 f3_1 l9_0 l9_1 l9_2 l9_3
  have G10 : Hid (Pair v10 w.heap.size a b ∧ Pair v10 (w.heap.size + 1) c d ∧ Pair v10 v1.heap.size p q ∧ Pair v10 v2.heap.size r s) := ⟨(G9.out.1).below hb, (G9.out.2.1).below hb, (G9.out.2.2.1).below hb, (G9.out.2.2.2).below hb⟩
  have bel10 := bel.trans (hb.mono bel.size)
  clear bel hb G9
  have bel := bel10
  clear bel10
  go_wp2
  go_ret
  exact ⟨by first | rfl | simp, bel⟩

set_option maxHeartbeats 3200000 in
set_option maxRecDepth 20000 in
theorem meets_tft (a b c d n : Int) (w : World) (h1 : rightB a b = true) (h2 : rightB c d = true) (h3 : rightB (mxN a c) (mnN b d) = true) (g1 : holdsB a b n = false) (g2 : holdsB c d n = true) : Calls Try.prog 6 #[.agg #[.int .i64 a, .int .i64 b], .agg #[.int .i64 c, .int .i64 d], .int .i64 n] w fun e w' => e = .returned (.bool true) ∧ Below w.heap.size w w' := by
  have K1 : Hid (∀ W, Calls Try.prog 9 #[.agg #[.int .i64 a, .int .i64 b], .agg #[.int .i64 c, .int .i64 d]] W fun e w' => e = .returned (.tuple #[.agg #[.int .i64 (mxN a c), .int .i64 (mnN b d)], .int .i64 0]) ∧ Below W.heap.size W w') := fun W => by have h := meets_ok W a b c d; rw [show meetV a b c d = okV (mxN a c) (mnN b d) from by rw [meetV, if_pos ⟨h1, h2⟩, if_pos h3], okV] at h; exact h
  have K2 : Hid (∀ W, Calls Try.prog 11 #[.agg #[.int .i64 a, .int .i64 b], .agg #[.int .i64 c, .int .i64 d]] W fun e w' => e = .returned (.tuple #[.agg #[.int .i64 (mnN a c), .int .i64 (mxN b d)], .int .i64 0]) ∧ Below W.heap.size W w') := fun W => by have h := hull_ok W a b c d; rw [show hullV a b c d = okV (mnN a c) (mxN b d) from if_pos ⟨h1, h2⟩, okV] at h; exact h
  have K3 : Hid (∀ W, Calls Try.prog 19 #[.agg #[.int .i64 a, .int .i64 b]] W fun e w' => e = .returned (.bool true) ∧ Below W.heap.size W w') := fun W => by have h := isright_ok W a b; rw [h1] at h; exact h
  have K4 : Hid (∀ W, Calls Try.prog 19 #[.agg #[.int .i64 c, .int .i64 d]] W fun e w' => e = .returned (.bool true) ∧ Below W.heap.size W w') := fun W => by have h := isright_ok W c d; rw [h2] at h; exact h
  have K5 : Hid (∀ W, Calls Try.prog 21 #[.agg #[.int .i64 a, .int .i64 b], .int .i64 n] W fun e w' => e = .returned (.bool false) ∧ Below W.heap.size W w') := fun W => by have h := holds_ok W a b n; rw [g1] at h; exact h
  have K6 : Hid (∀ W, Calls Try.prog 21 #[.agg #[.int .i64 c, .int .i64 d], .int .i64 n] W fun e w' => e = .returned (.bool true) ∧ Below W.heap.size W w') := fun W => by have h := holds_ok W c d n; rw [g2] at h; exact h
  have K7 : Hid (∀ W, Calls Try.prog 21 #[.agg #[.int .i64 (mxN a c), .int .i64 (mnN b d)], .int .i64 n] W fun e w' => e = .returned (.bool false) ∧ Below W.heap.size W w') := fun W => by have h := holds_ok W (mxN a c) (mnN b d) n; rw [meet_holds h1 h2 h3, g1, g2] at h; exact h
  have K8 : Hid (∀ W, Calls Try.prog 21 #[.agg #[.int .i64 (mnN a c), .int .i64 (mxN b d)], .int .i64 n] W fun e w' => e = .returned (.bool true) ∧ Below W.heap.size W w') := fun W => by have h := holds_ok W (mnN a c) (mxN b d) n; rw [hull_holds h1 h2 (.inr g2)] at h; exact h
  have K9 : Hid (∀ W, Calls Try.prog 25 #[] W fun e w' => e = .returned (.bool true) ∧ Below W.heap.size W w') := fun W => awake_ok W
  generalize mxN a c = p at *
  generalize mnN b d = q at *
  generalize mnN a c = r at *
  generalize mxN b d = s at *
  clear h1 h2 h3 g1 g2
  have HA : Hid (Pair ((w.alloc (.cells #[.int .i64 a, .int .i64 b] 23)).alloc (.cells #[.int .i64 c, .int .i64 d] 23)) w.heap.size a b ∧ Pair ((w.alloc (.cells #[.int .i64 a, .int .i64 b] 23)).alloc (.cells #[.int .i64 c, .int .i64 d] 23)) (w.heap.size + 1) c d) := two_boxes w a b c d
  have bel := Go.Joins.below_alloc2 w (.cells #[.int .i64 a, .int .i64 b] 23) (.cells #[.int .i64 c, .int .i64 d] 23)
  go_enter Try.func6, Try.ntmps6
  go_wp2_with fail
  refine (K1.out _).mono ?_
  rintro e v1 ⟨rfl, hb⟩
  clear K1
  have G1 : Hid (Pair v1 w.heap.size a b ∧ Pair v1 (w.heap.size + 1) c d) := ⟨(HA.out.1).below hb, (HA.out.2).below hb⟩
  have bel1 := bel.trans (hb.mono bel.size)
  clear bel hb HA
  have bel := bel1
  clear bel1
  obtain ⟨f0_0, f0_1, _, _⟩ := (G1.out.1).facts
  obtain ⟨f1_0, f1_1, _, _⟩ := (G1.out.2).facts
  have l1_0 := (G1.out.1).lt
  have l1_1 := (G1.out.2).lt
  have J1 : Hid (Pair (v1.alloc (.cells #[.int .i64 p, .int .i64 q] 23)) w.heap.size a b ∧ Pair (v1.alloc (.cells #[.int .i64 p, .int .i64 q] 23)) (w.heap.size + 1) c d ∧ Pair (v1.alloc (.cells #[.int .i64 p, .int .i64 q] 23)) v1.heap.size p q) := ⟨(G1.out.1).alloc _, (G1.out.2).alloc _, Pair.new v1 p q⟩
  have belJ := bel.alloc bel.size (.cells #[.int .i64 p, .int .i64 q] 23)
  clear bel G1
  have bel := belJ
  clear belJ
  go_wp2_with fail
  refine (K2.out _).mono ?_
  rintro e v2 ⟨rfl, hb⟩
  clear K2
  clear f0_0 f0_1 f1_0 f1_1 l1_0 l1_1
  have G2 : Hid (Pair v2 w.heap.size a b ∧ Pair v2 (w.heap.size + 1) c d ∧ Pair v2 v1.heap.size p q) := ⟨(J1.out.1).below hb, (J1.out.2.1).below hb, (J1.out.2.2).below hb⟩
  have bel2 := bel.trans (hb.mono bel.size)
  clear bel hb J1
  have bel := bel2
  clear bel2
  obtain ⟨f0_0, f0_1, _, _⟩ := (G2.out.1).facts
  obtain ⟨f1_0, f1_1, _, _⟩ := (G2.out.2.1).facts
  obtain ⟨f2_0, f2_1, _, _⟩ := (G2.out.2.2).facts
  have l2_0 := (G2.out.1).lt
  have l2_1 := (G2.out.2.1).lt
  have l2_2 := (G2.out.2.2).lt
  have J2 : Hid (Pair (v2.alloc (.cells #[.int .i64 r, .int .i64 s] 23)) w.heap.size a b ∧ Pair (v2.alloc (.cells #[.int .i64 r, .int .i64 s] 23)) (w.heap.size + 1) c d ∧ Pair (v2.alloc (.cells #[.int .i64 r, .int .i64 s] 23)) v1.heap.size p q ∧ Pair (v2.alloc (.cells #[.int .i64 r, .int .i64 s] 23)) v2.heap.size r s) := ⟨(G2.out.1).alloc _, (G2.out.2.1).alloc _, (G2.out.2.2).alloc _, Pair.new v2 r s⟩
  have belJ := bel.alloc bel.size (.cells #[.int .i64 r, .int .i64 s] 23)
  clear bel G2
  have bel := belJ
  clear belJ
  go_wp2_with fail
  refine (K3.out _).mono ?_
  rintro e v3 ⟨rfl, hb⟩
  clear K3
  clear f0_0 f0_1 f1_0 f1_1 f2_0 f2_1 l2_0 l2_1 l2_2
  have G3 : Hid (Pair v3 w.heap.size a b ∧ Pair v3 (w.heap.size + 1) c d ∧ Pair v3 v1.heap.size p q ∧ Pair v3 v2.heap.size r s) := ⟨(J2.out.1).below hb, (J2.out.2.1).below hb, (J2.out.2.2.1).below hb, (J2.out.2.2.2).below hb⟩
  have bel3 := bel.trans (hb.mono bel.size)
  clear bel hb J2
  have bel := bel3
  clear bel3
  obtain ⟨f0_0, f0_1, _, _⟩ := (G3.out.1).facts
  obtain ⟨f1_0, f1_1, _, _⟩ := (G3.out.2.1).facts
  obtain ⟨f2_0, f2_1, _, _⟩ := (G3.out.2.2.1).facts
  obtain ⟨f3_0, f3_1, _, _⟩ := (G3.out.2.2.2).facts
  have l3_0 := (G3.out.1).lt
  have l3_1 := (G3.out.2.1).lt
  have l3_2 := (G3.out.2.2.1).lt
  have l3_3 := (G3.out.2.2.2).lt
  go_wp2_with fail
  refine (K4.out _).mono ?_
  rintro e v4 ⟨rfl, hb⟩
  clear K4
  clear f0_0 f0_1 f1_0 f1_1 f2_0 f2_1 f3_0 f3_1 l3_0 l3_1 l3_2 l3_3
  have G4 : Hid (Pair v4 w.heap.size a b ∧ Pair v4 (w.heap.size + 1) c d ∧ Pair v4 v1.heap.size p q ∧ Pair v4 v2.heap.size r s) := ⟨(G3.out.1).below hb, (G3.out.2.1).below hb, (G3.out.2.2.1).below hb, (G3.out.2.2.2).below hb⟩
  have bel4 := bel.trans (hb.mono bel.size)
  clear bel hb G3
  have bel := bel4
  clear bel4
  obtain ⟨f0_0, f0_1, _, _⟩ := (G4.out.1).facts
  obtain ⟨f1_0, f1_1, _, _⟩ := (G4.out.2.1).facts
  obtain ⟨f2_0, f2_1, _, _⟩ := (G4.out.2.2.1).facts
  obtain ⟨f3_0, f3_1, _, _⟩ := (G4.out.2.2.2).facts
  have l4_0 := (G4.out.1).lt
  have l4_1 := (G4.out.2.1).lt
  have l4_2 := (G4.out.2.2.1).lt
  have l4_3 := (G4.out.2.2.2).lt
  go_wp2_with fail
  refine (K5.out _).mono ?_
  rintro e v5 ⟨rfl, hb⟩
  clear f0_0 f0_1 f1_0 f1_1 f2_0 f2_1 f3_0 f3_1 l4_0 l4_1 l4_2 l4_3
  have G5 : Hid (Pair v5 w.heap.size a b ∧ Pair v5 (w.heap.size + 1) c d ∧ Pair v5 v1.heap.size p q ∧ Pair v5 v2.heap.size r s) := ⟨(G4.out.1).below hb, (G4.out.2.1).below hb, (G4.out.2.2.1).below hb, (G4.out.2.2.2).below hb⟩
  have bel5 := bel.trans (hb.mono bel.size)
  clear bel hb G4
  have bel := bel5
  clear bel5
  obtain ⟨f0_0, f0_1, _, _⟩ := (G5.out.1).facts
  obtain ⟨f1_0, f1_1, _, _⟩ := (G5.out.2.1).facts
  obtain ⟨f2_0, f2_1, _, _⟩ := (G5.out.2.2.1).facts
  obtain ⟨f3_0, f3_1, _, _⟩ := (G5.out.2.2.2).facts
  have l5_0 := (G5.out.1).lt
  have l5_1 := (G5.out.2.1).lt
  have l5_2 := (G5.out.2.2.1).lt
  have l5_3 := (G5.out.2.2.2).lt
  go_wp2_with fail
  refine (K7.out _).mono ?_
  rintro e v6 ⟨rfl, hb⟩
  clear K7
  clear f0_0 f0_1 f1_0 f1_1 f2_0 f2_1 f3_0 f3_1 l5_0 l5_1 l5_2 l5_3
  have G6 : Hid (Pair v6 w.heap.size a b ∧ Pair v6 (w.heap.size + 1) c d ∧ Pair v6 v1.heap.size p q ∧ Pair v6 v2.heap.size r s) := ⟨(G5.out.1).below hb, (G5.out.2.1).below hb, (G5.out.2.2.1).below hb, (G5.out.2.2.2).below hb⟩
  have bel6 := bel.trans (hb.mono bel.size)
  clear bel hb G5
  have bel := bel6
  clear bel6
  obtain ⟨f0_0, f0_1, _, _⟩ := (G6.out.1).facts
  obtain ⟨f1_0, f1_1, _, _⟩ := (G6.out.2.1).facts
  obtain ⟨f2_0, f2_1, _, _⟩ := (G6.out.2.2.1).facts
  obtain ⟨f3_0, f3_1, _, _⟩ := (G6.out.2.2.2).facts
  have l6_0 := (G6.out.1).lt
  have l6_1 := (G6.out.2.1).lt
  have l6_2 := (G6.out.2.2.1).lt
  have l6_3 := (G6.out.2.2.2).lt
  go_wp2_with fail
  refine (K5.out _).mono ?_
  rintro e v7 ⟨rfl, hb⟩
  clear K5
  clear f0_0 f0_1 f1_0 f1_1 f2_0 f2_1 f3_0 f3_1 l6_0 l6_1 l6_2 l6_3
  have G7 : Hid (Pair v7 w.heap.size a b ∧ Pair v7 (w.heap.size + 1) c d ∧ Pair v7 v1.heap.size p q ∧ Pair v7 v2.heap.size r s) := ⟨(G6.out.1).below hb, (G6.out.2.1).below hb, (G6.out.2.2.1).below hb, (G6.out.2.2.2).below hb⟩
  have bel7 := bel.trans (hb.mono bel.size)
  clear bel hb G6
  have bel := bel7
  clear bel7
  obtain ⟨f0_0, f0_1, _, _⟩ := (G7.out.1).facts
  obtain ⟨f1_0, f1_1, _, _⟩ := (G7.out.2.1).facts
  obtain ⟨f2_0, f2_1, _, _⟩ := (G7.out.2.2.1).facts
  obtain ⟨f3_0, f3_1, _, _⟩ := (G7.out.2.2.2).facts
  have l7_0 := (G7.out.1).lt
  have l7_1 := (G7.out.2.1).lt
  have l7_2 := (G7.out.2.2.1).lt
  have l7_3 := (G7.out.2.2.2).lt
  go_wp2_with fail
  refine (K6.out _).mono ?_
  rintro e v8 ⟨rfl, hb⟩
  clear K6
  clear f0_0 f0_1 f1_0 f1_1 f2_0 f2_1 f3_0 f3_1 l7_0 l7_1 l7_2 l7_3
  have G8 : Hid (Pair v8 w.heap.size a b ∧ Pair v8 (w.heap.size + 1) c d ∧ Pair v8 v1.heap.size p q ∧ Pair v8 v2.heap.size r s) := ⟨(G7.out.1).below hb, (G7.out.2.1).below hb, (G7.out.2.2.1).below hb, (G7.out.2.2.2).below hb⟩
  have bel8 := bel.trans (hb.mono bel.size)
  clear bel hb G7
  have bel := bel8
  clear bel8
  obtain ⟨f0_0, f0_1, _, _⟩ := (G8.out.1).facts
  obtain ⟨f1_0, f1_1, _, _⟩ := (G8.out.2.1).facts
  obtain ⟨f2_0, f2_1, _, _⟩ := (G8.out.2.2.1).facts
  obtain ⟨f3_0, f3_1, _, _⟩ := (G8.out.2.2.2).facts
  have l8_0 := (G8.out.1).lt
  have l8_1 := (G8.out.2.1).lt
  have l8_2 := (G8.out.2.2.1).lt
  have l8_3 := (G8.out.2.2.2).lt
  go_wp2_with fail
  refine (K8.out _).mono ?_
  rintro e v9 ⟨rfl, hb⟩
  clear K8
  clear f0_0 f0_1 f1_0 f1_1 f2_0 f2_1 f3_0 f3_1 l8_0 l8_1 l8_2 l8_3
  have G9 : Hid (Pair v9 w.heap.size a b ∧ Pair v9 (w.heap.size + 1) c d ∧ Pair v9 v1.heap.size p q ∧ Pair v9 v2.heap.size r s) := ⟨(G8.out.1).below hb, (G8.out.2.1).below hb, (G8.out.2.2.1).below hb, (G8.out.2.2.2).below hb⟩
  have bel9 := bel.trans (hb.mono bel.size)
  clear bel hb G8
  have bel := bel9
  clear bel9
  obtain ⟨f0_0, f0_1, _, _⟩ := (G9.out.1).facts
  obtain ⟨f1_0, f1_1, _, _⟩ := (G9.out.2.1).facts
  obtain ⟨f2_0, f2_1, _, _⟩ := (G9.out.2.2.1).facts
  obtain ⟨f3_0, f3_1, _, _⟩ := (G9.out.2.2.2).facts
  have l9_0 := (G9.out.1).lt
  have l9_1 := (G9.out.2.1).lt
  have l9_2 := (G9.out.2.2.1).lt
  have l9_3 := (G9.out.2.2.2).lt
  go_wp2_with fail
  refine (K9.out _).mono ?_
  rintro e v10 ⟨rfl, hb⟩
  clear K9
  clear f0_0 f0_1 f1_0 f1_1 f2_0 f2_1 f3_0 f3_1 l9_0 l9_1 l9_2 l9_3
  have G10 : Hid (Pair v10 w.heap.size a b ∧ Pair v10 (w.heap.size + 1) c d ∧ Pair v10 v1.heap.size p q ∧ Pair v10 v2.heap.size r s) := ⟨(G9.out.1).below hb, (G9.out.2.1).below hb, (G9.out.2.2.1).below hb, (G9.out.2.2.2).below hb⟩
  have bel10 := bel.trans (hb.mono bel.size)
  clear bel hb G9
  have bel := bel10
  clear bel10
  go_wp2
  go_ret
  exact ⟨by first | rfl | simp, bel⟩

set_option maxHeartbeats 3200000 in
set_option maxRecDepth 20000 in
theorem meets_tff (a b c d n : Int) (w : World) (h1 : rightB a b = true) (h2 : rightB c d = true) (h3 : rightB (mxN a c) (mnN b d) = true) (g1 : holdsB a b n = false) (g2 : holdsB c d n = false) : Calls Try.prog 6 #[.agg #[.int .i64 a, .int .i64 b], .agg #[.int .i64 c, .int .i64 d], .int .i64 n] w fun e w' => e = .returned (.bool true) ∧ Below w.heap.size w w' := by
  have K1 : Hid (∀ W, Calls Try.prog 9 #[.agg #[.int .i64 a, .int .i64 b], .agg #[.int .i64 c, .int .i64 d]] W fun e w' => e = .returned (.tuple #[.agg #[.int .i64 (mxN a c), .int .i64 (mnN b d)], .int .i64 0]) ∧ Below W.heap.size W w') := fun W => by have h := meets_ok W a b c d; rw [show meetV a b c d = okV (mxN a c) (mnN b d) from by rw [meetV, if_pos ⟨h1, h2⟩, if_pos h3], okV] at h; exact h
  have K2 : Hid (∀ W, Calls Try.prog 11 #[.agg #[.int .i64 a, .int .i64 b], .agg #[.int .i64 c, .int .i64 d]] W fun e w' => e = .returned (.tuple #[.agg #[.int .i64 (mnN a c), .int .i64 (mxN b d)], .int .i64 0]) ∧ Below W.heap.size W w') := fun W => by have h := hull_ok W a b c d; rw [show hullV a b c d = okV (mnN a c) (mxN b d) from if_pos ⟨h1, h2⟩, okV] at h; exact h
  have K3 : Hid (∀ W, Calls Try.prog 19 #[.agg #[.int .i64 a, .int .i64 b]] W fun e w' => e = .returned (.bool true) ∧ Below W.heap.size W w') := fun W => by have h := isright_ok W a b; rw [h1] at h; exact h
  have K4 : Hid (∀ W, Calls Try.prog 19 #[.agg #[.int .i64 c, .int .i64 d]] W fun e w' => e = .returned (.bool true) ∧ Below W.heap.size W w') := fun W => by have h := isright_ok W c d; rw [h2] at h; exact h
  have K5 : Hid (∀ W, Calls Try.prog 21 #[.agg #[.int .i64 a, .int .i64 b], .int .i64 n] W fun e w' => e = .returned (.bool false) ∧ Below W.heap.size W w') := fun W => by have h := holds_ok W a b n; rw [g1] at h; exact h
  have K6 : Hid (∀ W, Calls Try.prog 21 #[.agg #[.int .i64 c, .int .i64 d], .int .i64 n] W fun e w' => e = .returned (.bool false) ∧ Below W.heap.size W w') := fun W => by have h := holds_ok W c d n; rw [g2] at h; exact h
  have K7 : Hid (∀ W, Calls Try.prog 21 #[.agg #[.int .i64 (mxN a c), .int .i64 (mnN b d)], .int .i64 n] W fun e w' => e = .returned (.bool false) ∧ Below W.heap.size W w') := fun W => by have h := holds_ok W (mxN a c) (mnN b d) n; rw [meet_holds h1 h2 h3, g1, g2] at h; exact h
  have K9 : Hid (∀ W, Calls Try.prog 25 #[] W fun e w' => e = .returned (.bool true) ∧ Below W.heap.size W w') := fun W => awake_ok W
  generalize mxN a c = p at *
  generalize mnN b d = q at *
  generalize mnN a c = r at *
  generalize mxN b d = s at *
  clear h1 h2 h3 g1 g2
  have HA : Hid (Pair ((w.alloc (.cells #[.int .i64 a, .int .i64 b] 23)).alloc (.cells #[.int .i64 c, .int .i64 d] 23)) w.heap.size a b ∧ Pair ((w.alloc (.cells #[.int .i64 a, .int .i64 b] 23)).alloc (.cells #[.int .i64 c, .int .i64 d] 23)) (w.heap.size + 1) c d) := two_boxes w a b c d
  have bel := Go.Joins.below_alloc2 w (.cells #[.int .i64 a, .int .i64 b] 23) (.cells #[.int .i64 c, .int .i64 d] 23)
  go_enter Try.func6, Try.ntmps6
  go_wp2_with fail
  refine (K1.out _).mono ?_
  rintro e v1 ⟨rfl, hb⟩
  clear K1
  have G1 : Hid (Pair v1 w.heap.size a b ∧ Pair v1 (w.heap.size + 1) c d) := ⟨(HA.out.1).below hb, (HA.out.2).below hb⟩
  have bel1 := bel.trans (hb.mono bel.size)
  clear bel hb HA
  have bel := bel1
  clear bel1
  obtain ⟨f0_0, f0_1, _, _⟩ := (G1.out.1).facts
  obtain ⟨f1_0, f1_1, _, _⟩ := (G1.out.2).facts
  have l1_0 := (G1.out.1).lt
  have l1_1 := (G1.out.2).lt
  have J1 : Hid (Pair (v1.alloc (.cells #[.int .i64 p, .int .i64 q] 23)) w.heap.size a b ∧ Pair (v1.alloc (.cells #[.int .i64 p, .int .i64 q] 23)) (w.heap.size + 1) c d ∧ Pair (v1.alloc (.cells #[.int .i64 p, .int .i64 q] 23)) v1.heap.size p q) := ⟨(G1.out.1).alloc _, (G1.out.2).alloc _, Pair.new v1 p q⟩
  have belJ := bel.alloc bel.size (.cells #[.int .i64 p, .int .i64 q] 23)
  clear bel G1
  have bel := belJ
  clear belJ
  go_wp2_with fail
  refine (K2.out _).mono ?_
  rintro e v2 ⟨rfl, hb⟩
  clear K2
  clear f0_0 f0_1 f1_0 f1_1 l1_0 l1_1
  have G2 : Hid (Pair v2 w.heap.size a b ∧ Pair v2 (w.heap.size + 1) c d ∧ Pair v2 v1.heap.size p q) := ⟨(J1.out.1).below hb, (J1.out.2.1).below hb, (J1.out.2.2).below hb⟩
  have bel2 := bel.trans (hb.mono bel.size)
  clear bel hb J1
  have bel := bel2
  clear bel2
  obtain ⟨f0_0, f0_1, _, _⟩ := (G2.out.1).facts
  obtain ⟨f1_0, f1_1, _, _⟩ := (G2.out.2.1).facts
  obtain ⟨f2_0, f2_1, _, _⟩ := (G2.out.2.2).facts
  have l2_0 := (G2.out.1).lt
  have l2_1 := (G2.out.2.1).lt
  have l2_2 := (G2.out.2.2).lt
  have J2 : Hid (Pair (v2.alloc (.cells #[.int .i64 r, .int .i64 s] 23)) w.heap.size a b ∧ Pair (v2.alloc (.cells #[.int .i64 r, .int .i64 s] 23)) (w.heap.size + 1) c d ∧ Pair (v2.alloc (.cells #[.int .i64 r, .int .i64 s] 23)) v1.heap.size p q ∧ Pair (v2.alloc (.cells #[.int .i64 r, .int .i64 s] 23)) v2.heap.size r s) := ⟨(G2.out.1).alloc _, (G2.out.2.1).alloc _, (G2.out.2.2).alloc _, Pair.new v2 r s⟩
  have belJ := bel.alloc bel.size (.cells #[.int .i64 r, .int .i64 s] 23)
  clear bel G2
  have bel := belJ
  clear belJ
  go_wp2_with fail
  refine (K3.out _).mono ?_
  rintro e v3 ⟨rfl, hb⟩
  clear K3
  clear f0_0 f0_1 f1_0 f1_1 f2_0 f2_1 l2_0 l2_1 l2_2
  have G3 : Hid (Pair v3 w.heap.size a b ∧ Pair v3 (w.heap.size + 1) c d ∧ Pair v3 v1.heap.size p q ∧ Pair v3 v2.heap.size r s) := ⟨(J2.out.1).below hb, (J2.out.2.1).below hb, (J2.out.2.2.1).below hb, (J2.out.2.2.2).below hb⟩
  have bel3 := bel.trans (hb.mono bel.size)
  clear bel hb J2
  have bel := bel3
  clear bel3
  obtain ⟨f0_0, f0_1, _, _⟩ := (G3.out.1).facts
  obtain ⟨f1_0, f1_1, _, _⟩ := (G3.out.2.1).facts
  obtain ⟨f2_0, f2_1, _, _⟩ := (G3.out.2.2.1).facts
  obtain ⟨f3_0, f3_1, _, _⟩ := (G3.out.2.2.2).facts
  have l3_0 := (G3.out.1).lt
  have l3_1 := (G3.out.2.1).lt
  have l3_2 := (G3.out.2.2.1).lt
  have l3_3 := (G3.out.2.2.2).lt
  go_wp2_with fail
  refine (K4.out _).mono ?_
  rintro e v4 ⟨rfl, hb⟩
  clear K4
  clear f0_0 f0_1 f1_0 f1_1 f2_0 f2_1 f3_0 f3_1 l3_0 l3_1 l3_2 l3_3
  have G4 : Hid (Pair v4 w.heap.size a b ∧ Pair v4 (w.heap.size + 1) c d ∧ Pair v4 v1.heap.size p q ∧ Pair v4 v2.heap.size r s) := ⟨(G3.out.1).below hb, (G3.out.2.1).below hb, (G3.out.2.2.1).below hb, (G3.out.2.2.2).below hb⟩
  have bel4 := bel.trans (hb.mono bel.size)
  clear bel hb G3
  have bel := bel4
  clear bel4
  obtain ⟨f0_0, f0_1, _, _⟩ := (G4.out.1).facts
  obtain ⟨f1_0, f1_1, _, _⟩ := (G4.out.2.1).facts
  obtain ⟨f2_0, f2_1, _, _⟩ := (G4.out.2.2.1).facts
  obtain ⟨f3_0, f3_1, _, _⟩ := (G4.out.2.2.2).facts
  have l4_0 := (G4.out.1).lt
  have l4_1 := (G4.out.2.1).lt
  have l4_2 := (G4.out.2.2.1).lt
  have l4_3 := (G4.out.2.2.2).lt
  go_wp2_with fail
  refine (K5.out _).mono ?_
  rintro e v5 ⟨rfl, hb⟩
  clear f0_0 f0_1 f1_0 f1_1 f2_0 f2_1 f3_0 f3_1 l4_0 l4_1 l4_2 l4_3
  have G5 : Hid (Pair v5 w.heap.size a b ∧ Pair v5 (w.heap.size + 1) c d ∧ Pair v5 v1.heap.size p q ∧ Pair v5 v2.heap.size r s) := ⟨(G4.out.1).below hb, (G4.out.2.1).below hb, (G4.out.2.2.1).below hb, (G4.out.2.2.2).below hb⟩
  have bel5 := bel.trans (hb.mono bel.size)
  clear bel hb G4
  have bel := bel5
  clear bel5
  obtain ⟨f0_0, f0_1, _, _⟩ := (G5.out.1).facts
  obtain ⟨f1_0, f1_1, _, _⟩ := (G5.out.2.1).facts
  obtain ⟨f2_0, f2_1, _, _⟩ := (G5.out.2.2.1).facts
  obtain ⟨f3_0, f3_1, _, _⟩ := (G5.out.2.2.2).facts
  have l5_0 := (G5.out.1).lt
  have l5_1 := (G5.out.2.1).lt
  have l5_2 := (G5.out.2.2.1).lt
  have l5_3 := (G5.out.2.2.2).lt
  go_wp2_with fail
  refine (K7.out _).mono ?_
  rintro e v6 ⟨rfl, hb⟩
  clear K7
  clear f0_0 f0_1 f1_0 f1_1 f2_0 f2_1 f3_0 f3_1 l5_0 l5_1 l5_2 l5_3
  have G6 : Hid (Pair v6 w.heap.size a b ∧ Pair v6 (w.heap.size + 1) c d ∧ Pair v6 v1.heap.size p q ∧ Pair v6 v2.heap.size r s) := ⟨(G5.out.1).below hb, (G5.out.2.1).below hb, (G5.out.2.2.1).below hb, (G5.out.2.2.2).below hb⟩
  have bel6 := bel.trans (hb.mono bel.size)
  clear bel hb G5
  have bel := bel6
  clear bel6
  obtain ⟨f0_0, f0_1, _, _⟩ := (G6.out.1).facts
  obtain ⟨f1_0, f1_1, _, _⟩ := (G6.out.2.1).facts
  obtain ⟨f2_0, f2_1, _, _⟩ := (G6.out.2.2.1).facts
  obtain ⟨f3_0, f3_1, _, _⟩ := (G6.out.2.2.2).facts
  have l6_0 := (G6.out.1).lt
  have l6_1 := (G6.out.2.1).lt
  have l6_2 := (G6.out.2.2.1).lt
  have l6_3 := (G6.out.2.2.2).lt
  go_wp2_with fail
  refine (K5.out _).mono ?_
  rintro e v7 ⟨rfl, hb⟩
  clear K5
  clear f0_0 f0_1 f1_0 f1_1 f2_0 f2_1 f3_0 f3_1 l6_0 l6_1 l6_2 l6_3
  have G7 : Hid (Pair v7 w.heap.size a b ∧ Pair v7 (w.heap.size + 1) c d ∧ Pair v7 v1.heap.size p q ∧ Pair v7 v2.heap.size r s) := ⟨(G6.out.1).below hb, (G6.out.2.1).below hb, (G6.out.2.2.1).below hb, (G6.out.2.2.2).below hb⟩
  have bel7 := bel.trans (hb.mono bel.size)
  clear bel hb G6
  have bel := bel7
  clear bel7
  obtain ⟨f0_0, f0_1, _, _⟩ := (G7.out.1).facts
  obtain ⟨f1_0, f1_1, _, _⟩ := (G7.out.2.1).facts
  obtain ⟨f2_0, f2_1, _, _⟩ := (G7.out.2.2.1).facts
  obtain ⟨f3_0, f3_1, _, _⟩ := (G7.out.2.2.2).facts
  have l7_0 := (G7.out.1).lt
  have l7_1 := (G7.out.2.1).lt
  have l7_2 := (G7.out.2.2.1).lt
  have l7_3 := (G7.out.2.2.2).lt
  go_wp2_with fail
  refine (K6.out _).mono ?_
  rintro e v8 ⟨rfl, hb⟩
  clear K6
  clear f0_0 f0_1 f1_0 f1_1 f2_0 f2_1 f3_0 f3_1 l7_0 l7_1 l7_2 l7_3
  have G8 : Hid (Pair v8 w.heap.size a b ∧ Pair v8 (w.heap.size + 1) c d ∧ Pair v8 v1.heap.size p q ∧ Pair v8 v2.heap.size r s) := ⟨(G7.out.1).below hb, (G7.out.2.1).below hb, (G7.out.2.2.1).below hb, (G7.out.2.2.2).below hb⟩
  have bel8 := bel.trans (hb.mono bel.size)
  clear bel hb G7
  have bel := bel8
  clear bel8
  obtain ⟨f0_0, f0_1, _, _⟩ := (G8.out.1).facts
  obtain ⟨f1_0, f1_1, _, _⟩ := (G8.out.2.1).facts
  obtain ⟨f2_0, f2_1, _, _⟩ := (G8.out.2.2.1).facts
  obtain ⟨f3_0, f3_1, _, _⟩ := (G8.out.2.2.2).facts
  have l8_0 := (G8.out.1).lt
  have l8_1 := (G8.out.2.1).lt
  have l8_2 := (G8.out.2.2.1).lt
  have l8_3 := (G8.out.2.2.2).lt
  go_wp2_with fail
  refine (K9.out _).mono ?_
  rintro e v9 ⟨rfl, hb⟩
  clear K9
  clear f0_0 f0_1 f1_0 f1_1 f2_0 f2_1 f3_0 f3_1 l8_0 l8_1 l8_2 l8_3
  have G9 : Hid (Pair v9 w.heap.size a b ∧ Pair v9 (w.heap.size + 1) c d ∧ Pair v9 v1.heap.size p q ∧ Pair v9 v2.heap.size r s) := ⟨(G8.out.1).below hb, (G8.out.2.1).below hb, (G8.out.2.2.1).below hb, (G8.out.2.2.2).below hb⟩
  have bel9 := bel.trans (hb.mono bel.size)
  clear bel hb G8
  have bel := bel9
  clear bel9
  go_wp2
  go_ret
  exact ⟨by first | rfl | simp, bel⟩

set_option maxHeartbeats 3200000 in
set_option maxRecDepth 20000 in
theorem meets_ftf (a b c d n : Int) (w : World) (h1 : rightB a b = true) (h2 : rightB c d = true) (h3 : rightB (mxN a c) (mnN b d) = false) (g1 : holdsB a b n = true) (g2 : holdsB c d n = false) : Calls Try.prog 6 #[.agg #[.int .i64 a, .int .i64 b], .agg #[.int .i64 c, .int .i64 d], .int .i64 n] w fun e w' => e = .returned (.bool true) ∧ Below w.heap.size w w' := by
  have K1 : Hid (∀ W, Calls Try.prog 9 #[.agg #[.int .i64 a, .int .i64 b], .agg #[.int .i64 c, .int .i64 d]] W fun e w' => e = .returned (.tuple #[.agg #[.int .i64 0, .int .i64 0], .int .i64 6]) ∧ Below W.heap.size W w') := fun W => by have h := meets_ok W a b c d; rw [show meetV a b c d = errV 6 from by rw [meetV, if_pos ⟨h1, h2⟩, if_neg (by rw [h3]; simp)], errV] at h; exact h
  have K2 : Hid (∀ W, Calls Try.prog 11 #[.agg #[.int .i64 a, .int .i64 b], .agg #[.int .i64 c, .int .i64 d]] W fun e w' => e = .returned (.tuple #[.agg #[.int .i64 (mnN a c), .int .i64 (mxN b d)], .int .i64 0]) ∧ Below W.heap.size W w') := fun W => by have h := hull_ok W a b c d; rw [show hullV a b c d = okV (mnN a c) (mxN b d) from if_pos ⟨h1, h2⟩, okV] at h; exact h
  have K3 : Hid (∀ W, Calls Try.prog 19 #[.agg #[.int .i64 a, .int .i64 b]] W fun e w' => e = .returned (.bool true) ∧ Below W.heap.size W w') := fun W => by have h := isright_ok W a b; rw [h1] at h; exact h
  have K4 : Hid (∀ W, Calls Try.prog 19 #[.agg #[.int .i64 c, .int .i64 d]] W fun e w' => e = .returned (.bool true) ∧ Below W.heap.size W w') := fun W => by have h := isright_ok W c d; rw [h2] at h; exact h
  have K5 : Hid (∀ W, Calls Try.prog 21 #[.agg #[.int .i64 a, .int .i64 b], .int .i64 n] W fun e w' => e = .returned (.bool true) ∧ Below W.heap.size W w') := fun W => by have h := holds_ok W a b n; rw [g1] at h; exact h
  have K6 : Hid (∀ W, Calls Try.prog 21 #[.agg #[.int .i64 c, .int .i64 d], .int .i64 n] W fun e w' => e = .returned (.bool false) ∧ Below W.heap.size W w') := fun W => by have h := holds_ok W c d n; rw [g2] at h; exact h
  have K8 : Hid (∀ W, Calls Try.prog 21 #[.agg #[.int .i64 (mnN a c), .int .i64 (mxN b d)], .int .i64 n] W fun e w' => e = .returned (.bool true) ∧ Below W.heap.size W w') := fun W => by have h := holds_ok W (mnN a c) (mxN b d) n; rw [hull_holds h1 h2 (.inl g1)] at h; exact h
  have K9 : Hid (∀ W, Calls Try.prog 25 #[] W fun e w' => e = .returned (.bool true) ∧ Below W.heap.size W w') := fun W => awake_ok W
  generalize mxN a c = p at *
  generalize mnN b d = q at *
  generalize mnN a c = r at *
  generalize mxN b d = s at *
  have hZ := eqSame 0 0
  clear h1 h2 h3 g1 g2
  have HA : Hid (Pair ((w.alloc (.cells #[.int .i64 a, .int .i64 b] 23)).alloc (.cells #[.int .i64 c, .int .i64 d] 23)) w.heap.size a b ∧ Pair ((w.alloc (.cells #[.int .i64 a, .int .i64 b] 23)).alloc (.cells #[.int .i64 c, .int .i64 d] 23)) (w.heap.size + 1) c d) := two_boxes w a b c d
  have bel := Go.Joins.below_alloc2 w (.cells #[.int .i64 a, .int .i64 b] 23) (.cells #[.int .i64 c, .int .i64 d] 23)
  go_enter Try.func6, Try.ntmps6
  go_wp2_with fail
  refine (K1.out _).mono ?_
  rintro e v1 ⟨rfl, hb⟩
  clear K1
  have G1 : Hid (Pair v1 w.heap.size a b ∧ Pair v1 (w.heap.size + 1) c d) := ⟨(HA.out.1).below hb, (HA.out.2).below hb⟩
  have bel1 := bel.trans (hb.mono bel.size)
  clear bel hb HA
  have bel := bel1
  clear bel1
  obtain ⟨f0_0, f0_1, _, _⟩ := (G1.out.1).facts
  obtain ⟨f1_0, f1_1, _, _⟩ := (G1.out.2).facts
  have l1_0 := (G1.out.1).lt
  have l1_1 := (G1.out.2).lt
  have J1 : Hid (Pair (v1.alloc (.cells #[.int .i64 0, .int .i64 0] 23)) w.heap.size a b ∧ Pair (v1.alloc (.cells #[.int .i64 0, .int .i64 0] 23)) (w.heap.size + 1) c d ∧ Pair (v1.alloc (.cells #[.int .i64 0, .int .i64 0] 23)) v1.heap.size 0 0) := ⟨(G1.out.1).alloc _, (G1.out.2).alloc _, Pair.new v1 0 0⟩
  have belJ := bel.alloc bel.size (.cells #[.int .i64 0, .int .i64 0] 23)
  clear bel G1
  have bel := belJ
  clear belJ
  go_wp2_with fail
  refine (K2.out _).mono ?_
  rintro e v2 ⟨rfl, hb⟩
  clear K2
  clear f0_0 f0_1 f1_0 f1_1 l1_0 l1_1
  have G2 : Hid (Pair v2 w.heap.size a b ∧ Pair v2 (w.heap.size + 1) c d ∧ Pair v2 v1.heap.size 0 0) := ⟨(J1.out.1).below hb, (J1.out.2.1).below hb, (J1.out.2.2).below hb⟩
  have bel2 := bel.trans (hb.mono bel.size)
  clear bel hb J1
  have bel := bel2
  clear bel2
  obtain ⟨f0_0, f0_1, _, _⟩ := (G2.out.1).facts
  obtain ⟨f1_0, f1_1, _, _⟩ := (G2.out.2.1).facts
  obtain ⟨f2_0, f2_1, _, _⟩ := (G2.out.2.2).facts
  have l2_0 := (G2.out.1).lt
  have l2_1 := (G2.out.2.1).lt
  have l2_2 := (G2.out.2.2).lt
  have J2 : Hid (Pair (v2.alloc (.cells #[.int .i64 r, .int .i64 s] 23)) w.heap.size a b ∧ Pair (v2.alloc (.cells #[.int .i64 r, .int .i64 s] 23)) (w.heap.size + 1) c d ∧ Pair (v2.alloc (.cells #[.int .i64 r, .int .i64 s] 23)) v1.heap.size 0 0 ∧ Pair (v2.alloc (.cells #[.int .i64 r, .int .i64 s] 23)) v2.heap.size r s) := ⟨(G2.out.1).alloc _, (G2.out.2.1).alloc _, (G2.out.2.2).alloc _, Pair.new v2 r s⟩
  have belJ := bel.alloc bel.size (.cells #[.int .i64 r, .int .i64 s] 23)
  clear bel G2
  have bel := belJ
  clear belJ
  go_wp2_with fail
  refine (K3.out _).mono ?_
  rintro e v3 ⟨rfl, hb⟩
  clear K3
  clear f0_0 f0_1 f1_0 f1_1 f2_0 f2_1 l2_0 l2_1 l2_2
  have G3 : Hid (Pair v3 w.heap.size a b ∧ Pair v3 (w.heap.size + 1) c d ∧ Pair v3 v1.heap.size 0 0 ∧ Pair v3 v2.heap.size r s) := ⟨(J2.out.1).below hb, (J2.out.2.1).below hb, (J2.out.2.2.1).below hb, (J2.out.2.2.2).below hb⟩
  have bel3 := bel.trans (hb.mono bel.size)
  clear bel hb J2
  have bel := bel3
  clear bel3
  obtain ⟨f0_0, f0_1, _, _⟩ := (G3.out.1).facts
  obtain ⟨f1_0, f1_1, _, _⟩ := (G3.out.2.1).facts
  obtain ⟨f2_0, f2_1, _, _⟩ := (G3.out.2.2.1).facts
  obtain ⟨f3_0, f3_1, _, _⟩ := (G3.out.2.2.2).facts
  have l3_0 := (G3.out.1).lt
  have l3_1 := (G3.out.2.1).lt
  have l3_2 := (G3.out.2.2.1).lt
  have l3_3 := (G3.out.2.2.2).lt
  go_wp2_with fail
  refine (K4.out _).mono ?_
  rintro e v4 ⟨rfl, hb⟩
  clear K4
  clear f0_0 f0_1 f1_0 f1_1 f2_0 f2_1 f3_0 f3_1 l3_0 l3_1 l3_2 l3_3
  have G4 : Hid (Pair v4 w.heap.size a b ∧ Pair v4 (w.heap.size + 1) c d ∧ Pair v4 v1.heap.size 0 0 ∧ Pair v4 v2.heap.size r s) := ⟨(G3.out.1).below hb, (G3.out.2.1).below hb, (G3.out.2.2.1).below hb, (G3.out.2.2.2).below hb⟩
  have bel4 := bel.trans (hb.mono bel.size)
  clear bel hb G3
  have bel := bel4
  clear bel4
  obtain ⟨f0_0, f0_1, _, _⟩ := (G4.out.1).facts
  obtain ⟨f1_0, f1_1, _, _⟩ := (G4.out.2.1).facts
  obtain ⟨f2_0, f2_1, _, _⟩ := (G4.out.2.2.1).facts
  obtain ⟨f3_0, f3_1, _, _⟩ := (G4.out.2.2.2).facts
  have l4_0 := (G4.out.1).lt
  have l4_1 := (G4.out.2.1).lt
  have l4_2 := (G4.out.2.2.1).lt
  have l4_3 := (G4.out.2.2.2).lt
  go_wp2_with fail
  refine (K5.out _).mono ?_
  rintro e v5 ⟨rfl, hb⟩
  clear f0_0 f0_1 f1_0 f1_1 f2_0 f2_1 f3_0 f3_1 l4_0 l4_1 l4_2 l4_3
  have G5 : Hid (Pair v5 w.heap.size a b ∧ Pair v5 (w.heap.size + 1) c d ∧ Pair v5 v1.heap.size 0 0 ∧ Pair v5 v2.heap.size r s) := ⟨(G4.out.1).below hb, (G4.out.2.1).below hb, (G4.out.2.2.1).below hb, (G4.out.2.2.2).below hb⟩
  have bel5 := bel.trans (hb.mono bel.size)
  clear bel hb G4
  have bel := bel5
  clear bel5
  obtain ⟨f0_0, f0_1, _, _⟩ := (G5.out.1).facts
  obtain ⟨f1_0, f1_1, _, _⟩ := (G5.out.2.1).facts
  obtain ⟨f2_0, f2_1, _, _⟩ := (G5.out.2.2.1).facts
  obtain ⟨f3_0, f3_1, _, _⟩ := (G5.out.2.2.2).facts
  have l5_0 := (G5.out.1).lt
  have l5_1 := (G5.out.2.1).lt
  have l5_2 := (G5.out.2.2.1).lt
  have l5_3 := (G5.out.2.2.2).lt
  go_wp2_with fail
  refine (K6.out _).mono ?_
  rintro e v6 ⟨rfl, hb⟩
  clear f0_0 f0_1 f1_0 f1_1 f2_0 f2_1 f3_0 f3_1 l5_0 l5_1 l5_2 l5_3
  have G6 : Hid (Pair v6 w.heap.size a b ∧ Pair v6 (w.heap.size + 1) c d ∧ Pair v6 v1.heap.size 0 0 ∧ Pair v6 v2.heap.size r s) := ⟨(G5.out.1).below hb, (G5.out.2.1).below hb, (G5.out.2.2.1).below hb, (G5.out.2.2.2).below hb⟩
  have bel6 := bel.trans (hb.mono bel.size)
  clear bel hb G5
  have bel := bel6
  clear bel6
  obtain ⟨f0_0, f0_1, _, _⟩ := (G6.out.1).facts
  obtain ⟨f1_0, f1_1, _, _⟩ := (G6.out.2.1).facts
  obtain ⟨f2_0, f2_1, _, _⟩ := (G6.out.2.2.1).facts
  obtain ⟨f3_0, f3_1, _, _⟩ := (G6.out.2.2.2).facts
  have l6_0 := (G6.out.1).lt
  have l6_1 := (G6.out.2.1).lt
  have l6_2 := (G6.out.2.2.1).lt
  have l6_3 := (G6.out.2.2.2).lt
  go_wp2_with fail
  refine (K5.out _).mono ?_
  rintro e v7 ⟨rfl, hb⟩
  clear K5
  clear f0_0 f0_1 f1_0 f1_1 f2_0 f2_1 f3_0 f3_1 l6_0 l6_1 l6_2 l6_3
  have G7 : Hid (Pair v7 w.heap.size a b ∧ Pair v7 (w.heap.size + 1) c d ∧ Pair v7 v1.heap.size 0 0 ∧ Pair v7 v2.heap.size r s) := ⟨(G6.out.1).below hb, (G6.out.2.1).below hb, (G6.out.2.2.1).below hb, (G6.out.2.2.2).below hb⟩
  have bel7 := bel.trans (hb.mono bel.size)
  clear bel hb G6
  have bel := bel7
  clear bel7
  obtain ⟨f0_0, f0_1, _, _⟩ := (G7.out.1).facts
  obtain ⟨f1_0, f1_1, _, _⟩ := (G7.out.2.1).facts
  obtain ⟨f2_0, f2_1, _, _⟩ := (G7.out.2.2.1).facts
  obtain ⟨f3_0, f3_1, _, _⟩ := (G7.out.2.2.2).facts
  have l7_0 := (G7.out.1).lt
  have l7_1 := (G7.out.2.1).lt
  have l7_2 := (G7.out.2.2.1).lt
  have l7_3 := (G7.out.2.2.2).lt
  go_wp2_with fail
  refine (K8.out _).mono ?_
  rintro e v8 ⟨rfl, hb⟩
  clear K8
  clear f0_0 f0_1 f1_0 f1_1 f2_0 f2_1 f3_0 f3_1 l7_0 l7_1 l7_2 l7_3
  have G8 : Hid (Pair v8 w.heap.size a b ∧ Pair v8 (w.heap.size + 1) c d ∧ Pair v8 v1.heap.size 0 0 ∧ Pair v8 v2.heap.size r s) := ⟨(G7.out.1).below hb, (G7.out.2.1).below hb, (G7.out.2.2.1).below hb, (G7.out.2.2.2).below hb⟩
  have bel8 := bel.trans (hb.mono bel.size)
  clear bel hb G7
  have bel := bel8
  clear bel8
  obtain ⟨f0_0, f0_1, _, _⟩ := (G8.out.1).facts
  obtain ⟨f1_0, f1_1, _, _⟩ := (G8.out.2.1).facts
  obtain ⟨f2_0, f2_1, _, _⟩ := (G8.out.2.2.1).facts
  obtain ⟨f3_0, f3_1, _, _⟩ := (G8.out.2.2.2).facts
  have l8_0 := (G8.out.1).lt
  have l8_1 := (G8.out.2.1).lt
  have l8_2 := (G8.out.2.2.1).lt
  have l8_3 := (G8.out.2.2.2).lt
  go_wp2_with fail
  refine (K9.out _).mono ?_
  rintro e v9 ⟨rfl, hb⟩
  clear K9
  clear f0_0 f0_1 f1_0 f1_1 f2_0 f2_1 f3_0 f3_1 l8_0 l8_1 l8_2 l8_3
  have G9 : Hid (Pair v9 w.heap.size a b ∧ Pair v9 (w.heap.size + 1) c d ∧ Pair v9 v1.heap.size 0 0 ∧ Pair v9 v2.heap.size r s) := ⟨(G8.out.1).below hb, (G8.out.2.1).below hb, (G8.out.2.2.1).below hb, (G8.out.2.2.2).below hb⟩
  have bel9 := bel.trans (hb.mono bel.size)
  clear bel hb G8
  have bel := bel9
  clear bel9
  go_wp2
  go_ret
  exact ⟨by first | rfl | simp, bel⟩

set_option maxHeartbeats 3200000 in
set_option maxRecDepth 20000 in
theorem meets_fft (a b c d n : Int) (w : World) (h1 : rightB a b = true) (h2 : rightB c d = true) (h3 : rightB (mxN a c) (mnN b d) = false) (g1 : holdsB a b n = false) (g2 : holdsB c d n = true) : Calls Try.prog 6 #[.agg #[.int .i64 a, .int .i64 b], .agg #[.int .i64 c, .int .i64 d], .int .i64 n] w fun e w' => e = .returned (.bool true) ∧ Below w.heap.size w w' := by
  have K1 : Hid (∀ W, Calls Try.prog 9 #[.agg #[.int .i64 a, .int .i64 b], .agg #[.int .i64 c, .int .i64 d]] W fun e w' => e = .returned (.tuple #[.agg #[.int .i64 0, .int .i64 0], .int .i64 6]) ∧ Below W.heap.size W w') := fun W => by have h := meets_ok W a b c d; rw [show meetV a b c d = errV 6 from by rw [meetV, if_pos ⟨h1, h2⟩, if_neg (by rw [h3]; simp)], errV] at h; exact h
  have K2 : Hid (∀ W, Calls Try.prog 11 #[.agg #[.int .i64 a, .int .i64 b], .agg #[.int .i64 c, .int .i64 d]] W fun e w' => e = .returned (.tuple #[.agg #[.int .i64 (mnN a c), .int .i64 (mxN b d)], .int .i64 0]) ∧ Below W.heap.size W w') := fun W => by have h := hull_ok W a b c d; rw [show hullV a b c d = okV (mnN a c) (mxN b d) from if_pos ⟨h1, h2⟩, okV] at h; exact h
  have K3 : Hid (∀ W, Calls Try.prog 19 #[.agg #[.int .i64 a, .int .i64 b]] W fun e w' => e = .returned (.bool true) ∧ Below W.heap.size W w') := fun W => by have h := isright_ok W a b; rw [h1] at h; exact h
  have K4 : Hid (∀ W, Calls Try.prog 19 #[.agg #[.int .i64 c, .int .i64 d]] W fun e w' => e = .returned (.bool true) ∧ Below W.heap.size W w') := fun W => by have h := isright_ok W c d; rw [h2] at h; exact h
  have K5 : Hid (∀ W, Calls Try.prog 21 #[.agg #[.int .i64 a, .int .i64 b], .int .i64 n] W fun e w' => e = .returned (.bool false) ∧ Below W.heap.size W w') := fun W => by have h := holds_ok W a b n; rw [g1] at h; exact h
  have K6 : Hid (∀ W, Calls Try.prog 21 #[.agg #[.int .i64 c, .int .i64 d], .int .i64 n] W fun e w' => e = .returned (.bool true) ∧ Below W.heap.size W w') := fun W => by have h := holds_ok W c d n; rw [g2] at h; exact h
  have K8 : Hid (∀ W, Calls Try.prog 21 #[.agg #[.int .i64 (mnN a c), .int .i64 (mxN b d)], .int .i64 n] W fun e w' => e = .returned (.bool true) ∧ Below W.heap.size W w') := fun W => by have h := holds_ok W (mnN a c) (mxN b d) n; rw [hull_holds h1 h2 (.inr g2)] at h; exact h
  have K9 : Hid (∀ W, Calls Try.prog 25 #[] W fun e w' => e = .returned (.bool true) ∧ Below W.heap.size W w') := fun W => awake_ok W
  generalize mxN a c = p at *
  generalize mnN b d = q at *
  generalize mnN a c = r at *
  generalize mxN b d = s at *
  have hZ := eqSame 0 0
  clear h1 h2 h3 g1 g2
  have HA : Hid (Pair ((w.alloc (.cells #[.int .i64 a, .int .i64 b] 23)).alloc (.cells #[.int .i64 c, .int .i64 d] 23)) w.heap.size a b ∧ Pair ((w.alloc (.cells #[.int .i64 a, .int .i64 b] 23)).alloc (.cells #[.int .i64 c, .int .i64 d] 23)) (w.heap.size + 1) c d) := two_boxes w a b c d
  have bel := Go.Joins.below_alloc2 w (.cells #[.int .i64 a, .int .i64 b] 23) (.cells #[.int .i64 c, .int .i64 d] 23)
  go_enter Try.func6, Try.ntmps6
  go_wp2_with fail
  refine (K1.out _).mono ?_
  rintro e v1 ⟨rfl, hb⟩
  clear K1
  have G1 : Hid (Pair v1 w.heap.size a b ∧ Pair v1 (w.heap.size + 1) c d) := ⟨(HA.out.1).below hb, (HA.out.2).below hb⟩
  have bel1 := bel.trans (hb.mono bel.size)
  clear bel hb HA
  have bel := bel1
  clear bel1
  obtain ⟨f0_0, f0_1, _, _⟩ := (G1.out.1).facts
  obtain ⟨f1_0, f1_1, _, _⟩ := (G1.out.2).facts
  have l1_0 := (G1.out.1).lt
  have l1_1 := (G1.out.2).lt
  have J1 : Hid (Pair (v1.alloc (.cells #[.int .i64 0, .int .i64 0] 23)) w.heap.size a b ∧ Pair (v1.alloc (.cells #[.int .i64 0, .int .i64 0] 23)) (w.heap.size + 1) c d ∧ Pair (v1.alloc (.cells #[.int .i64 0, .int .i64 0] 23)) v1.heap.size 0 0) := ⟨(G1.out.1).alloc _, (G1.out.2).alloc _, Pair.new v1 0 0⟩
  have belJ := bel.alloc bel.size (.cells #[.int .i64 0, .int .i64 0] 23)
  clear bel G1
  have bel := belJ
  clear belJ
  go_wp2_with fail
  refine (K2.out _).mono ?_
  rintro e v2 ⟨rfl, hb⟩
  clear K2
  clear f0_0 f0_1 f1_0 f1_1 l1_0 l1_1
  have G2 : Hid (Pair v2 w.heap.size a b ∧ Pair v2 (w.heap.size + 1) c d ∧ Pair v2 v1.heap.size 0 0) := ⟨(J1.out.1).below hb, (J1.out.2.1).below hb, (J1.out.2.2).below hb⟩
  have bel2 := bel.trans (hb.mono bel.size)
  clear bel hb J1
  have bel := bel2
  clear bel2
  obtain ⟨f0_0, f0_1, _, _⟩ := (G2.out.1).facts
  obtain ⟨f1_0, f1_1, _, _⟩ := (G2.out.2.1).facts
  obtain ⟨f2_0, f2_1, _, _⟩ := (G2.out.2.2).facts
  have l2_0 := (G2.out.1).lt
  have l2_1 := (G2.out.2.1).lt
  have l2_2 := (G2.out.2.2).lt
  have J2 : Hid (Pair (v2.alloc (.cells #[.int .i64 r, .int .i64 s] 23)) w.heap.size a b ∧ Pair (v2.alloc (.cells #[.int .i64 r, .int .i64 s] 23)) (w.heap.size + 1) c d ∧ Pair (v2.alloc (.cells #[.int .i64 r, .int .i64 s] 23)) v1.heap.size 0 0 ∧ Pair (v2.alloc (.cells #[.int .i64 r, .int .i64 s] 23)) v2.heap.size r s) := ⟨(G2.out.1).alloc _, (G2.out.2.1).alloc _, (G2.out.2.2).alloc _, Pair.new v2 r s⟩
  have belJ := bel.alloc bel.size (.cells #[.int .i64 r, .int .i64 s] 23)
  clear bel G2
  have bel := belJ
  clear belJ
  go_wp2_with fail
  refine (K3.out _).mono ?_
  rintro e v3 ⟨rfl, hb⟩
  clear K3
  clear f0_0 f0_1 f1_0 f1_1 f2_0 f2_1 l2_0 l2_1 l2_2
  have G3 : Hid (Pair v3 w.heap.size a b ∧ Pair v3 (w.heap.size + 1) c d ∧ Pair v3 v1.heap.size 0 0 ∧ Pair v3 v2.heap.size r s) := ⟨(J2.out.1).below hb, (J2.out.2.1).below hb, (J2.out.2.2.1).below hb, (J2.out.2.2.2).below hb⟩
  have bel3 := bel.trans (hb.mono bel.size)
  clear bel hb J2
  have bel := bel3
  clear bel3
  obtain ⟨f0_0, f0_1, _, _⟩ := (G3.out.1).facts
  obtain ⟨f1_0, f1_1, _, _⟩ := (G3.out.2.1).facts
  obtain ⟨f2_0, f2_1, _, _⟩ := (G3.out.2.2.1).facts
  obtain ⟨f3_0, f3_1, _, _⟩ := (G3.out.2.2.2).facts
  have l3_0 := (G3.out.1).lt
  have l3_1 := (G3.out.2.1).lt
  have l3_2 := (G3.out.2.2.1).lt
  have l3_3 := (G3.out.2.2.2).lt
  go_wp2_with fail
  refine (K4.out _).mono ?_
  rintro e v4 ⟨rfl, hb⟩
  clear K4
  clear f0_0 f0_1 f1_0 f1_1 f2_0 f2_1 f3_0 f3_1 l3_0 l3_1 l3_2 l3_3
  have G4 : Hid (Pair v4 w.heap.size a b ∧ Pair v4 (w.heap.size + 1) c d ∧ Pair v4 v1.heap.size 0 0 ∧ Pair v4 v2.heap.size r s) := ⟨(G3.out.1).below hb, (G3.out.2.1).below hb, (G3.out.2.2.1).below hb, (G3.out.2.2.2).below hb⟩
  have bel4 := bel.trans (hb.mono bel.size)
  clear bel hb G3
  have bel := bel4
  clear bel4
  obtain ⟨f0_0, f0_1, _, _⟩ := (G4.out.1).facts
  obtain ⟨f1_0, f1_1, _, _⟩ := (G4.out.2.1).facts
  obtain ⟨f2_0, f2_1, _, _⟩ := (G4.out.2.2.1).facts
  obtain ⟨f3_0, f3_1, _, _⟩ := (G4.out.2.2.2).facts
  have l4_0 := (G4.out.1).lt
  have l4_1 := (G4.out.2.1).lt
  have l4_2 := (G4.out.2.2.1).lt
  have l4_3 := (G4.out.2.2.2).lt
  go_wp2_with fail
  refine (K5.out _).mono ?_
  rintro e v5 ⟨rfl, hb⟩
  clear f0_0 f0_1 f1_0 f1_1 f2_0 f2_1 f3_0 f3_1 l4_0 l4_1 l4_2 l4_3
  have G5 : Hid (Pair v5 w.heap.size a b ∧ Pair v5 (w.heap.size + 1) c d ∧ Pair v5 v1.heap.size 0 0 ∧ Pair v5 v2.heap.size r s) := ⟨(G4.out.1).below hb, (G4.out.2.1).below hb, (G4.out.2.2.1).below hb, (G4.out.2.2.2).below hb⟩
  have bel5 := bel.trans (hb.mono bel.size)
  clear bel hb G4
  have bel := bel5
  clear bel5
  obtain ⟨f0_0, f0_1, _, _⟩ := (G5.out.1).facts
  obtain ⟨f1_0, f1_1, _, _⟩ := (G5.out.2.1).facts
  obtain ⟨f2_0, f2_1, _, _⟩ := (G5.out.2.2.1).facts
  obtain ⟨f3_0, f3_1, _, _⟩ := (G5.out.2.2.2).facts
  have l5_0 := (G5.out.1).lt
  have l5_1 := (G5.out.2.1).lt
  have l5_2 := (G5.out.2.2.1).lt
  have l5_3 := (G5.out.2.2.2).lt
  go_wp2_with fail
  refine (K5.out _).mono ?_
  rintro e v6 ⟨rfl, hb⟩
  clear K5
  clear f0_0 f0_1 f1_0 f1_1 f2_0 f2_1 f3_0 f3_1 l5_0 l5_1 l5_2 l5_3
  have G6 : Hid (Pair v6 w.heap.size a b ∧ Pair v6 (w.heap.size + 1) c d ∧ Pair v6 v1.heap.size 0 0 ∧ Pair v6 v2.heap.size r s) := ⟨(G5.out.1).below hb, (G5.out.2.1).below hb, (G5.out.2.2.1).below hb, (G5.out.2.2.2).below hb⟩
  have bel6 := bel.trans (hb.mono bel.size)
  clear bel hb G5
  have bel := bel6
  clear bel6
  obtain ⟨f0_0, f0_1, _, _⟩ := (G6.out.1).facts
  obtain ⟨f1_0, f1_1, _, _⟩ := (G6.out.2.1).facts
  obtain ⟨f2_0, f2_1, _, _⟩ := (G6.out.2.2.1).facts
  obtain ⟨f3_0, f3_1, _, _⟩ := (G6.out.2.2.2).facts
  have l6_0 := (G6.out.1).lt
  have l6_1 := (G6.out.2.1).lt
  have l6_2 := (G6.out.2.2.1).lt
  have l6_3 := (G6.out.2.2.2).lt
  go_wp2_with fail
  refine (K6.out _).mono ?_
  rintro e v7 ⟨rfl, hb⟩
  clear K6
  clear f0_0 f0_1 f1_0 f1_1 f2_0 f2_1 f3_0 f3_1 l6_0 l6_1 l6_2 l6_3
  have G7 : Hid (Pair v7 w.heap.size a b ∧ Pair v7 (w.heap.size + 1) c d ∧ Pair v7 v1.heap.size 0 0 ∧ Pair v7 v2.heap.size r s) := ⟨(G6.out.1).below hb, (G6.out.2.1).below hb, (G6.out.2.2.1).below hb, (G6.out.2.2.2).below hb⟩
  have bel7 := bel.trans (hb.mono bel.size)
  clear bel hb G6
  have bel := bel7
  clear bel7
  obtain ⟨f0_0, f0_1, _, _⟩ := (G7.out.1).facts
  obtain ⟨f1_0, f1_1, _, _⟩ := (G7.out.2.1).facts
  obtain ⟨f2_0, f2_1, _, _⟩ := (G7.out.2.2.1).facts
  obtain ⟨f3_0, f3_1, _, _⟩ := (G7.out.2.2.2).facts
  have l7_0 := (G7.out.1).lt
  have l7_1 := (G7.out.2.1).lt
  have l7_2 := (G7.out.2.2.1).lt
  have l7_3 := (G7.out.2.2.2).lt
  go_wp2_with fail
  refine (K8.out _).mono ?_
  rintro e v8 ⟨rfl, hb⟩
  clear K8
  clear f0_0 f0_1 f1_0 f1_1 f2_0 f2_1 f3_0 f3_1 l7_0 l7_1 l7_2 l7_3
  have G8 : Hid (Pair v8 w.heap.size a b ∧ Pair v8 (w.heap.size + 1) c d ∧ Pair v8 v1.heap.size 0 0 ∧ Pair v8 v2.heap.size r s) := ⟨(G7.out.1).below hb, (G7.out.2.1).below hb, (G7.out.2.2.1).below hb, (G7.out.2.2.2).below hb⟩
  have bel8 := bel.trans (hb.mono bel.size)
  clear bel hb G7
  have bel := bel8
  clear bel8
  obtain ⟨f0_0, f0_1, _, _⟩ := (G8.out.1).facts
  obtain ⟨f1_0, f1_1, _, _⟩ := (G8.out.2.1).facts
  obtain ⟨f2_0, f2_1, _, _⟩ := (G8.out.2.2.1).facts
  obtain ⟨f3_0, f3_1, _, _⟩ := (G8.out.2.2.2).facts
  have l8_0 := (G8.out.1).lt
  have l8_1 := (G8.out.2.1).lt
  have l8_2 := (G8.out.2.2.1).lt
  have l8_3 := (G8.out.2.2.2).lt
  go_wp2_with fail
  refine (K9.out _).mono ?_
  rintro e v9 ⟨rfl, hb⟩
  clear K9
  clear f0_0 f0_1 f1_0 f1_1 f2_0 f2_1 f3_0 f3_1 l8_0 l8_1 l8_2 l8_3
  have G9 : Hid (Pair v9 w.heap.size a b ∧ Pair v9 (w.heap.size + 1) c d ∧ Pair v9 v1.heap.size 0 0 ∧ Pair v9 v2.heap.size r s) := ⟨(G8.out.1).below hb, (G8.out.2.1).below hb, (G8.out.2.2.1).below hb, (G8.out.2.2.2).below hb⟩
  have bel9 := bel.trans (hb.mono bel.size)
  clear bel hb G8
  have bel := bel9
  clear bel9
  go_wp2
  go_ret
  exact ⟨by first | rfl | simp, bel⟩

set_option maxHeartbeats 3200000 in
set_option maxRecDepth 20000 in
theorem meets_fff (a b c d n : Int) (w : World) (h1 : rightB a b = true) (h2 : rightB c d = true) (h3 : rightB (mxN a c) (mnN b d) = false) (g1 : holdsB a b n = false) (g2 : holdsB c d n = false) : Calls Try.prog 6 #[.agg #[.int .i64 a, .int .i64 b], .agg #[.int .i64 c, .int .i64 d], .int .i64 n] w fun e w' => e = .returned (.bool true) ∧ Below w.heap.size w w' := by
  have K1 : Hid (∀ W, Calls Try.prog 9 #[.agg #[.int .i64 a, .int .i64 b], .agg #[.int .i64 c, .int .i64 d]] W fun e w' => e = .returned (.tuple #[.agg #[.int .i64 0, .int .i64 0], .int .i64 6]) ∧ Below W.heap.size W w') := fun W => by have h := meets_ok W a b c d; rw [show meetV a b c d = errV 6 from by rw [meetV, if_pos ⟨h1, h2⟩, if_neg (by rw [h3]; simp)], errV] at h; exact h
  have K2 : Hid (∀ W, Calls Try.prog 11 #[.agg #[.int .i64 a, .int .i64 b], .agg #[.int .i64 c, .int .i64 d]] W fun e w' => e = .returned (.tuple #[.agg #[.int .i64 (mnN a c), .int .i64 (mxN b d)], .int .i64 0]) ∧ Below W.heap.size W w') := fun W => by have h := hull_ok W a b c d; rw [show hullV a b c d = okV (mnN a c) (mxN b d) from if_pos ⟨h1, h2⟩, okV] at h; exact h
  have K3 : Hid (∀ W, Calls Try.prog 19 #[.agg #[.int .i64 a, .int .i64 b]] W fun e w' => e = .returned (.bool true) ∧ Below W.heap.size W w') := fun W => by have h := isright_ok W a b; rw [h1] at h; exact h
  have K4 : Hid (∀ W, Calls Try.prog 19 #[.agg #[.int .i64 c, .int .i64 d]] W fun e w' => e = .returned (.bool true) ∧ Below W.heap.size W w') := fun W => by have h := isright_ok W c d; rw [h2] at h; exact h
  have K5 : Hid (∀ W, Calls Try.prog 21 #[.agg #[.int .i64 a, .int .i64 b], .int .i64 n] W fun e w' => e = .returned (.bool false) ∧ Below W.heap.size W w') := fun W => by have h := holds_ok W a b n; rw [g1] at h; exact h
  have K6 : Hid (∀ W, Calls Try.prog 21 #[.agg #[.int .i64 c, .int .i64 d], .int .i64 n] W fun e w' => e = .returned (.bool false) ∧ Below W.heap.size W w') := fun W => by have h := holds_ok W c d n; rw [g2] at h; exact h
  have K9 : Hid (∀ W, Calls Try.prog 25 #[] W fun e w' => e = .returned (.bool true) ∧ Below W.heap.size W w') := fun W => awake_ok W
  generalize mxN a c = p at *
  generalize mnN b d = q at *
  generalize mnN a c = r at *
  generalize mxN b d = s at *
  have hZ := eqSame 0 0
  clear h1 h2 h3 g1 g2
  have HA : Hid (Pair ((w.alloc (.cells #[.int .i64 a, .int .i64 b] 23)).alloc (.cells #[.int .i64 c, .int .i64 d] 23)) w.heap.size a b ∧ Pair ((w.alloc (.cells #[.int .i64 a, .int .i64 b] 23)).alloc (.cells #[.int .i64 c, .int .i64 d] 23)) (w.heap.size + 1) c d) := two_boxes w a b c d
  have bel := Go.Joins.below_alloc2 w (.cells #[.int .i64 a, .int .i64 b] 23) (.cells #[.int .i64 c, .int .i64 d] 23)
  go_enter Try.func6, Try.ntmps6
  go_wp2_with fail
  refine (K1.out _).mono ?_
  rintro e v1 ⟨rfl, hb⟩
  clear K1
  have G1 : Hid (Pair v1 w.heap.size a b ∧ Pair v1 (w.heap.size + 1) c d) := ⟨(HA.out.1).below hb, (HA.out.2).below hb⟩
  have bel1 := bel.trans (hb.mono bel.size)
  clear bel hb HA
  have bel := bel1
  clear bel1
  obtain ⟨f0_0, f0_1, _, _⟩ := (G1.out.1).facts
  obtain ⟨f1_0, f1_1, _, _⟩ := (G1.out.2).facts
  have l1_0 := (G1.out.1).lt
  have l1_1 := (G1.out.2).lt
  have J1 : Hid (Pair (v1.alloc (.cells #[.int .i64 0, .int .i64 0] 23)) w.heap.size a b ∧ Pair (v1.alloc (.cells #[.int .i64 0, .int .i64 0] 23)) (w.heap.size + 1) c d ∧ Pair (v1.alloc (.cells #[.int .i64 0, .int .i64 0] 23)) v1.heap.size 0 0) := ⟨(G1.out.1).alloc _, (G1.out.2).alloc _, Pair.new v1 0 0⟩
  have belJ := bel.alloc bel.size (.cells #[.int .i64 0, .int .i64 0] 23)
  clear bel G1
  have bel := belJ
  clear belJ
  go_wp2_with fail
  refine (K2.out _).mono ?_
  rintro e v2 ⟨rfl, hb⟩
  clear K2
  clear f0_0 f0_1 f1_0 f1_1 l1_0 l1_1
  have G2 : Hid (Pair v2 w.heap.size a b ∧ Pair v2 (w.heap.size + 1) c d ∧ Pair v2 v1.heap.size 0 0) := ⟨(J1.out.1).below hb, (J1.out.2.1).below hb, (J1.out.2.2).below hb⟩
  have bel2 := bel.trans (hb.mono bel.size)
  clear bel hb J1
  have bel := bel2
  clear bel2
  obtain ⟨f0_0, f0_1, _, _⟩ := (G2.out.1).facts
  obtain ⟨f1_0, f1_1, _, _⟩ := (G2.out.2.1).facts
  obtain ⟨f2_0, f2_1, _, _⟩ := (G2.out.2.2).facts
  have l2_0 := (G2.out.1).lt
  have l2_1 := (G2.out.2.1).lt
  have l2_2 := (G2.out.2.2).lt
  have J2 : Hid (Pair (v2.alloc (.cells #[.int .i64 r, .int .i64 s] 23)) w.heap.size a b ∧ Pair (v2.alloc (.cells #[.int .i64 r, .int .i64 s] 23)) (w.heap.size + 1) c d ∧ Pair (v2.alloc (.cells #[.int .i64 r, .int .i64 s] 23)) v1.heap.size 0 0 ∧ Pair (v2.alloc (.cells #[.int .i64 r, .int .i64 s] 23)) v2.heap.size r s) := ⟨(G2.out.1).alloc _, (G2.out.2.1).alloc _, (G2.out.2.2).alloc _, Pair.new v2 r s⟩
  have belJ := bel.alloc bel.size (.cells #[.int .i64 r, .int .i64 s] 23)
  clear bel G2
  have bel := belJ
  clear belJ
  go_wp2_with fail
  refine (K3.out _).mono ?_
  rintro e v3 ⟨rfl, hb⟩
  clear K3
  clear f0_0 f0_1 f1_0 f1_1 f2_0 f2_1 l2_0 l2_1 l2_2
  have G3 : Hid (Pair v3 w.heap.size a b ∧ Pair v3 (w.heap.size + 1) c d ∧ Pair v3 v1.heap.size 0 0 ∧ Pair v3 v2.heap.size r s) := ⟨(J2.out.1).below hb, (J2.out.2.1).below hb, (J2.out.2.2.1).below hb, (J2.out.2.2.2).below hb⟩
  have bel3 := bel.trans (hb.mono bel.size)
  clear bel hb J2
  have bel := bel3
  clear bel3
  obtain ⟨f0_0, f0_1, _, _⟩ := (G3.out.1).facts
  obtain ⟨f1_0, f1_1, _, _⟩ := (G3.out.2.1).facts
  obtain ⟨f2_0, f2_1, _, _⟩ := (G3.out.2.2.1).facts
  obtain ⟨f3_0, f3_1, _, _⟩ := (G3.out.2.2.2).facts
  have l3_0 := (G3.out.1).lt
  have l3_1 := (G3.out.2.1).lt
  have l3_2 := (G3.out.2.2.1).lt
  have l3_3 := (G3.out.2.2.2).lt
  go_wp2_with fail
  refine (K4.out _).mono ?_
  rintro e v4 ⟨rfl, hb⟩
  clear K4
  clear f0_0 f0_1 f1_0 f1_1 f2_0 f2_1 f3_0 f3_1 l3_0 l3_1 l3_2 l3_3
  have G4 : Hid (Pair v4 w.heap.size a b ∧ Pair v4 (w.heap.size + 1) c d ∧ Pair v4 v1.heap.size 0 0 ∧ Pair v4 v2.heap.size r s) := ⟨(G3.out.1).below hb, (G3.out.2.1).below hb, (G3.out.2.2.1).below hb, (G3.out.2.2.2).below hb⟩
  have bel4 := bel.trans (hb.mono bel.size)
  clear bel hb G3
  have bel := bel4
  clear bel4
  obtain ⟨f0_0, f0_1, _, _⟩ := (G4.out.1).facts
  obtain ⟨f1_0, f1_1, _, _⟩ := (G4.out.2.1).facts
  obtain ⟨f2_0, f2_1, _, _⟩ := (G4.out.2.2.1).facts
  obtain ⟨f3_0, f3_1, _, _⟩ := (G4.out.2.2.2).facts
  have l4_0 := (G4.out.1).lt
  have l4_1 := (G4.out.2.1).lt
  have l4_2 := (G4.out.2.2.1).lt
  have l4_3 := (G4.out.2.2.2).lt
  go_wp2_with fail
  refine (K5.out _).mono ?_
  rintro e v5 ⟨rfl, hb⟩
  clear f0_0 f0_1 f1_0 f1_1 f2_0 f2_1 f3_0 f3_1 l4_0 l4_1 l4_2 l4_3
  have G5 : Hid (Pair v5 w.heap.size a b ∧ Pair v5 (w.heap.size + 1) c d ∧ Pair v5 v1.heap.size 0 0 ∧ Pair v5 v2.heap.size r s) := ⟨(G4.out.1).below hb, (G4.out.2.1).below hb, (G4.out.2.2.1).below hb, (G4.out.2.2.2).below hb⟩
  have bel5 := bel.trans (hb.mono bel.size)
  clear bel hb G4
  have bel := bel5
  clear bel5
  obtain ⟨f0_0, f0_1, _, _⟩ := (G5.out.1).facts
  obtain ⟨f1_0, f1_1, _, _⟩ := (G5.out.2.1).facts
  obtain ⟨f2_0, f2_1, _, _⟩ := (G5.out.2.2.1).facts
  obtain ⟨f3_0, f3_1, _, _⟩ := (G5.out.2.2.2).facts
  have l5_0 := (G5.out.1).lt
  have l5_1 := (G5.out.2.1).lt
  have l5_2 := (G5.out.2.2.1).lt
  have l5_3 := (G5.out.2.2.2).lt
  go_wp2_with fail
  refine (K5.out _).mono ?_
  rintro e v6 ⟨rfl, hb⟩
  clear K5
  clear f0_0 f0_1 f1_0 f1_1 f2_0 f2_1 f3_0 f3_1 l5_0 l5_1 l5_2 l5_3
  have G6 : Hid (Pair v6 w.heap.size a b ∧ Pair v6 (w.heap.size + 1) c d ∧ Pair v6 v1.heap.size 0 0 ∧ Pair v6 v2.heap.size r s) := ⟨(G5.out.1).below hb, (G5.out.2.1).below hb, (G5.out.2.2.1).below hb, (G5.out.2.2.2).below hb⟩
  have bel6 := bel.trans (hb.mono bel.size)
  clear bel hb G5
  have bel := bel6
  clear bel6
  obtain ⟨f0_0, f0_1, _, _⟩ := (G6.out.1).facts
  obtain ⟨f1_0, f1_1, _, _⟩ := (G6.out.2.1).facts
  obtain ⟨f2_0, f2_1, _, _⟩ := (G6.out.2.2.1).facts
  obtain ⟨f3_0, f3_1, _, _⟩ := (G6.out.2.2.2).facts
  have l6_0 := (G6.out.1).lt
  have l6_1 := (G6.out.2.1).lt
  have l6_2 := (G6.out.2.2.1).lt
  have l6_3 := (G6.out.2.2.2).lt
  go_wp2_with fail
  refine (K6.out _).mono ?_
  rintro e v7 ⟨rfl, hb⟩
  clear K6
  clear f0_0 f0_1 f1_0 f1_1 f2_0 f2_1 f3_0 f3_1 l6_0 l6_1 l6_2 l6_3
  have G7 : Hid (Pair v7 w.heap.size a b ∧ Pair v7 (w.heap.size + 1) c d ∧ Pair v7 v1.heap.size 0 0 ∧ Pair v7 v2.heap.size r s) := ⟨(G6.out.1).below hb, (G6.out.2.1).below hb, (G6.out.2.2.1).below hb, (G6.out.2.2.2).below hb⟩
  have bel7 := bel.trans (hb.mono bel.size)
  clear bel hb G6
  have bel := bel7
  clear bel7
  obtain ⟨f0_0, f0_1, _, _⟩ := (G7.out.1).facts
  obtain ⟨f1_0, f1_1, _, _⟩ := (G7.out.2.1).facts
  obtain ⟨f2_0, f2_1, _, _⟩ := (G7.out.2.2.1).facts
  obtain ⟨f3_0, f3_1, _, _⟩ := (G7.out.2.2.2).facts
  have l7_0 := (G7.out.1).lt
  have l7_1 := (G7.out.2.1).lt
  have l7_2 := (G7.out.2.2.1).lt
  have l7_3 := (G7.out.2.2.2).lt
  go_wp2_with fail
  refine (K9.out _).mono ?_
  rintro e v8 ⟨rfl, hb⟩
  clear K9
  clear f0_0 f0_1 f1_0 f1_1 f2_0 f2_1 f3_0 f3_1 l7_0 l7_1 l7_2 l7_3
  have G8 : Hid (Pair v8 w.heap.size a b ∧ Pair v8 (w.heap.size + 1) c d ∧ Pair v8 v1.heap.size 0 0 ∧ Pair v8 v2.heap.size r s) := ⟨(G7.out.1).below hb, (G7.out.2.1).below hb, (G7.out.2.2.1).below hb, (G7.out.2.2.2).below hb⟩
  have bel8 := bel.trans (hb.mono bel.size)
  clear bel hb G7
  have bel := bel8
  clear bel8
  go_wp2
  go_ret
  exact ⟨by first | rfl | simp, bel⟩

theorem meets_walk (a b c d n : Int) (w : World) : Calls Try.prog 6 #[.agg #[.int .i64 a, .int .i64 b], .agg #[.int .i64 c, .int .i64 d], .int .i64 n] w fun e w' => e = .returned (.bool true) ∧ Below w.heap.size w w' := by
  cases h1 : rightB a b
  · exact meets_wrong0 a b c d n w h1
  · cases h2 : rightB c d
    · exact meets_wrong1 a b c d n w h1 h2
    · cases h3 : rightB (mxN a c) (mnN b d) <;> cases g1 : holdsB a b n <;> cases g2 : holdsB c d n
      · exact meets_fff a b c d n w h1 h2 h3 g1 g2
      · exact meets_fft a b c d n w h1 h2 h3 g1 g2
      · exact meets_ftf a b c d n w h1 h2 h3 g1 g2
      · have h := meet_none (n := n) h1 h2 h3
        rw [g1, g2] at h
        cases h
      · exact meets_tff a b c d n w h1 h2 h3 g1 g2
      · exact meets_tft a b c d n w h1 h2 h3 g1 g2
      · exact meets_ttf a b c d n w h1 h2 h3 g1 g2
      · exact meets_ttt a b c d n w h1 h2 h3 g1 g2
end Go.Proofs.Ytmdpfkilkmicjaa
