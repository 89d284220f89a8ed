/-
  The walk of SchedPlaces.
-/
import Derived.Test.YtfbfbnhbagojgaaSchedV
namespace Go.Proofs.Ytfbfbnhbagojgaa
open Go.ChangeShapes Go.WideShapes Go.ChangeAt Go.RowKit

theorem placeV_told (c : Cf) (t : Int) : ∃ x y z e, placeV c t = .tuple #[.agg #[.int .i64 x, .int .i64 y, .int .i64 z], .int .i64 e] := by
  unfold placeV; split <;> exact ⟨_, _, _, _, rfl⟩
theorem atV_told (c : Cf) (r s : Int) : ∃ x e, atV c r s = .tuple #[.int .i64 x, .int .i64 e] := by
  unfold atV; split <;> exact ⟨_, _, rfl⟩
theorem speakV_told (c : Cf) (r s : Int) : ∃ x y e, speakV c r s = .tuple #[.int .i64 x, .int .i64 y, .int .i64 e] := by
  unfold speakV; split <;> exact ⟨_, _, _, rfl⟩
theorem nextV_told (c : Cf) (i t : Int) : ∃ x e, nextV c i t = .tuple #[.int .i64 x, .int .i64 e] := by
  unfold nextV; split <;> exact ⟨_, _, rfl⟩
theorem eqTriSame (a b d : Int) (W : World) : (binOp .eql 32 (.agg #[.int .i64 a, .int .i64 b, .int .i64 d]) (.agg #[.int .i64 a, .int .i64 b, .int .i64 d])).run Try.prog W = .ok (.bool true) W := by
  rw [eqTri]; simp
theorem neqTriSame (a b d : Int) (W : World) : (binOp .neq 32 (.agg #[.int .i64 a, .int .i64 b, .int .i64 d]) (.agg #[.int .i64 a, .int .i64 b, .int .i64 d])).run Try.prog W = .ok (.bool false) W := by
  rw [neqTri]; simp

set_option maxHeartbeats 3200000 in
set_option maxRecDepth 20000 in
theorem places_walk (c : Cf) (t r s : Int) (w : World) : Calls Try.prog 4 #[.agg (cfC c), .int .i64 t, .int .i64 r, .int .i64 s] w fun e w' => e = .returned (.bool true) ∧ Below w.heap.size w w' := by
  have HL : Hid ((Instr.loadAt 23 (.pointer (some ⟨w.heap.size, 0, none⟩))).run Try.prog (w.alloc (.cells (cfC c) 23)) = .ok (.agg (cfC c)) (w.alloc (.cells (cfC c) 23))) := (CfAt.new w c).loads
  have H0 : Hid (Cfg w w.heap.size c (w.alloc (.cells (cfC c) 23))) := Cfg.new w c
  have K19 : Hid (∀ W, Calls Try.prog 19 #[.agg (cfC c), .int .i64 t] W fun e w' => e = .returned (placeV c t) ∧ Below W.heap.size W w') := fun W => place_ok W c t
  have K20 : Hid (∀ W, Calls Try.prog 20 #[.agg (cfC c), .int .i64 t] W fun e w' => e = .returned (placeV c t) ∧ Below W.heap.size W w') := fun W => rplace_ok W c t
  have K21 : Hid (∀ W, Calls Try.prog 21 #[.agg (cfC c), .int .i64 r, .int .i64 s] W fun e w' => e = .returned (atV c r s) ∧ Below W.heap.size W w') := fun W => at_ok W c r s
  have K22 : Hid (∀ W, Calls Try.prog 22 #[.agg (cfC c), .int .i64 r, .int .i64 s] W fun e w' => e = .returned (atV c r s) ∧ Below W.heap.size W w') := fun W => rat_ok W c r s
  have K23 : Hid (∀ W, Calls Try.prog 23 #[.agg (cfC c), .int .i64 r, .int .i64 s] W fun e w' => e = .returned (speakV c r s) ∧ Below W.heap.size W w') := fun W => speak_ok W c r s
  have K24 : Hid (∀ W, Calls Try.prog 24 #[.agg (cfC c), .int .i64 r, .int .i64 s] W fun e w' => e = .returned (speakV c r s) ∧ Below W.heap.size W w') := fun W => rspeak_ok W c r s
  have K25 : Hid (∀ W, Calls Try.prog 25 #[.agg (cfC c), .int .i64 s, .int .i64 t] W fun e w' => e = .returned (nextV c s t) ∧ Below W.heap.size W w') := fun W => next_ok W c s t
  have K26 : Hid (∀ W, Calls Try.prog 26 #[.agg (cfC c), .int .i64 s, .int .i64 t] W fun e w' => e = .returned (nextV c s t) ∧ Below W.heap.size W w') := fun W => rnext_ok W c s t
  have K18 : Hid (∀ W, Calls Try.prog 18 #[] W fun e w' => e = .returned (.bool true) ∧ Below W.heap.size W w') := fun W => awake_ok W
  obtain ⟨x1, x2, x3, x4, hv1⟩ := placeV_told c t
  obtain ⟨x5, x6, hv2⟩ := atV_told c r s
  obtain ⟨x7, x8, x9, hv3⟩ := speakV_told c r s
  obtain ⟨x10, x11, hv4⟩ := nextV_told c s t
  rw [hv1] at K19 K20
  rw [hv2] at K21 K22
  rw [hv3] at K23 K24
  rw [hv4] at K25 K26
  clear hv1 hv2 hv3 hv4
  have hE := eqTriSame x1 x2 x3
  go_enter Try.func4, Try.ntmps4
  go_wp2_with (first | (refine wpList_gload_run rfl 23 _ rfl _ _ rfl HL.out ?_) | fail)
  refine (K19.out _).mono ?_
  rintro e w1 ⟨rfl, hb⟩
  have H1 : Hid (Cfg w w.heap.size c w1) := H0.out.step hb
  have HA1 : Hid (Tri (w1.alloc (.cells #[.int .i64 x1, .int .i64 x2, .int .i64 x3] 32)) w1.heap.size x1 x2 x3) := Tri.new w1 x1 x2 x3
  have H2 : Hid (Cfg w w.heap.size c (w1.alloc (.cells #[.int .i64 x1, .int .i64 x2, .int .i64 x3] 32))) := H1.out.step (Go.Joins.below_alloc1 _ _)
  obtain ⟨p0, p1, p2, p3, p4, p5, p6, p7, p8, p9⟩ := H2.out.held.1
  clear K19 HL H0 hb H1
  go_wp2_with fail
  refine (K20.out _).mono ?_
  rintro e w2 ⟨rfl, hb⟩
  have H3 : Hid (Cfg w w.heap.size c w2) := H2.out.step hb
  have HA2 : Hid (Tri w2 w1.heap.size x1 x2 x3) := HA1.out.below hb
  clear K20 H2 HA1 hb p0 p1 p2 p3 p4 p5 p6 p7 p8 p9
  have HB1 : Hid (Tri (w2.alloc (.cells #[.int .i64 x1, .int .i64 x2, .int .i64 x3] 32)) w2.heap.size x1 x2 x3) := Tri.new w2 x1 x2 x3
  have HA : Hid (Tri (w2.alloc (.cells #[.int .i64 x1, .int .i64 x2, .int .i64 x3] 32)) w1.heap.size x1 x2 x3) := HA2.out.alloc _
  have HB : Hid (Tri (w2.alloc (.cells #[.int .i64 x1, .int .i64 x2, .int .i64 x3] 32)) w2.heap.size x1 x2 x3) := HB1.out
  have H4 : Hid (Cfg w w.heap.size c (w2.alloc (.cells #[.int .i64 x1, .int .i64 x2, .int .i64 x3] 32))) := H3.out.step (Go.Joins.below_alloc1 _ _)
  clear H3 HA2 HB1
  obtain ⟨p0, p1, p2, p3, p4, p5, p6, p7, p8, p9⟩ := H4.out.held.1
  go_wp2_with fail
  refine (K21.out _).mono ?_
  rintro e v21 ⟨rfl, hb⟩
  have J21 : Hid (Cfg w w.heap.size c v21) := H4.out.step hb
  replace HA : Hid (Tri v21 w1.heap.size x1 x2 x3) := HA.out.below hb
  replace HB : Hid (Tri v21 w2.heap.size x1 x2 x3) := HB.out.below hb
  clear K21 H4 hb p0 p1 p2 p3 p4 p5 p6 p7 p8 p9
  obtain ⟨p0, p1, p2, p3, p4, p5, p6, p7, p8, p9⟩ := J21.out.held.1
  go_wp2_with fail
  refine (K22.out _).mono ?_
  rintro e v22 ⟨rfl, hb⟩
  have J22 : Hid (Cfg w w.heap.size c v22) := J21.out.step hb
  replace HA : Hid (Tri v22 w1.heap.size x1 x2 x3) := HA.out.below hb
  replace HB : Hid (Tri v22 w2.heap.size x1 x2 x3) := HB.out.below hb
  clear K22 J21 hb p0 p1 p2 p3 p4 p5 p6 p7 p8 p9
  obtain ⟨p0, p1, p2, p3, p4, p5, p6, p7, p8, p9⟩ := J22.out.held.1
  go_wp2_with fail
  refine (K23.out _).mono ?_
  rintro e v23 ⟨rfl, hb⟩
  have J23 : Hid (Cfg w w.heap.size c v23) := J22.out.step hb
  replace HA : Hid (Tri v23 w1.heap.size x1 x2 x3) := HA.out.below hb
  replace HB : Hid (Tri v23 w2.heap.size x1 x2 x3) := HB.out.below hb
  clear K23 J22 hb p0 p1 p2 p3 p4 p5 p6 p7 p8 p9
  obtain ⟨p0, p1, p2, p3, p4, p5, p6, p7, p8, p9⟩ := J23.out.held.1
  go_wp2_with fail
  refine (K24.out _).mono ?_
  rintro e v24 ⟨rfl, hb⟩
  have J24 : Hid (Cfg w w.heap.size c v24) := J23.out.step hb
  replace HA : Hid (Tri v24 w1.heap.size x1 x2 x3) := HA.out.below hb
  replace HB : Hid (Tri v24 w2.heap.size x1 x2 x3) := HB.out.below hb
  clear K24 J23 hb p0 p1 p2 p3 p4 p5 p6 p7 p8 p9
  obtain ⟨p0, p1, p2, p3, p4, p5, p6, p7, p8, p9⟩ := J24.out.held.1
  go_wp2_with fail
  refine (K25.out _).mono ?_
  rintro e v25 ⟨rfl, hb⟩
  have J25 : Hid (Cfg w w.heap.size c v25) := J24.out.step hb
  replace HA : Hid (Tri v25 w1.heap.size x1 x2 x3) := HA.out.below hb
  replace HB : Hid (Tri v25 w2.heap.size x1 x2 x3) := HB.out.below hb
  clear K25 J24 hb p0 p1 p2 p3 p4 p5 p6 p7 p8 p9
  obtain ⟨p0, p1, p2, p3, p4, p5, p6, p7, p8, p9⟩ := J25.out.held.1
  go_wp2_with fail
  refine (K26.out _).mono ?_
  rintro e v26 ⟨rfl, hb⟩
  have J26 : Hid (Cfg w w.heap.size c v26) := J25.out.step hb
  replace HA : Hid (Tri v26 w1.heap.size x1 x2 x3) := HA.out.below hb
  replace HB : Hid (Tri v26 w2.heap.size x1 x2 x3) := HB.out.below hb
  clear K26 J25 hb p0 p1 p2 p3 p4 p5 p6 p7 p8 p9
  obtain ⟨q0, q1, q2, f0, f1, f2⟩ := HA.out.facts
  obtain ⟨r0, r1, r2, g0, g1, g2⟩ := HB.out.facts
  go_wp2_with fail
  refine (K18.out _).mono ?_
  rintro e w9 ⟨rfl, hb⟩
  have H9 : Hid (Cfg w w.heap.size c w9) := J26.out.step hb
  clear K18 J26 hb HA HB q0 q1 q2 f0 f1 f2 r0 r1 r2 g0 g1 g2
  go_wp2
  go_ret
  exact ⟨rfl, H9.out.bel⟩
end Go.Proofs.Ytfbfbnhbagojgaa
