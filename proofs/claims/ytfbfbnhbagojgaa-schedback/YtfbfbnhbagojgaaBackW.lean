/-
  The walk of SchedBack.
-/
import Derived.Test.YtfbfbnhbagojgaaPlacesW
namespace Go.Proofs.Ytfbfbnhbagojgaa
open Go.ChangeShapes Go.WideShapes Go.ChangeAt Go.RowKit

set_option maxHeartbeats 3200000 in
set_option maxRecDepth 20000 in
theorem back_walk (c : Cf) (t r s : Int) (w : World) : Calls Try.prog 5 #[.agg (cfC c), .int .i64 t, .int .i64 r, .int .i64 s] w fun e w' => e = .returned (.bool true) ∧ Below w.heap.size w w' := by
  have HL : Hid ((Instr.loadAt 23 (.pointer (some ⟨w.heap.size, 0, none⟩))).run Try.prog (w.alloc (.cells (cfC c) 23)) = .ok (.agg (cfC c)) (w.alloc (.cells (cfC c) 23))) := (CfAt.new w c).loads
  have H0 : Hid (Cfg w w.heap.size c (w.alloc (.cells (cfC c) 23))) := Cfg.new w c
  have K1 : Hid (∀ W, Calls Try.prog 21 #[.agg (cfC c), .int .i64 r, .int .i64 s] W fun e w' => e = .returned (atV c r s) ∧ Below W.heap.size W w') := fun W => at_ok W c r s
  have K3 : Hid (∀ W, Calls Try.prog 19 #[.agg (cfC c), .int .i64 t] W fun e w' => e = .returned (placeV c t) ∧ Below W.heap.size W w') := fun W => place_ok W c t
  have KA : Hid (∀ W, Calls Try.prog 18 #[] W fun e w' => e = .returned (.bool true) ∧ Below W.heap.size W w') := fun W => awake_ok W
  have hN := neqTriSame r s 0
  have hZ := eqTriSame 0 0 0
  cases hp : placeB c t
  · rw [placeV, hp, if_neg Bool.false_ne_true] at K3
    clear hp
    cases hc : cellB c r s
    · rw [atV, hc, if_neg Bool.false_ne_true] at K1
      clear hc hN
      go_enter Try.func5, Try.ntmps5
      go_wp2_with (first | (refine wpList_gload_run rfl 23 _ rfl _ _ rfl HL.out ?_) | fail)
      refine (K1.out _).mono ?_
      rintro e w1 ⟨rfl, hb⟩
      have H1 : Hid (Cfg w w.heap.size c w1) := H0.out.step hb
      clear K1 HL H0 hb
      obtain ⟨p0, p1, p2, p3, p4, p5, p6, p7, p8, p9⟩ := H1.out.held.1
      go_wp2_with fail
      refine (K3.out _).mono ?_
      rintro e w3 ⟨rfl, hb⟩
      have H3' : Hid (Cfg w w.heap.size c w3) := H1.out.step hb
      clear K3 H1 hb p0 p1 p2 p3 p4 p5 p6 p7 p8 p9
      have H3 : Hid (Cfg w w.heap.size c (w3.alloc (.cells #[.int .i64 0, .int .i64 0, .int .i64 0] 32))) := H3'.out.step (Go.Joins.below_alloc1 _ _)
      obtain ⟨t0, t1, t2, f0, f1, f2⟩ := (Tri.new w3 0 0 0).facts
      clear H3'
      go_wp2_with fail
      refine (KA.out _).mono ?_
      rintro e w4 ⟨rfl, hb⟩
      have H4 : Hid (Cfg w w.heap.size c w4) := H3.out.step hb
      clear KA H3 hb t0 t1 t2 f0 f1 f2
      go_wp2
      go_ret
      exact ⟨rfl, H4.out.bel⟩
    · rw [atV, hc, if_pos rfl] at K1
      obtain ⟨a1, a2, a3, a4⟩ := place_at hc
      have K2 := fun W => place_ok W c (atN c r s)
      unfold placeV at K2
      rw [a1, if_pos rfl, a2, a3, a4] at K2
      generalize atN c r s = T at *
      have K2' : Hid (∀ W, Calls Try.prog 19 #[.agg (cfC c), .int .i64 T] W fun e w' => e = .returned (.tuple #[.agg #[.int .i64 r, .int .i64 s, .int .i64 0], .int .i64 0]) ∧ Below W.heap.size W w') := K2
      clear K2 a1 a2 a3 a4 hc
      go_enter Try.func5, Try.ntmps5
      go_wp2_with (first | (refine wpList_gload_run rfl 23 _ rfl _ _ rfl HL.out ?_) | fail)
      refine (K1.out _).mono ?_
      rintro e w1 ⟨rfl, hb⟩
      have H1 : Hid (Cfg w w.heap.size c w1) := H0.out.step hb
      clear K1 HL H0 hb
      obtain ⟨p0, p1, p2, p3, p4, p5, p6, p7, p8, p9⟩ := H1.out.held.1
      go_wp2_with fail
      refine (K2'.out _).mono ?_
      rintro e w2 ⟨rfl, hb⟩
      have H2' : Hid (Cfg w w.heap.size c w2) := H1.out.step hb
      clear K2' H1 hb p0 p1 p2 p3 p4 p5 p6 p7 p8 p9
      have H2 : Hid (Cfg w w.heap.size c (w2.alloc (.cells #[.int .i64 r, .int .i64 s, .int .i64 0] 32))) := H2'.out.step (Go.Joins.below_alloc1 _ _)
      obtain ⟨p0, p1, p2, p3, p4, p5, p6, p7, p8, p9⟩ := H2.out.held.1
      obtain ⟨t0, t1, t2, f0, f1, f2⟩ := (Tri.new w2 r s 0).facts
      clear H2'
      go_wp2_with fail
      refine (K3.out _).mono ?_
      rintro e w3 ⟨rfl, hb⟩
      have H3' : Hid (Cfg w w.heap.size c w3) := H2.out.step hb
      clear K3 H2 hb p0 p1 p2 p3 p4 p5 p6 p7 p8 p9 t0 t1 t2 f0 f1 f2
      have H3 : Hid (Cfg w w.heap.size c (w3.alloc (.cells #[.int .i64 0, .int .i64 0, .int .i64 0] 32))) := H3'.out.step (Go.Joins.below_alloc1 _ _)
      obtain ⟨t0, t1, t2, f0, f1, f2⟩ := (Tri.new w3 0 0 0).facts
      clear H3'
      go_wp2_with fail
      refine (KA.out _).mono ?_
      rintro e w4 ⟨rfl, hb⟩
      have H4 : Hid (Cfg w w.heap.size c w4) := H3.out.step hb
      clear KA H3 hb t0 t1 t2 f0 f1 f2
      go_wp2
      go_ret
      exact ⟨rfl, H4.out.bel⟩
  · rw [placeV, hp, if_pos rfl] at K3
    obtain ⟨b1, b2, b3, b4⟩ := at_place hp
    have b5 := slot_of (place_ok' hp).1 t
    have K4 : Hid (∀ W, Calls Try.prog 21 #[.agg (cfC c), .int .i64 (t / rndN c), .int .i64 (t % rndN c / c.s)] W fun e w' => e = .returned (.tuple #[.int .i64 (atN c (t / rndN c) (t % rndN c / c.s)), .int .i64 0]) ∧ Below W.heap.size W w') := fun W => by
      have := at_ok W c (t / rndN c) (t % rndN c / c.s)
      rw [atV, if_pos b1] at this
      exact this
    have b6 := place_ok' hp
    have e1 : IntKind.i64.wrap (atN c (t / rndN c) (t % rndN c / c.s) + t % c.s) = t := by rw [b2]; exact wrap_in (by omega) (by omega)
    clear hp b1 b2 b6
    generalize atN c (t / rndN c) (t % rndN c / c.s) = Y at *
    generalize t % rndN c / c.s = k at *
    generalize t / rndN c = q at *
    generalize t % c.s = o at *
    obtain ⟨b5, b6⟩ := b5
    clear hZ
    cases hc : cellB c r s
    · rw [atV, hc, if_neg Bool.false_ne_true] at K1
      clear hc hN
      go_enter Try.func5, Try.ntmps5
      go_wp2_with (first | (refine wpList_gload_run rfl 23 _ rfl _ _ rfl HL.out ?_) | fail)
      refine (K1.out _).mono ?_
      rintro e w1 ⟨rfl, hb⟩
      have H1 : Hid (Cfg w w.heap.size c w1) := H0.out.step hb
      clear K1 HL H0 hb
      obtain ⟨p0, p1, p2, p3, p4, p5, p6, p7, p8, p9⟩ := H1.out.held.1
      go_wp2_with fail
      refine (K3.out _).mono ?_
      rintro e w3 ⟨rfl, hb⟩
      have H3' : Hid (Cfg w w.heap.size c w3) := H1.out.step hb
      clear K3 H1 hb p0 p1 p2 p3 p4 p5 p6 p7 p8 p9
      have H3 : Hid (Cfg w w.heap.size c (w3.alloc (.cells #[.int .i64 q, .int .i64 k, .int .i64 o] 32))) := H3'.out.step (Go.Joins.below_alloc1 _ _)
      have HT : Hid (Tri (w3.alloc (.cells #[.int .i64 q, .int .i64 k, .int .i64 o] 32)) w3.heap.size q k o) := Tri.new w3 q k o
      obtain ⟨t0, t1, t2, f0, f1, f2⟩ := HT.out.facts
      obtain ⟨p0, p1, p2, p3, p4, p5, p6, p7, p8, p9⟩ := H3.out.held.1
      clear H3'
      go_wp2_with fail
      refine (K4.out _).mono ?_
      rintro e w4 ⟨rfl, hb⟩
      have H4 : Hid (Cfg w w.heap.size c w4) := H3.out.step hb
      have HT2 : Hid (Tri w4 w3.heap.size q k o) := HT.out.below hb
      clear K4 H3 HT hb t0 t1 t2 f0 f1 f2 p0 p1 p2 p3 p4 p5 p6 p7 p8 p9
      obtain ⟨t0, t1, t2, f0, f1, f2⟩ := HT2.out.facts
      have p0 := H4.out.own.c0
      have p2 := H4.out.own.c2
      go_wp2_with fail
      refine (KA.out _).mono ?_
      rintro e w5 ⟨rfl, hb⟩
      have H5 : Hid (Cfg w w.heap.size c w5) := H4.out.step hb
      clear KA H4 hb t0 t1 t2 f0 f1 f2 p0 p2 HT2
      go_wp2
      go_ret
      exact ⟨rfl, H5.out.bel⟩
    · rw [atV, hc, if_pos rfl] at K1
      obtain ⟨a1, a2, a3, a4⟩ := place_at hc
      have K2 := fun W => place_ok W c (atN c r s)
      unfold placeV at K2
      rw [a1, if_pos rfl, a2, a3, a4] at K2
      generalize atN c r s = T at *
      have K2' : Hid (∀ W, Calls Try.prog 19 #[.agg (cfC c), .int .i64 T] W fun e w' => e = .returned (.tuple #[.agg #[.int .i64 r, .int .i64 s, .int .i64 0], .int .i64 0]) ∧ Below W.heap.size W w') := K2
      clear K2 a1 a2 a3 a4 hc
      go_enter Try.func5, Try.ntmps5
      go_wp2_with (first | (refine wpList_gload_run rfl 23 _ rfl _ _ rfl HL.out ?_) | fail)
      refine (K1.out _).mono ?_
      rintro e w1 ⟨rfl, hb⟩
      have H1 : Hid (Cfg w w.heap.size c w1) := H0.out.step hb
      clear K1 HL H0 hb
      obtain ⟨p0, p1, p2, p3, p4, p5, p6, p7, p8, p9⟩ := H1.out.held.1
      go_wp2_with fail
      refine (K2'.out _).mono ?_
      rintro e w2 ⟨rfl, hb⟩
      have H2' : Hid (Cfg w w.heap.size c w2) := H1.out.step hb
      clear K2' H1 hb p0 p1 p2 p3 p4 p5 p6 p7 p8 p9
      have H2 : Hid (Cfg w w.heap.size c (w2.alloc (.cells #[.int .i64 r, .int .i64 s, .int .i64 0] 32))) := H2'.out.step (Go.Joins.below_alloc1 _ _)
      obtain ⟨p0, p1, p2, p3, p4, p5, p6, p7, p8, p9⟩ := H2.out.held.1
      obtain ⟨t0, t1, t2, f0, f1, f2⟩ := (Tri.new w2 r s 0).facts
      clear H2'
      go_wp2_with fail
      refine (K3.out _).mono ?_
      rintro e w3 ⟨rfl, hb⟩
      have H3' : Hid (Cfg w w.heap.size c w3) := H2.out.step hb
      clear K3 H2 hb p0 p1 p2 p3 p4 p5 p6 p7 p8 p9 t0 t1 t2 f0 f1 f2
      have H3 : Hid (Cfg w w.heap.size c (w3.alloc (.cells #[.int .i64 q, .int .i64 k, .int .i64 o] 32))) := H3'.out.step (Go.Joins.below_alloc1 _ _)
      have HT : Hid (Tri (w3.alloc (.cells #[.int .i64 q, .int .i64 k, .int .i64 o] 32)) w3.heap.size q k o) := Tri.new w3 q k o
      obtain ⟨t0, t1, t2, f0, f1, f2⟩ := HT.out.facts
      obtain ⟨p0, p1, p2, p3, p4, p5, p6, p7, p8, p9⟩ := H3.out.held.1
      clear H3'
      go_wp2_with fail
      refine (K4.out _).mono ?_
      rintro e w4 ⟨rfl, hb⟩
      have H4 : Hid (Cfg w w.heap.size c w4) := H3.out.step hb
      have HT2 : Hid (Tri w4 w3.heap.size q k o) := HT.out.below hb
      clear K4 H3 HT hb t0 t1 t2 f0 f1 f2 p0 p1 p2 p3 p4 p5 p6 p7 p8 p9
      obtain ⟨t0, t1, t2, f0, f1, f2⟩ := HT2.out.facts
      have p0 := H4.out.own.c0
      have p2 := H4.out.own.c2
      go_wp2_with fail
      refine (KA.out _).mono ?_
      rintro e w5 ⟨rfl, hb⟩
      have H5 : Hid (Cfg w w.heap.size c w5) := H4.out.step hb
      clear KA H4 hb t0 t1 t2 f0 f1 f2 p0 p2 HT2
      go_wp2
      go_ret
      exact ⟨rfl, H5.out.bel⟩
end Go.Proofs.Ytfbfbnhbagojgaa
