/-
  The document's side: round, Index, Told, When, Over.
  The document's side: Secret, Known.
-/
import Derived.Test.YtgncdnejmobjbaaGreatDoorDisA
import Derived.Test.YtgncdnejmobjbaaGreatDoorSchedR
namespace Go.Proofs.YtgncdnejmobjbaaGreatDoor
open Go.ChangeShapes Go.WideShapes Go.ChangeAt Go.RowKit
set_option maxRecDepth 20000

theorem rrnd_ok (w : World) (n : Int) : Calls Tryz.prog 59 #[.int .i64 n] w fun e w' => e = .returned (.bool (roundB n)) ∧ w' = w := by
  by_cases h0 : 0 ≤ n
  · have hN : roundB n = decide (n < 1048576) := by simp [roundB, h0]
    rw [hN]
    clear hN
    by_cases h1 : n < 1048576
    all_goals
      simp only [h1, decide_true, decide_false]
      go_enter Tryz.func59, Tryz.ntmps59
      go_wp2
      go_ret
      exact ⟨by first | rfl | (simp; done) | (simp; omega), rfl⟩
  · rw [show roundB n = false by simp [roundB, h0]]
    go_enter Tryz.func59, Tryz.ntmps59
    go_wp2
    go_ret
    exact ⟨by first | rfl | (simp; done) | (simp; omega), rfl⟩
set_option maxHeartbeats 3200000 in
set_option maxRecDepth 20000 in
theorem rindex_ok (w : World) (c : Cf) (st r : Int) : Calls Tryz.prog 32 #[.agg (cfC c), .int .i64 st, .int .i64 r] w fun e w' => e = .returned (idxV c st r) ∧ Below w.heap.size w w' := by
  have H0 : Hid (Cfg w w.heap.size c (w.alloc (.cells (cfC c) 23))) := Cfg.new w c
  have K1 : Hid (∀ W, Calls Tryz.prog 22 #[.agg (cfC c)] W fun e w' => e = .returned (.int .i64 (if okB c = true then 0 else 1)) ∧ Below W.heap.size W w') := fun W => srcheck_ok W c
  cases ho : okB c
  case false =>
    rw [ho, if_neg Bool.false_ne_true] at K1
    rw [idxV, if_neg (by simp [sinB, ho])]
    clear ho
    go_enter Tryz.func32, Tryz.ntmps32
    obtain ⟨p0, p1, p2, p3, p4, p5, p6, p7, p8, p9⟩ := H0.out.held.1
    go_wp2_with fail
    refine (K1.out _).mono ?_
    rintro e w1 ⟨rfl, hb⟩
    have H1 : Hid (Cfg w w.heap.size c w1) := H0.out.step hb
    clear K1 H0 hb p0 p1 p2 p3 p4 p5 p6 p7 p8 p9 
    go_wp2
    go_ret2
    exact ⟨by first | rfl | (simp; done) | (simp; omega), H1.out.bel⟩
  rw [ho, if_pos rfl] at K1
  cases hK2 : roundB st
  case false =>
    rw [idxV, if_neg (by simp [sinB, hK2])]
    have K2 : Hid (∀ W, Calls Tryz.prog 59 #[.int .i64 st] W fun e w' => e = .returned (.bool false) ∧ w' = W) := fun W => by have := rrnd_ok W st; rw [hK2] at this; exact this
    clear ho hK2
    go_enter Tryz.func32, Tryz.ntmps32
    obtain ⟨p0, p1, p2, p3, p4, p5, p6, p7, p8, p9⟩ := H0.out.held.1
    go_wp2_with fail
    refine (K1.out _).mono ?_
    rintro e w1 ⟨rfl, hb⟩
    have H1 : Hid (Cfg w w.heap.size c w1) := H0.out.step hb
    clear K1 H0 hb p0 p1 p2 p3 p4 p5 p6 p7 p8 p9 
    obtain ⟨p0, p1, p2, p3, p4, p5, p6, p7, p8, p9⟩ := H1.out.held.1
    go_wp2_with fail
    refine (K2.out _).mono ?_
    rintro e w2 ⟨rfl, rfl⟩
    have H2 : Hid (Cfg w w.heap.size c w2) := H1.out
    clear K2 H1 p0 p1 p2 p3 p4 p5 p6 p7 p8 p9 
    go_wp2
    go_ret2
    exact ⟨by first | rfl | (simp; done) | (simp; omega), H2.out.bel⟩
  have K2 : Hid (∀ W, Calls Tryz.prog 59 #[.int .i64 st] W fun e w' => e = .returned (.bool true) ∧ w' = W) := fun W => by have := rrnd_ok W st; rw [hK2] at this; exact this
  cases hK3 : roundB r
  case false =>
    rw [idxV, if_neg (by simp [sinB, hK3])]
    have K3 : Hid (∀ W, Calls Tryz.prog 59 #[.int .i64 r] W fun e w' => e = .returned (.bool false) ∧ w' = W) := fun W => by have := rrnd_ok W r; rw [hK3] at this; exact this
    clear ho hK2 hK3
    go_enter Tryz.func32, Tryz.ntmps32
    obtain ⟨p0, p1, p2, p3, p4, p5, p6, p7, p8, p9⟩ := H0.out.held.1
    go_wp2_with fail
    refine (K1.out _).mono ?_
    rintro e w1 ⟨rfl, hb⟩
    have H1 : Hid (Cfg w w.heap.size c w1) := H0.out.step hb
    clear K1 H0 hb p0 p1 p2 p3 p4 p5 p6 p7 p8 p9 
    obtain ⟨p0, p1, p2, p3, p4, p5, p6, p7, p8, p9⟩ := H1.out.held.1
    go_wp2_with fail
    refine (K2.out _).mono ?_
    rintro e w2 ⟨rfl, rfl⟩
    have H2 : Hid (Cfg w w.heap.size c w2) := H1.out
    clear K2 H1 p0 p1 p2 p3 p4 p5 p6 p7 p8 p9 
    obtain ⟨p0, p1, p2, p3, p4, p5, p6, p7, p8, p9⟩ := H2.out.held.1
    go_wp2_with fail
    refine (K3.out _).mono ?_
    rintro e w3 ⟨rfl, rfl⟩
    have H3 : Hid (Cfg w w.heap.size c w3) := H2.out
    clear K3 H2 p0 p1 p2 p3 p4 p5 p6 p7 p8 p9 
    go_wp2
    go_ret2
    exact ⟨by first | rfl | (simp; done) | (simp; omega), H3.out.bel⟩
  have K3 : Hid (∀ W, Calls Tryz.prog 59 #[.int .i64 r] W fun e w' => e = .returned (.bool true) ∧ w' = W) := fun W => by have := rrnd_ok W r; rw [hK3] at this; exact this
  have hs : sinB c st r = true := by simp [sinB, ho, hK2, hK3]
  obtain ⟨_, hst, hr⟩ := sin_in hs
  have g := right_of ho
  have hd0 := g.d0
  have hd1 := g.d1
  have hk0 := g.k0
  have hk1 := g.k1
  obtain ⟨A, hA⟩ : ∃ A, A = r - st := ⟨_, rfl⟩
  have e1 : IntKind.i64.wrap (r - st) = A := by rw [hA]; exact wrap_in (by omega) (by omega)
  rw [idxV, if_pos hs, ← hA]
  clear ho hK2 hK3 hs hst hr g hd0 hd1 hk0 hk1 hA
  by_cases h1 : 1 ≤ A
  case neg =>
    rw [if_neg (by simp [keyB, h1])]
    go_enter Tryz.func32, Tryz.ntmps32
    obtain ⟨p0, p1, p2, p3, p4, p5, p6, p7, p8, p9⟩ := H0.out.held.1
    go_wp2_with fail
    refine (K1.out _).mono ?_
    rintro e w1 ⟨rfl, hb⟩
    have H1 : Hid (Cfg w w.heap.size c w1) := H0.out.step hb
    clear K1 H0 hb p0 p1 p2 p3 p4 p5 p6 p7 p8 p9 
    obtain ⟨p0, p1, p2, p3, p4, p5, p6, p7, p8, p9⟩ := H1.out.held.1
    go_wp2_with fail
    refine (K2.out _).mono ?_
    rintro e w2 ⟨rfl, rfl⟩
    have H2 : Hid (Cfg w w.heap.size c w2) := H1.out
    clear K2 H1 p0 p1 p2 p3 p4 p5 p6 p7 p8 p9 
    obtain ⟨p0, p1, p2, p3, p4, p5, p6, p7, p8, p9⟩ := H2.out.held.1
    go_wp2_with fail
    refine (K3.out _).mono ?_
    rintro e w3 ⟨rfl, rfl⟩
    have H3 : Hid (Cfg w w.heap.size c w3) := H2.out
    clear K3 H2 p0 p1 p2 p3 p4 p5 p6 p7 p8 p9 
    obtain ⟨p0, p1, p2, p3, p4, p5, p6, p7, p8, p9⟩ := H3.out.held.1
    go_wp2
    go_ret2
    exact ⟨by first | rfl | (simp; done) | (simp; omega), H3.out.bel⟩
  by_cases h2 : A ≤ c.k
  case neg =>
    rw [if_neg (by simp [keyB, h2])]
    go_enter Tryz.func32, Tryz.ntmps32
    obtain ⟨p0, p1, p2, p3, p4, p5, p6, p7, p8, p9⟩ := H0.out.held.1
    go_wp2_with fail
    refine (K1.out _).mono ?_
    rintro e w1 ⟨rfl, hb⟩
    have H1 : Hid (Cfg w w.heap.size c w1) := H0.out.step hb
    clear K1 H0 hb p0 p1 p2 p3 p4 p5 p6 p7 p8 p9 
    obtain ⟨p0, p1, p2, p3, p4, p5, p6, p7, p8, p9⟩ := H1.out.held.1
    go_wp2_with fail
    refine (K2.out _).mono ?_
    rintro e w2 ⟨rfl, rfl⟩
    have H2 : Hid (Cfg w w.heap.size c w2) := H1.out
    clear K2 H1 p0 p1 p2 p3 p4 p5 p6 p7 p8 p9 
    obtain ⟨p0, p1, p2, p3, p4, p5, p6, p7, p8, p9⟩ := H2.out.held.1
    go_wp2_with fail
    refine (K3.out _).mono ?_
    rintro e w3 ⟨rfl, rfl⟩
    have H3 : Hid (Cfg w w.heap.size c w3) := H2.out
    clear K3 H2 p0 p1 p2 p3 p4 p5 p6 p7 p8 p9 
    obtain ⟨p0, p1, p2, p3, p4, p5, p6, p7, p8, p9⟩ := H3.out.held.1
    go_wp2
    go_ret2
    exact ⟨by first | rfl | (simp; done) | (simp; omega), H3.out.bel⟩
  rw [if_pos (by simp [keyB, h1, h2])]
  go_enter Tryz.func32, Tryz.ntmps32
  obtain ⟨p0, p1, p2, p3, p4, p5, p6, p7, p8, p9⟩ := H0.out.held.1
  go_wp2_with fail
  refine (K1.out _).mono ?_
  rintro e w1 ⟨rfl, hb⟩
  have H1 : Hid (Cfg w w.heap.size c w1) := H0.out.step hb
  clear K1 H0 hb p0 p1 p2 p3 p4 p5 p6 p7 p8 p9 
  obtain ⟨p0, p1, p2, p3, p4, p5, p6, p7, p8, p9⟩ := H1.out.held.1
  go_wp2_with fail
  refine (K2.out _).mono ?_
  rintro e w2 ⟨rfl, rfl⟩
  have H2 : Hid (Cfg w w.heap.size c w2) := H1.out
  clear K2 H1 p0 p1 p2 p3 p4 p5 p6 p7 p8 p9 
  obtain ⟨p0, p1, p2, p3, p4, p5, p6, p7, p8, p9⟩ := H2.out.held.1
  go_wp2_with fail
  refine (K3.out _).mono ?_
  rintro e w3 ⟨rfl, rfl⟩
  have H3 : Hid (Cfg w w.heap.size c w3) := H2.out
  clear K3 H2 p0 p1 p2 p3 p4 p5 p6 p7 p8 p9 
  obtain ⟨p0, p1, p2, p3, p4, p5, p6, p7, p8, p9⟩ := H3.out.held.1
  go_wp2
  go_ret2
  exact ⟨by first | rfl | (simp; done) | (simp; omega), H3.out.bel⟩
set_option maxHeartbeats 3200000 in
set_option maxRecDepth 20000 in
theorem rtold_ok (w : World) (c : Cf) (st r : Int) : Calls Tryz.prog 35 #[.agg (cfC c), .int .i64 st, .int .i64 r] w fun e w' => e = .returned (tolV c st r) ∧ Below w.heap.size w w' := by
  have H0 : Hid (Cfg w w.heap.size c (w.alloc (.cells (cfC c) 23))) := Cfg.new w c
  have K1 : Hid (∀ W, Calls Tryz.prog 22 #[.agg (cfC c)] W fun e w' => e = .returned (.int .i64 (if okB c = true then 0 else 1)) ∧ Below W.heap.size W w') := fun W => srcheck_ok W c
  cases ho : okB c
  case false =>
    rw [ho, if_neg Bool.false_ne_true] at K1
    rw [tolV, if_neg (by simp [sinB, ho])]
    clear ho
    go_enter Tryz.func35, Tryz.ntmps35
    obtain ⟨p0, p1, p2, p3, p4, p5, p6, p7, p8, p9⟩ := H0.out.held.1
    go_wp2_with fail
    refine (K1.out _).mono ?_
    rintro e w1 ⟨rfl, hb⟩
    have H1 : Hid (Cfg w w.heap.size c w1) := H0.out.step hb
    clear K1 H0 hb p0 p1 p2 p3 p4 p5 p6 p7 p8 p9 
    go_wp2
    go_ret2
    exact ⟨by first | rfl | (simp; done) | (simp; omega), H1.out.bel⟩
  rw [ho, if_pos rfl] at K1
  cases hK2 : roundB st
  case false =>
    rw [tolV, if_neg (by simp [sinB, hK2])]
    have K2 : Hid (∀ W, Calls Tryz.prog 59 #[.int .i64 st] W fun e w' => e = .returned (.bool false) ∧ w' = W) := fun W => by have := rrnd_ok W st; rw [hK2] at this; exact this
    clear ho hK2
    go_enter Tryz.func35, Tryz.ntmps35
    obtain ⟨p0, p1, p2, p3, p4, p5, p6, p7, p8, p9⟩ := H0.out.held.1
    go_wp2_with fail
    refine (K1.out _).mono ?_
    rintro e w1 ⟨rfl, hb⟩
    have H1 : Hid (Cfg w w.heap.size c w1) := H0.out.step hb
    clear K1 H0 hb p0 p1 p2 p3 p4 p5 p6 p7 p8 p9 
    obtain ⟨p0, p1, p2, p3, p4, p5, p6, p7, p8, p9⟩ := H1.out.held.1
    go_wp2_with fail
    refine (K2.out _).mono ?_
    rintro e w2 ⟨rfl, rfl⟩
    have H2 : Hid (Cfg w w.heap.size c w2) := H1.out
    clear K2 H1 p0 p1 p2 p3 p4 p5 p6 p7 p8 p9 
    go_wp2
    go_ret2
    exact ⟨by first | rfl | (simp; done) | (simp; omega), H2.out.bel⟩
  have K2 : Hid (∀ W, Calls Tryz.prog 59 #[.int .i64 st] W fun e w' => e = .returned (.bool true) ∧ w' = W) := fun W => by have := rrnd_ok W st; rw [hK2] at this; exact this
  cases hK3 : roundB r
  case false =>
    rw [tolV, if_neg (by simp [sinB, hK3])]
    have K3 : Hid (∀ W, Calls Tryz.prog 59 #[.int .i64 r] W fun e w' => e = .returned (.bool false) ∧ w' = W) := fun W => by have := rrnd_ok W r; rw [hK3] at this; exact this
    clear ho hK2 hK3
    go_enter Tryz.func35, Tryz.ntmps35
    obtain ⟨p0, p1, p2, p3, p4, p5, p6, p7, p8, p9⟩ := H0.out.held.1
    go_wp2_with fail
    refine (K1.out _).mono ?_
    rintro e w1 ⟨rfl, hb⟩
    have H1 : Hid (Cfg w w.heap.size c w1) := H0.out.step hb
    clear K1 H0 hb p0 p1 p2 p3 p4 p5 p6 p7 p8 p9 
    obtain ⟨p0, p1, p2, p3, p4, p5, p6, p7, p8, p9⟩ := H1.out.held.1
    go_wp2_with fail
    refine (K2.out _).mono ?_
    rintro e w2 ⟨rfl, rfl⟩
    have H2 : Hid (Cfg w w.heap.size c w2) := H1.out
    clear K2 H1 p0 p1 p2 p3 p4 p5 p6 p7 p8 p9 
    obtain ⟨p0, p1, p2, p3, p4, p5, p6, p7, p8, p9⟩ := H2.out.held.1
    go_wp2_with fail
    refine (K3.out _).mono ?_
    rintro e w3 ⟨rfl, rfl⟩
    have H3 : Hid (Cfg w w.heap.size c w3) := H2.out
    clear K3 H2 p0 p1 p2 p3 p4 p5 p6 p7 p8 p9 
    go_wp2
    go_ret2
    exact ⟨by first | rfl | (simp; done) | (simp; omega), H3.out.bel⟩
  have K3 : Hid (∀ W, Calls Tryz.prog 59 #[.int .i64 r] W fun e w' => e = .returned (.bool true) ∧ w' = W) := fun W => by have := rrnd_ok W r; rw [hK3] at this; exact this
  have hs : sinB c st r = true := by simp [sinB, ho, hK2, hK3]
  obtain ⟨_, hst, hr⟩ := sin_in hs
  have g := right_of ho
  have hd0 := g.d0
  have hd1 := g.d1
  have hk0 := g.k0
  have hk1 := g.k1
  obtain ⟨A, hA⟩ : ∃ A, A = r - st := ⟨_, rfl⟩
  have e1 : IntKind.i64.wrap (r - st) = A := by rw [hA]; exact wrap_in (by omega) (by omega)
  rw [tolV, if_pos hs, ← hA]
  by_cases h1 : r ≤ st
  case pos =>
    rw [if_neg (by omega)]
    clear ho hK2 hK3 hs hst hr g hd0 hd1 hk0 hk1 hA
    go_enter Tryz.func35, Tryz.ntmps35
    obtain ⟨p0, p1, p2, p3, p4, p5, p6, p7, p8, p9⟩ := H0.out.held.1
    go_wp2_with fail
    refine (K1.out _).mono ?_
    rintro e w1 ⟨rfl, hb⟩
    have H1 : Hid (Cfg w w.heap.size c w1) := H0.out.step hb
    clear K1 H0 hb p0 p1 p2 p3 p4 p5 p6 p7 p8 p9 
    obtain ⟨p0, p1, p2, p3, p4, p5, p6, p7, p8, p9⟩ := H1.out.held.1
    go_wp2_with fail
    refine (K2.out _).mono ?_
    rintro e w2 ⟨rfl, rfl⟩
    have H2 : Hid (Cfg w w.heap.size c w2) := H1.out
    clear K2 H1 p0 p1 p2 p3 p4 p5 p6 p7 p8 p9 
    obtain ⟨p0, p1, p2, p3, p4, p5, p6, p7, p8, p9⟩ := H2.out.held.1
    go_wp2_with fail
    refine (K3.out _).mono ?_
    rintro e w3 ⟨rfl, rfl⟩
    have H3 : Hid (Cfg w w.heap.size c w3) := H2.out
    clear K3 H2 p0 p1 p2 p3 p4 p5 p6 p7 p8 p9 
    obtain ⟨p0, p1, p2, p3, p4, p5, p6, p7, p8, p9⟩ := H3.out.held.1
    go_wp2
    go_ret2
    exact ⟨by first | rfl | (simp; done) | (simp; omega), H3.out.bel⟩
  rw [if_pos (by omega)]
  obtain ⟨B, hB⟩ : ∃ B, B = A - c.d := ⟨_, rfl⟩
  have e2 : IntKind.i64.wrap (A - c.d) = B := by rw [hB]; exact wrap_in (by omega) (by omega)
  unfold tolN mnN mxN
  rw [← hB]
  clear ho hK2 hK3 hs hst hr g hd0 hd1 hk0 hk1 hA hB
  go_enter Tryz.func35, Tryz.ntmps35
  obtain ⟨p0, p1, p2, p3, p4, p5, p6, p7, p8, p9⟩ := H0.out.held.1
  go_wp2_with fail
  refine (K1.out _).mono ?_
  rintro e w1 ⟨rfl, hb⟩
  have H1 : Hid (Cfg w w.heap.size c w1) := H0.out.step hb
  clear K1 H0 hb p0 p1 p2 p3 p4 p5 p6 p7 p8 p9 
  obtain ⟨p0, p1, p2, p3, p4, p5, p6, p7, p8, p9⟩ := H1.out.held.1
  go_wp2_with fail
  refine (K2.out _).mono ?_
  rintro e w2 ⟨rfl, rfl⟩
  have H2 : Hid (Cfg w w.heap.size c w2) := H1.out
  clear K2 H1 p0 p1 p2 p3 p4 p5 p6 p7 p8 p9 
  obtain ⟨p0, p1, p2, p3, p4, p5, p6, p7, p8, p9⟩ := H2.out.held.1
  go_wp2_with fail
  refine (K3.out _).mono ?_
  rintro e w3 ⟨rfl, rfl⟩
  have H3 : Hid (Cfg w w.heap.size c w3) := H2.out
  clear K3 H2 p0 p1 p2 p3 p4 p5 p6 p7 p8 p9 
  obtain ⟨p0, p1, p2, p3, p4, p5, p6, p7, p8, p9⟩ := H3.out.held.1
  go_wp2
  all_goals
    go_ret2
    exact ⟨by first | rfl | (simp; done) | (simp; omega), H3.out.bel⟩
set_option maxHeartbeats 3200000 in
set_option maxRecDepth 20000 in
theorem rover_ok (w : World) (c : Cf) (st r : Int) : Calls Tryz.prog 39 #[.agg (cfC c), .int .i64 st, .int .i64 r] w fun e w' => e = .returned (.bool (ovB c st r)) ∧ Below w.heap.size w w' := by
  have H0 : Hid (Cfg w w.heap.size c (w.alloc (.cells (cfC c) 23))) := Cfg.new w c
  have K1 : Hid (∀ W, Calls Tryz.prog 22 #[.agg (cfC c)] W fun e w' => e = .returned (.int .i64 (if okB c = true then 0 else 1)) ∧ Below W.heap.size W w') := fun W => srcheck_ok W c
  cases ho : okB c
  case false =>
    rw [ho, if_neg Bool.false_ne_true] at K1
    rw [show ovB c st r = false by simp [ovB, sinB, ho]]
    clear ho
    go_enter Tryz.func39, Tryz.ntmps39
    obtain ⟨p0, p1, p2, p3, p4, p5, p6, p7, p8, p9⟩ := H0.out.held.1
    go_wp2_with fail
    refine (K1.out _).mono ?_
    rintro e w1 ⟨rfl, hb⟩
    have H1 : Hid (Cfg w w.heap.size c w1) := H0.out.step hb
    clear K1 H0 hb p0 p1 p2 p3 p4 p5 p6 p7 p8 p9 
    go_wp2
    go_ret
    exact ⟨by first | rfl | (simp; done) | (simp; omega), H1.out.bel⟩
  rw [ho, if_pos rfl] at K1
  cases hK2 : roundB st
  case false =>
    rw [show ovB c st r = false by simp [ovB, sinB, hK2]]
    have K2 : Hid (∀ W, Calls Tryz.prog 59 #[.int .i64 st] W fun e w' => e = .returned (.bool false) ∧ w' = W) := fun W => by have := rrnd_ok W st; rw [hK2] at this; exact this
    clear ho hK2
    go_enter Tryz.func39, Tryz.ntmps39
    obtain ⟨p0, p1, p2, p3, p4, p5, p6, p7, p8, p9⟩ := H0.out.held.1
    go_wp2_with fail
    refine (K1.out _).mono ?_
    rintro e w1 ⟨rfl, hb⟩
    have H1 : Hid (Cfg w w.heap.size c w1) := H0.out.step hb
    clear K1 H0 hb p0 p1 p2 p3 p4 p5 p6 p7 p8 p9 
    obtain ⟨p0, p1, p2, p3, p4, p5, p6, p7, p8, p9⟩ := H1.out.held.1
    go_wp2_with fail
    refine (K2.out _).mono ?_
    rintro e w2 ⟨rfl, rfl⟩
    have H2 : Hid (Cfg w w.heap.size c w2) := H1.out
    clear K2 H1 p0 p1 p2 p3 p4 p5 p6 p7 p8 p9 
    go_wp2
    go_ret
    exact ⟨by first | rfl | (simp; done) | (simp; omega), H2.out.bel⟩
  have K2 : Hid (∀ W, Calls Tryz.prog 59 #[.int .i64 st] W fun e w' => e = .returned (.bool true) ∧ w' = W) := fun W => by have := rrnd_ok W st; rw [hK2] at this; exact this
  cases hK3 : roundB r
  case false =>
    rw [show ovB c st r = false by simp [ovB, sinB, hK3]]
    have K3 : Hid (∀ W, Calls Tryz.prog 59 #[.int .i64 r] W fun e w' => e = .returned (.bool false) ∧ w' = W) := fun W => by have := rrnd_ok W r; rw [hK3] at this; exact this
    clear ho hK2 hK3
    go_enter Tryz.func39, Tryz.ntmps39
    obtain ⟨p0, p1, p2, p3, p4, p5, p6, p7, p8, p9⟩ := H0.out.held.1
    go_wp2_with fail
    refine (K1.out _).mono ?_
    rintro e w1 ⟨rfl, hb⟩
    have H1 : Hid (Cfg w w.heap.size c w1) := H0.out.step hb
    clear K1 H0 hb p0 p1 p2 p3 p4 p5 p6 p7 p8 p9 
    obtain ⟨p0, p1, p2, p3, p4, p5, p6, p7, p8, p9⟩ := H1.out.held.1
    go_wp2_with fail
    refine (K2.out _).mono ?_
    rintro e w2 ⟨rfl, rfl⟩
    have H2 : Hid (Cfg w w.heap.size c w2) := H1.out
    clear K2 H1 p0 p1 p2 p3 p4 p5 p6 p7 p8 p9 
    obtain ⟨p0, p1, p2, p3, p4, p5, p6, p7, p8, p9⟩ := H2.out.held.1
    go_wp2_with fail
    refine (K3.out _).mono ?_
    rintro e w3 ⟨rfl, rfl⟩
    have H3 : Hid (Cfg w w.heap.size c w3) := H2.out
    clear K3 H2 p0 p1 p2 p3 p4 p5 p6 p7 p8 p9 
    go_wp2
    go_ret
    exact ⟨by first | rfl | (simp; done) | (simp; omega), H3.out.bel⟩
  have K3 : Hid (∀ W, Calls Tryz.prog 59 #[.int .i64 r] W fun e w' => e = .returned (.bool true) ∧ w' = W) := fun W => by have := rrnd_ok W r; rw [hK3] at this; exact this
  have hs : sinB c st r = true := by simp [sinB, ho, hK2, hK3]
  obtain ⟨_, hst, hr⟩ := sin_in hs
  have g := right_of ho
  have hd0 := g.d0
  have hd1 := g.d1
  have hk0 := g.k0
  have hk1 := g.k1
  obtain ⟨A, hA⟩ : ∃ A, A = r - st := ⟨_, rfl⟩
  have e1 : IntKind.i64.wrap (r - st) = A := by rw [hA]; exact wrap_in (by omega) (by omega)
  rw [show ovB c st r = decide (c.k - c.d < r - st) by simp [ovB, hs], ← hA]
  obtain ⟨B, hB⟩ : ∃ B, B = c.k - c.d := ⟨_, rfl⟩
  have e2 : IntKind.i64.wrap (c.k - c.d) = B := by rw [hB]; exact wrap_in (by omega) (by omega)
  rw [← hB]
  clear ho hK2 hK3 hs hst hr g hd0 hd1 hk0 hk1 hA hB
  go_enter Tryz.func39, Tryz.ntmps39
  obtain ⟨p0, p1, p2, p3, p4, p5, p6, p7, p8, p9⟩ := H0.out.held.1
  go_wp2_with fail
  refine (K1.out _).mono ?_
  rintro e w1 ⟨rfl, hb⟩
  have H1 : Hid (Cfg w w.heap.size c w1) := H0.out.step hb
  clear K1 H0 hb p0 p1 p2 p3 p4 p5 p6 p7 p8 p9 
  obtain ⟨p0, p1, p2, p3, p4, p5, p6, p7, p8, p9⟩ := H1.out.held.1
  go_wp2_with fail
  refine (K2.out _).mono ?_
  rintro e w2 ⟨rfl, rfl⟩
  have H2 : Hid (Cfg w w.heap.size c w2) := H1.out
  clear K2 H1 p0 p1 p2 p3 p4 p5 p6 p7 p8 p9 
  obtain ⟨p0, p1, p2, p3, p4, p5, p6, p7, p8, p9⟩ := H2.out.held.1
  go_wp2_with fail
  refine (K3.out _).mono ?_
  rintro e w3 ⟨rfl, rfl⟩
  have H3 : Hid (Cfg w w.heap.size c w3) := H2.out
  clear K3 H2 p0 p1 p2 p3 p4 p5 p6 p7 p8 p9 
  obtain ⟨p0, p1, p2, p3, p4, p5, p6, p7, p8, p9⟩ := H3.out.held.1
  go_wp2
  go_ret
  exact ⟨by first | rfl | (simp; done) | (simp; omega), H3.out.bel⟩
set_option maxHeartbeats 3200000 in
set_option maxRecDepth 20000 in
theorem rwhen_ok (w : World) (c : Cf) (sl st i : Int) : Calls Tryz.prog 65 #[.agg (cfC c), .int .i64 sl, .int .i64 st, .int .i64 i] w fun e w' => e = .returned (whV c sl st i) ∧ Below w.heap.size w w' := by
  have H0 : Hid (Cfg w w.heap.size c (w.alloc (.cells (cfC c) 23))) := Cfg.new w c
  have K1 : Hid (∀ W, Calls Tryz.prog 22 #[.agg (cfC c)] W fun e w' => e = .returned (.int .i64 (if okB c = true then 0 else 1)) ∧ Below W.heap.size W w') := fun W => srcheck_ok W c
  cases ho : okB c
  case false =>
    rw [ho, if_neg Bool.false_ne_true] at K1
    rw [whV, if_neg (by simp [whB, ho])]
    clear ho
    go_enter Tryz.func65, Tryz.ntmps65
    obtain ⟨p0, p1, p2, p3, p4, p5, p6, p7, p8, p9⟩ := H0.out.held.1
    go_wp2_with fail
    refine (K1.out _).mono ?_
    rintro e w1 ⟨rfl, hb⟩
    have H1 : Hid (Cfg w w.heap.size c w1) := H0.out.step hb
    clear K1 H0 hb p0 p1 p2 p3 p4 p5 p6 p7 p8 p9 
    obtain ⟨p0, p1, p2, p3, p4, p5, p6, p7, p8, p9⟩ := H1.out.held.1
    go_wp2
    go_ret2
    exact ⟨by first | rfl | (simp; done) | (simp; omega), H1.out.bel⟩
  rw [ho, if_pos rfl] at K1
  cases hK2 : roundB st
  case false =>
    rw [whV, if_neg (by simp [whB, hK2])]
    have K2 : Hid (∀ W, Calls Tryz.prog 59 #[.int .i64 st] W fun e w' => e = .returned (.bool false) ∧ w' = W) := fun W => by have := rrnd_ok W st; rw [hK2] at this; exact this
    clear ho hK2
    go_enter Tryz.func65, Tryz.ntmps65
    obtain ⟨p0, p1, p2, p3, p4, p5, p6, p7, p8, p9⟩ := H0.out.held.1
    go_wp2_with fail
    refine (K1.out _).mono ?_
    rintro e w1 ⟨rfl, hb⟩
    have H1 : Hid (Cfg w w.heap.size c w1) := H0.out.step hb
    clear K1 H0 hb p0 p1 p2 p3 p4 p5 p6 p7 p8 p9 
    obtain ⟨p0, p1, p2, p3, p4, p5, p6, p7, p8, p9⟩ := H1.out.held.1
    go_wp2_with fail
    refine (K2.out _).mono ?_
    rintro e w2 ⟨rfl, rfl⟩
    have H2 : Hid (Cfg w w.heap.size c w2) := H1.out
    clear K2 H1 p0 p1 p2 p3 p4 p5 p6 p7 p8 p9 
    obtain ⟨p0, p1, p2, p3, p4, p5, p6, p7, p8, p9⟩ := H2.out.held.1
    go_wp2
    go_ret2
    exact ⟨by first | rfl | (simp; done) | (simp; omega), H2.out.bel⟩
  have K2 : Hid (∀ W, Calls Tryz.prog 59 #[.int .i64 st] W fun e w' => e = .returned (.bool true) ∧ w' = W) := fun W => by have := rrnd_ok W st; rw [hK2] at this; exact this
  by_cases s0 : 0 ≤ sl
  case neg =>
    rw [whV, if_neg (by simp [whB, cellB, nodeB, s0])]
    clear ho hK2
    go_enter Tryz.func65, Tryz.ntmps65
    obtain ⟨p0, p1, p2, p3, p4, p5, p6, p7, p8, p9⟩ := H0.out.held.1
    go_wp2_with fail
    refine (K1.out _).mono ?_
    rintro e w1 ⟨rfl, hb⟩
    have H1 : Hid (Cfg w w.heap.size c w1) := H0.out.step hb
    clear K1 H0 hb p0 p1 p2 p3 p4 p5 p6 p7 p8 p9 
    obtain ⟨p0, p1, p2, p3, p4, p5, p6, p7, p8, p9⟩ := H1.out.held.1
    go_wp2_with fail
    refine (K2.out _).mono ?_
    rintro e w2 ⟨rfl, rfl⟩
    have H2 : Hid (Cfg w w.heap.size c w2) := H1.out
    clear K2 H1 p0 p1 p2 p3 p4 p5 p6 p7 p8 p9 
    obtain ⟨p0, p1, p2, p3, p4, p5, p6, p7, p8, p9⟩ := H2.out.held.1
    go_wp2
    go_ret2
    exact ⟨by first | rfl | (simp; done) | (simp; omega), H2.out.bel⟩
  by_cases s1 : sl < c.n
  case neg =>
    rw [whV, if_neg (by simp [whB, cellB, nodeB, s1])]
    clear ho hK2
    go_enter Tryz.func65, Tryz.ntmps65
    obtain ⟨p0, p1, p2, p3, p4, p5, p6, p7, p8, p9⟩ := H0.out.held.1
    go_wp2_with fail
    refine (K1.out _).mono ?_
    rintro e w1 ⟨rfl, hb⟩
    have H1 : Hid (Cfg w w.heap.size c w1) := H0.out.step hb
    clear K1 H0 hb p0 p1 p2 p3 p4 p5 p6 p7 p8 p9 
    obtain ⟨p0, p1, p2, p3, p4, p5, p6, p7, p8, p9⟩ := H1.out.held.1
    go_wp2_with fail
    refine (K2.out _).mono ?_
    rintro e w2 ⟨rfl, rfl⟩
    have H2 : Hid (Cfg w w.heap.size c w2) := H1.out
    clear K2 H1 p0 p1 p2 p3 p4 p5 p6 p7 p8 p9 
    obtain ⟨p0, p1, p2, p3, p4, p5, p6, p7, p8, p9⟩ := H2.out.held.1
    go_wp2
    go_ret2
    exact ⟨by first | rfl | (simp; done) | (simp; omega), H2.out.bel⟩
  by_cases i0 : 1 ≤ i
  case neg =>
    rw [whV, if_neg (by simp [whB, keyB, i0])]
    clear ho hK2
    go_enter Tryz.func65, Tryz.ntmps65
    obtain ⟨p0, p1, p2, p3, p4, p5, p6, p7, p8, p9⟩ := H0.out.held.1
    go_wp2_with fail
    refine (K1.out _).mono ?_
    rintro e w1 ⟨rfl, hb⟩
    have H1 : Hid (Cfg w w.heap.size c w1) := H0.out.step hb
    clear K1 H0 hb p0 p1 p2 p3 p4 p5 p6 p7 p8 p9 
    obtain ⟨p0, p1, p2, p3, p4, p5, p6, p7, p8, p9⟩ := H1.out.held.1
    go_wp2_with fail
    refine (K2.out _).mono ?_
    rintro e w2 ⟨rfl, rfl⟩
    have H2 : Hid (Cfg w w.heap.size c w2) := H1.out
    clear K2 H1 p0 p1 p2 p3 p4 p5 p6 p7 p8 p9 
    obtain ⟨p0, p1, p2, p3, p4, p5, p6, p7, p8, p9⟩ := H2.out.held.1
    go_wp2
    go_ret2
    exact ⟨by first | rfl | (simp; done) | (simp; omega), H2.out.bel⟩
  by_cases i1 : i ≤ c.k
  case neg =>
    rw [whV, if_neg (by simp [whB, keyB, i1])]
    clear ho hK2
    go_enter Tryz.func65, Tryz.ntmps65
    obtain ⟨p0, p1, p2, p3, p4, p5, p6, p7, p8, p9⟩ := H0.out.held.1
    go_wp2_with fail
    refine (K1.out _).mono ?_
    rintro e w1 ⟨rfl, hb⟩
    have H1 : Hid (Cfg w w.heap.size c w1) := H0.out.step hb
    clear K1 H0 hb p0 p1 p2 p3 p4 p5 p6 p7 p8 p9 
    obtain ⟨p0, p1, p2, p3, p4, p5, p6, p7, p8, p9⟩ := H1.out.held.1
    go_wp2_with fail
    refine (K2.out _).mono ?_
    rintro e w2 ⟨rfl, rfl⟩
    have H2 : Hid (Cfg w w.heap.size c w2) := H1.out
    clear K2 H1 p0 p1 p2 p3 p4 p5 p6 p7 p8 p9 
    obtain ⟨p0, p1, p2, p3, p4, p5, p6, p7, p8, p9⟩ := H2.out.held.1
    go_wp2
    go_ret2
    exact ⟨by first | rfl | (simp; done) | (simp; omega), H2.out.bel⟩
  have hv : whV c sl st i = atV c (st + i + c.d) sl := by
    unfold whV atV whN
    rw [show whB c sl st i = cellB c (st + i + c.d) sl by simp [whB, ho, hK2, keyB, i0, i1]]
  rw [hv]
  have g := right_of ho
  have hd0 := g.d0
  have hd1 := g.d1
  have hk1 := g.k1
  have hst := round_in hK2
  obtain ⟨A, hA⟩ : ∃ A, A = st + i := ⟨_, rfl⟩
  obtain ⟨B, hB⟩ : ∃ B, B = st + i + c.d := ⟨_, rfl⟩
  have e1 : IntKind.i64.wrap (st + i) = A := by rw [hA]; exact wrap_in (by omega) (by omega)
  have e2 : IntKind.i64.wrap (A + c.d) = B := by rw [hA, hB]; exact wrap_in (by omega) (by omega)
  have K4 : Hid (∀ W, Calls Tryz.prog 83 #[.agg (cfC c), .int .i64 B, .int .i64 sl] W fun e w' => ∃ a b, e = .returned (.tuple #[.int .i64 a, .int .i64 b]) ∧ atV c B sl = .tuple #[.int .i64 a, .int .i64 b] ∧ Below W.heap.size W w') := fun W =>
    (rat_ok W c B sl).mono fun e w' h => by
      obtain ⟨rfl, hb⟩ := h
      cases hc : cellB c B sl
      · exact ⟨0, 1, by simp [atV, hc], by simp [atV, hc], hb⟩
      · exact ⟨_, _, by simp [atV, hc]; exact ⟨rfl, rfl⟩, by simp [atV, hc], hb⟩
  rw [← hB]
  clear ho hK2 hv g hd0 hd1 hk1 hst hA hB
  go_enter Tryz.func65, Tryz.ntmps65
  obtain ⟨p0, p1, p2, p3, p4, p5, p6, p7, p8, p9⟩ := H0.out.held.1
  go_wp2_with fail
  refine (K1.out _).mono ?_
  rintro e w1 ⟨rfl, hb⟩
  have H1 : Hid (Cfg w w.heap.size c w1) := H0.out.step hb
  clear K1 H0 hb p0 p1 p2 p3 p4 p5 p6 p7 p8 p9 
  obtain ⟨p0, p1, p2, p3, p4, p5, p6, p7, p8, p9⟩ := H1.out.held.1
  go_wp2_with fail
  refine (K2.out _).mono ?_
  rintro e w2 ⟨rfl, rfl⟩
  have H2 : Hid (Cfg w w.heap.size c w2) := H1.out
  clear K2 H1 p0 p1 p2 p3 p4 p5 p6 p7 p8 p9 
  obtain ⟨p0, p1, p2, p3, p4, p5, p6, p7, p8, p9⟩ := H2.out.held.1
  go_wp2_with fail
  refine (K4.out _).mono ?_
  rintro e w4 ⟨a, b, rfl, hv, hb⟩
  have H4 : Hid (Cfg w w.heap.size c w4) := H2.out.step hb
  have HV : Hid (atV c B sl = .tuple #[.int .i64 a, .int .i64 b]) := hv
  clear K4 H2 hb hv p0 p1 p2 p3 p4 p5 p6 p7 p8 p9 s0 s1 i0 i1
  go_wp2
  go_ret2
  exact ⟨by rw [HV.out]; rfl, H4.out.bel⟩
end Go.Proofs.YtgncdnejmobjbaaGreatDoor

namespace Go.Proofs.YtgncdnejmobjbaaGreatDoor
open Go.ChangeShapes Go.WideShapes Go.ChangeAt Go.RowKit
set_option maxRecDepth 20000

/-- n is the greatest index below j that has been told by now. -/
structure KnU (c : Cf) (sl st now j n : Int) : Prop where
  lo : 0 ≤ n
  hi : n < j
  told : ∀ i, 1 ≤ i → i ≤ n → good c sl st now i
  next : n + 1 < j → ¬ good c sl st now (n + 1)
theorem KnU.yes {c : Cf} (ho : okB c = true) {sl st now j n : Int} (h : KnU c sl st now j n) (hg : good c sl st now j) : KnU c sl st now (j + 1) j :=
  ⟨by have := h.lo; have := h.hi; omega, by omega, fun i _ h1 => good_down ho h1 hg, fun h => by omega⟩
theorem KnU.no {c : Cf} {sl st now j n : Int} (h : KnU c sl st now j n) (hg : ¬ good c sl st now j) : KnU c sl st now (j + 1) n :=
  ⟨h.lo, by have := h.hi; omega, h.told, fun hlt => by
    by_cases he : n + 1 = j
    · rw [he]; exact hg
    · have := h.hi; exact h.next (by omega)⟩
theorem KnU.done {c : Cf} {sl st now n : Int} (h : KnU c sl st now (c.k + 1) n) : Kn c sl st now n := ⟨h.lo, by have := h.hi; omega, h.told, fun hlt => h.next (by omega)⟩

set_option maxHeartbeats 3200000 in
set_option maxRecDepth 20000 in
theorem rknown_ok (w : World) (c : Cf) (sl st now : Int) : Calls Tryz.prog 37 #[.agg (cfC c), .int .i64 sl, .int .i64 st, .int .i64 now] w fun e w' =>
    ((knB c sl st now = false ∧ e = .returned (.tuple #[.int .i64 0, .int .i64 1])) ∨ (knB c sl st now = true ∧ ∃ n, e = .returned (.tuple #[.int .i64 n, .int .i64 0]) ∧ Kn c sl st now n)) ∧ Below w.heap.size w w' := by
  have H0 : Hid (Cfg w w.heap.size c (w.alloc (.cells (cfC c) 23))) := Cfg.new w c
  have K1 : Hid (∀ W, Calls Tryz.prog 22 #[.agg (cfC c)] W fun e w' => e = .returned (.int .i64 (if okB c = true then 0 else 1)) ∧ Below W.heap.size W w') := fun W => srcheck_ok W c
  cases ho : okB c
  case false =>
    rw [ho, if_neg Bool.false_ne_true] at K1
    have HK : Hid (knB c sl st now = false) := by show knB c sl st now = false; simp [knB, placeB, ho]
    clear ho
    go_enter Tryz.func37, Tryz.ntmps37
    obtain ⟨p0, p1, p2, p3, p4, p5, p6, p7, p8, p9⟩ := H0.out.held.1
    go_wp2_with fail
    refine (K1.out _).mono ?_
    rintro e w1 ⟨rfl, hb⟩
    have H1 : Hid (Cfg w w.heap.size c w1) := H0.out.step hb
    clear K1 H0 hb p0 p1 p2 p3 p4 p5 p6 p7 p8 p9 
    obtain ⟨p0, p1, p2, p3, p4, p5, p6, p7, p8, p9⟩ := H1.out.held.1
    go_wp2
    go_ret2
    exact ⟨.inl ⟨HK.out, rfl⟩, H1.out.bel⟩
  rw [ho, if_pos rfl] at K1
  cases hK2 : roundB st
  case false =>
    have HK : Hid (knB c sl st now = false) := by show knB c sl st now = false; simp [knB, hK2]
    have K2 : Hid (∀ W, Calls Tryz.prog 59 #[.int .i64 st] W fun e w' => e = .returned (.bool false) ∧ w' = W) := fun W => by have := rrnd_ok W st; rw [hK2] at this; exact this
    clear ho hK2
    go_enter Tryz.func37, Tryz.ntmps37
    obtain ⟨p0, p1, p2, p3, p4, p5, p6, p7, p8, p9⟩ := H0.out.held.1
    go_wp2_with fail
    refine (K1.out _).mono ?_
    rintro e w1 ⟨rfl, hb⟩
    have H1 : Hid (Cfg w w.heap.size c w1) := H0.out.step hb
    clear K1 H0 hb p0 p1 p2 p3 p4 p5 p6 p7 p8 p9 
    obtain ⟨p0, p1, p2, p3, p4, p5, p6, p7, p8, p9⟩ := H1.out.held.1
    go_wp2_with fail
    refine (K2.out _).mono ?_
    rintro e w2 ⟨rfl, rfl⟩
    have H2 : Hid (Cfg w w.heap.size c w2) := H1.out
    clear K2 H1 p0 p1 p2 p3 p4 p5 p6 p7 p8 p9 
    obtain ⟨p0, p1, p2, p3, p4, p5, p6, p7, p8, p9⟩ := H2.out.held.1
    go_wp2
    go_ret2
    exact ⟨.inl ⟨HK.out, rfl⟩, H2.out.bel⟩
  have K2 : Hid (∀ W, Calls Tryz.prog 59 #[.int .i64 st] W fun e w' => e = .returned (.bool true) ∧ w' = W) := fun W => by have := rrnd_ok W st; rw [hK2] at this; exact this
  by_cases s0 : 0 ≤ sl
  case neg =>
    have HK : Hid (knB c sl st now = false) := by show knB c sl st now = false; simp [knB, s0]
    clear ho hK2
    go_enter Tryz.func37, Tryz.ntmps37
    obtain ⟨p0, p1, p2, p3, p4, p5, p6, p7, p8, p9⟩ := H0.out.held.1
    go_wp2_with fail
    refine (K1.out _).mono ?_
    rintro e w1 ⟨rfl, hb⟩
    have H1 : Hid (Cfg w w.heap.size c w1) := H0.out.step hb
    clear K1 H0 hb p0 p1 p2 p3 p4 p5 p6 p7 p8 p9 
    obtain ⟨p0, p1, p2, p3, p4, p5, p6, p7, p8, p9⟩ := H1.out.held.1
    go_wp2_with fail
    refine (K2.out _).mono ?_
    rintro e w2 ⟨rfl, rfl⟩
    have H2 : Hid (Cfg w w.heap.size c w2) := H1.out
    clear K2 H1 p0 p1 p2 p3 p4 p5 p6 p7 p8 p9 
    obtain ⟨p0, p1, p2, p3, p4, p5, p6, p7, p8, p9⟩ := H2.out.held.1
    go_wp2
    go_ret2
    exact ⟨.inl ⟨HK.out, rfl⟩, H2.out.bel⟩
  by_cases s1 : sl < c.n
  case neg =>
    have HK : Hid (knB c sl st now = false) := by show knB c sl st now = false; simp [knB, s1]
    clear ho hK2
    go_enter Tryz.func37, Tryz.ntmps37
    obtain ⟨p0, p1, p2, p3, p4, p5, p6, p7, p8, p9⟩ := H0.out.held.1
    go_wp2_with fail
    refine (K1.out _).mono ?_
    rintro e w1 ⟨rfl, hb⟩
    have H1 : Hid (Cfg w w.heap.size c w1) := H0.out.step hb
    clear K1 H0 hb p0 p1 p2 p3 p4 p5 p6 p7 p8 p9 
    obtain ⟨p0, p1, p2, p3, p4, p5, p6, p7, p8, p9⟩ := H1.out.held.1
    go_wp2_with fail
    refine (K2.out _).mono ?_
    rintro e w2 ⟨rfl, rfl⟩
    have H2 : Hid (Cfg w w.heap.size c w2) := H1.out
    clear K2 H1 p0 p1 p2 p3 p4 p5 p6 p7 p8 p9 
    obtain ⟨p0, p1, p2, p3, p4, p5, p6, p7, p8, p9⟩ := H2.out.held.1
    go_wp2
    go_ret2
    exact ⟨.inl ⟨HK.out, rfl⟩, H2.out.bel⟩
  have K3 := fun W => rplace_ok W c now
  have hv : ∃ x y z : Int, placeV c now = .tuple #[.agg #[.int .i64 x, .int .i64 y, .int .i64 z], .int .i64 (if placeB c now = true then 0 else 1)] := by
    unfold placeV
    cases placeB c now
    · exact ⟨0, 0, 0, rfl⟩
    · exact ⟨_, _, _, rfl⟩
  obtain ⟨x, y, z, hv⟩ := hv
  rw [hv] at K3
  cases hp : placeB c now
  case false =>
    rw [hp, if_neg Bool.false_ne_true] at K3
    have K3' : Hid (∀ W, Calls Tryz.prog 64 #[.agg (cfC c), .int .i64 now] W fun e w' => e = .returned (.tuple #[.agg #[.int .i64 x, .int .i64 y, .int .i64 z], .int .i64 1]) ∧ Below W.heap.size W w') := K3
    have HK : Hid (knB c sl st now = false) := by show knB c sl st now = false; simp [knB, hp]
    clear ho hK2 hp hv K3
    go_enter Tryz.func37, Tryz.ntmps37
    obtain ⟨p0, p1, p2, p3, p4, p5, p6, p7, p8, p9⟩ := H0.out.held.1
    go_wp2_with fail
    refine (K1.out _).mono ?_
    rintro e w1 ⟨rfl, hb⟩
    have H1 : Hid (Cfg w w.heap.size c w1) := H0.out.step hb
    clear K1 H0 hb p0 p1 p2 p3 p4 p5 p6 p7 p8 p9 
    obtain ⟨p0, p1, p2, p3, p4, p5, p6, p7, p8, p9⟩ := H1.out.held.1
    go_wp2_with fail
    refine (K2.out _).mono ?_
    rintro e w2 ⟨rfl, rfl⟩
    have H2 : Hid (Cfg w w.heap.size c w2) := H1.out
    clear K2 H1 p0 p1 p2 p3 p4 p5 p6 p7 p8 p9 
    obtain ⟨p0, p1, p2, p3, p4, p5, p6, p7, p8, p9⟩ := H2.out.held.1
    go_wp2_with fail
    refine (K3'.out _).mono ?_
    rintro e w3 ⟨rfl, hb⟩
    have H3 : Hid (Cfg w w.heap.size c w3) := H2.out.step hb
    clear K3' H2 hb p0 p1 p2 p3 p4 p5 p6 p7 p8 p9 s0 s1
    have H4 : Hid (Cfg w w.heap.size c (w3.alloc (.cells #[.int .i64 x, .int .i64 y, .int .i64 z] 99))) := H3.out.step (Go.Joins.below_alloc1 _ _)
    clear H3
    go_wp2
    go_ret2
    exact ⟨.inl ⟨HK.out, rfl⟩, H4.out.bel⟩
  rw [hp, if_pos rfl] at K3
  have K3' : Hid (∀ W, Calls Tryz.prog 64 #[.agg (cfC c), .int .i64 now] W fun e w' => e = .returned (.tuple #[.agg #[.int .i64 x, .int .i64 y, .int .i64 z], .int .i64 0]) ∧ Below W.heap.size W w') := K3
  have HK : Hid (knB c sl st now = true) := by show knB c sl st now = true; simp [knB, hp, hK2, s0, s1]
  have HO : Hid (okB c = true) := ho
  have hst := round_in hK2
  have HW : Hid (∀ i, 1 ≤ i → i ≤ c.k → whB c sl st i = decide (st + i + c.d < 1048576)) := fun i h0 h1 => wh_of ho hst.1 hst.2 s0 s1 h0 h1
  have HB : Hid (5 ≤ c.k ∧ c.k ≤ 256) := by
    have g := right_of ho
    have := g.k0; have := g.k1; have := g.d0
    exact ⟨by omega, by omega⟩
  clear ho hK2 hp hv K3 hst
  go_enter Tryz.func37, Tryz.ntmps37
  obtain ⟨p0, p1, p2, p3, p4, p5, p6, p7, p8, p9⟩ := H0.out.held.1
  go_wp2_with fail
  refine (K1.out _).mono ?_
  rintro e w1 ⟨rfl, hb⟩
  have H1 : Hid (Cfg w w.heap.size c w1) := H0.out.step hb
  clear K1 H0 hb p0 p1 p2 p3 p4 p5 p6 p7 p8 p9 
  obtain ⟨p0, p1, p2, p3, p4, p5, p6, p7, p8, p9⟩ := H1.out.held.1
  go_wp2_with fail
  refine (K2.out _).mono ?_
  rintro e w2 ⟨rfl, rfl⟩
  have H2 : Hid (Cfg w w.heap.size c w2) := H1.out
  clear K2 H1 p0 p1 p2 p3 p4 p5 p6 p7 p8 p9 
  obtain ⟨p0, p1, p2, p3, p4, p5, p6, p7, p8, p9⟩ := H2.out.held.1
  go_wp2_with fail
  refine (K3'.out _).mono ?_
  rintro e w3 ⟨rfl, hb⟩
  have H3 : Hid (Cfg w w.heap.size c w3) := H2.out.step hb
  clear K3' H2 hb p0 p1 p2 p3 p4 p5 p6 p7 p8 p9 s0 s1
  have H4 : Hid (Cfg w w.heap.size c (w3.alloc (.cells #[.int .i64 x, .int .i64 y, .int .i64 z] 99))) := H3.out.step (Go.Joins.below_alloc1 _ _)
  clear H3
  go_wp2
  go_loopw [12, 13] (fun nv iv wr => ∃ n j : Int, nv = .int .i64 n ∧ iv = .int .i64 j ∧ 1 ≤ j ∧ j ≤ c.k + 1 ∧ KnU c sl st now j n ∧ Cfg w w.heap.size c wr) (fun _ iv _ => (c.k + 1 - intOf iv).toNat)
  case atStart => exact ⟨0, 1, rfl, rfl, by omega, by have := HB.out; omega, ⟨by omega, by omega, fun i h0 h1 => by omega, fun h => by omega⟩, H4.out⟩
  case round =>
    obtain ⟨n, j, rfl, rfl, hj0, hj1, hk, hc⟩ := hrel
    have H5 : Hid (Cfg w w.heap.size c wr) := hc
    have HN : Hid (KnU c sl st now j n ∧ 1 ≤ j ∧ j ≤ c.k + 1) := ⟨hk, hj0, hj1⟩
    clear hk hc hj0 hj1 H4
    obtain ⟨p0, p1, p2, p3, p4, p5, p6, p7, p8, p9⟩ := H5.out.held.1
    by_cases hj : j ≤ c.k
    · have k2 := rwhen_ok wr c sl st j
      unfold whV at k2
      have e1 : IntKind.i64.wrap (j + 1) = j + 1 := wrap_in (by have := HN.out.2; omega) (by have := HB.out; omega)
      obtain ⟨j2, hj2⟩ : ∃ j2, j2 = j + 1 := ⟨_, rfl⟩
      have e2 : IntKind.i64.wrap (j + 1) = j2 := by rw [hj2]; exact e1
      have HE : Hid (j2 = j + 1) := hj2
      clear e1 hj2
      cases hw : whB c sl st j
      · rw [hw, if_neg Bool.false_ne_true] at k2
        have HG : Hid (KnU c sl st now j2 n) := by
          have h1 := HW.out j HN.out.2.1 hj
          rw [hw] at h1
          rw [HE.out]
          exact HN.out.1.no fun hg => absurd hg.1 (of_decide_eq_false h1.symm)
        have HM : Hid ((c.k + 1 - j2).toNat < (c.k + 1 - j).toNat ∧ 1 ≤ j2 ∧ j2 ≤ c.k + 1) := by
          have := HE.out; have := HN.out.2
          exact ⟨by omega, by omega, by omega⟩
        clear hw
        go_wp2_with fail
        refine k2.mono ?_
        rintro e w5 ⟨rfl, hb⟩
        have H6 : Hid (Cfg w w.heap.size c w5) := H5.out.step hb
        clear k2 H5 hb p0 p1 p2 p3 p4 p5 p6 p7 p8 p9
        go_wp2
        go_roundw
        case rel => exact ⟨n, j2, rfl, rfl, HM.out.2.1, HM.out.2.2, HG.out, H6.out⟩
        case measure => exact HM.out.1
      · rw [hw, if_pos rfl] at k2
        have HR : Hid (st + j + c.d < 1048576) := (cell_ok (wh_in hw).2.2.2).2.1
        have HM : Hid ((c.k + 1 - j2).toNat < (c.k + 1 - j).toNat ∧ 1 ≤ j2 ∧ j2 ≤ c.k + 1) := by
          have := HE.out; have := HN.out.2
          exact ⟨by omega, by omega, by omega⟩
        clear hw
        obtain ⟨T, hT⟩ : ∃ T, T = whN c sl st j := ⟨_, rfl⟩
        rw [← hT] at k2
        have HT : Hid (T = whN c sl st j) := hT
        clear hT
        by_cases ht : T ≤ now
        · have HG : Hid (KnU c sl st now j2 j) := by
            rw [HE.out]
            exact HN.out.1.yes HO.out ⟨HR.out, by rw [← HT.out]; exact ht⟩
          go_wp2_with fail
          refine k2.mono ?_
          rintro e w5 ⟨rfl, hb⟩
          have H6 : Hid (Cfg w w.heap.size c w5) := H5.out.step hb
          clear k2 H5 hb p0 p1 p2 p3 p4 p5 p6 p7 p8 p9
          go_wp2
          go_roundw
          case rel => exact ⟨j, j2, rfl, rfl, HM.out.2.1, HM.out.2.2, HG.out, H6.out⟩
          case measure => exact HM.out.1
        · have HG : Hid (KnU c sl st now j2 n) := by
            rw [HE.out]
            exact HN.out.1.no fun hg => ht (by rw [HT.out]; exact hg.2)
          go_wp2_with fail
          refine k2.mono ?_
          rintro e w5 ⟨rfl, hb⟩
          have H6 : Hid (Cfg w w.heap.size c w5) := H5.out.step hb
          clear k2 H5 hb p0 p1 p2 p3 p4 p5 p6 p7 p8 p9
          go_wp2
          go_roundw
          case rel => exact ⟨n, j2, rfl, rfl, HM.out.2.1, HM.out.2.2, HG.out, H6.out⟩
          case measure => exact HM.out.1
    · have HD : Hid (Kn c sl st now n) := by
        have h := HN.out
        have e : j = c.k + 1 := by omega
        rw [e] at h
        exact h.1.done
      go_wp2
      go_ret2
      exact ⟨.inr ⟨HK.out, n, rfl, HD.out⟩, H5.out.bel⟩
end Go.Proofs.YtgncdnejmobjbaaGreatDoor
