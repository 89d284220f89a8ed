/-
  The document's side: round, Index, Told, When, Over.
-/
import Derived.Test.YtiolkbdjphhajaaDisB
import Derived.Test.YtiolkbdjphhajaaSchedU
namespace Go.Proofs.Ytiolkbdjphhajaa
open Go.ChangeShapes Go.WideShapes Go.ChangeAt Go.RowKit

theorem rrnd_ok (w : World) (n : Int) : Calls Try.prog 25 #[.int .i64 n] w fun e w' => e = .returned (.bool (roundB n)) ∧ w' = w := by
  by_cases h0 : 0 ≤ n
  · have hN : roundB n = decide (n < 1048576) := by simp [roundB, h0]
    rw [hN]
    clear hN
    by_cases h1 : n < 1048576
    all_goals
      simp only [h1, decide_true, decide_false]
      go_enter Try.func25, Try.ntmps25
      go_wp2
      go_ret
      exact ⟨by first | rfl | (simp; done) | (simp; omega), rfl⟩
  · rw [show roundB n = false by simp [roundB, h0]]
    go_enter Try.func25, Try.ntmps25
    go_wp2
    go_ret
    exact ⟨by first | rfl | (simp; done) | (simp; omega), rfl⟩
set_option maxHeartbeats 3200000 in
set_option maxRecDepth 20000 in
theorem rindex_ok (w : World) (c : Cf) (st r : Int) : Calls Try.prog 8 #[.agg (cfC c), .int .i64 st, .int .i64 r] w fun e w' => e = .returned (idxV c st r) ∧ Below w.heap.size w w' := by
  have H0 : Hid (Cfg w w.heap.size c (w.alloc (.cells (cfC c) 23))) := Cfg.new w c
  have K1 : Hid (∀ W, Calls Try.prog 24 #[.agg (cfC c)] W fun e w' => e = .returned (.int .i64 (if okB c = true then 0 else 1)) ∧ Below W.heap.size W w') := fun W => rcheck_ok W c
  cases ho : okB c
  case false =>
    rw [ho, if_neg Bool.false_ne_true] at K1
    rw [idxV, if_neg (by simp [sinB, ho])]
    clear ho
    go_enter Try.func8, Try.ntmps8
    obtain ⟨p0, p1, p2, p3, p4, p5, p6, p7, p8, p9⟩ := H0.out.held.1
    go_wp2_with fail
    refine (K1.out _).mono ?_
    rintro e w1 ⟨rfl, hb⟩
    have H1 : Hid (Cfg w w.heap.size c w1) := H0.out.step hb
    clear K1 H0 hb p0 p1 p2 p3 p4 p5 p6 p7 p8 p9 
    go_wp2
    go_ret2
    exact ⟨by first | rfl | (simp; done) | (simp; omega), H1.out.bel⟩
  rw [ho, if_pos rfl] at K1
  cases hK2 : roundB st
  case false =>
    rw [idxV, if_neg (by simp [sinB, hK2])]
    have K2 : Hid (∀ W, Calls Try.prog 25 #[.int .i64 st] W fun e w' => e = .returned (.bool false) ∧ w' = W) := fun W => by have := rrnd_ok W st; rw [hK2] at this; exact this
    clear ho hK2
    go_enter Try.func8, Try.ntmps8
    obtain ⟨p0, p1, p2, p3, p4, p5, p6, p7, p8, p9⟩ := H0.out.held.1
    go_wp2_with fail
    refine (K1.out _).mono ?_
    rintro e w1 ⟨rfl, hb⟩
    have H1 : Hid (Cfg w w.heap.size c w1) := H0.out.step hb
    clear K1 H0 hb p0 p1 p2 p3 p4 p5 p6 p7 p8 p9 
    obtain ⟨p0, p1, p2, p3, p4, p5, p6, p7, p8, p9⟩ := H1.out.held.1
    go_wp2_with fail
    refine (K2.out _).mono ?_
    rintro e w2 ⟨rfl, rfl⟩
    have H2 : Hid (Cfg w w.heap.size c w2) := H1.out
    clear K2 H1 p0 p1 p2 p3 p4 p5 p6 p7 p8 p9 
    go_wp2
    go_ret2
    exact ⟨by first | rfl | (simp; done) | (simp; omega), H2.out.bel⟩
  have K2 : Hid (∀ W, Calls Try.prog 25 #[.int .i64 st] W fun e w' => e = .returned (.bool true) ∧ w' = W) := fun W => by have := rrnd_ok W st; rw [hK2] at this; exact this
  cases hK3 : roundB r
  case false =>
    rw [idxV, if_neg (by simp [sinB, hK3])]
    have K3 : Hid (∀ W, Calls Try.prog 25 #[.int .i64 r] W fun e w' => e = .returned (.bool false) ∧ w' = W) := fun W => by have := rrnd_ok W r; rw [hK3] at this; exact this
    clear ho hK2 hK3
    go_enter Try.func8, Try.ntmps8
    obtain ⟨p0, p1, p2, p3, p4, p5, p6, p7, p8, p9⟩ := H0.out.held.1
    go_wp2_with fail
    refine (K1.out _).mono ?_
    rintro e w1 ⟨rfl, hb⟩
    have H1 : Hid (Cfg w w.heap.size c w1) := H0.out.step hb
    clear K1 H0 hb p0 p1 p2 p3 p4 p5 p6 p7 p8 p9 
    obtain ⟨p0, p1, p2, p3, p4, p5, p6, p7, p8, p9⟩ := H1.out.held.1
    go_wp2_with fail
    refine (K2.out _).mono ?_
    rintro e w2 ⟨rfl, rfl⟩
    have H2 : Hid (Cfg w w.heap.size c w2) := H1.out
    clear K2 H1 p0 p1 p2 p3 p4 p5 p6 p7 p8 p9 
    obtain ⟨p0, p1, p2, p3, p4, p5, p6, p7, p8, p9⟩ := H2.out.held.1
    go_wp2_with fail
    refine (K3.out _).mono ?_
    rintro e w3 ⟨rfl, rfl⟩
    have H3 : Hid (Cfg w w.heap.size c w3) := H2.out
    clear K3 H2 p0 p1 p2 p3 p4 p5 p6 p7 p8 p9 
    go_wp2
    go_ret2
    exact ⟨by first | rfl | (simp; done) | (simp; omega), H3.out.bel⟩
  have K3 : Hid (∀ W, Calls Try.prog 25 #[.int .i64 r] W fun e w' => e = .returned (.bool true) ∧ w' = W) := fun W => by have := rrnd_ok W r; rw [hK3] at this; exact this
  have hs : sinB c st r = true := by simp [sinB, ho, hK2, hK3]
  obtain ⟨_, hst, hr⟩ := sin_in hs
  have g := right_of ho
  have hd0 := g.d0
  have hd1 := g.d1
  have hk0 := g.k0
  have hk1 := g.k1
  obtain ⟨A, hA⟩ : ∃ A, A = r - st := ⟨_, rfl⟩
  have e1 : IntKind.i64.wrap (r - st) = A := by rw [hA]; exact wrap_in (by omega) (by omega)
  rw [idxV, if_pos hs, ← hA]
  clear ho hK2 hK3 hs hst hr g hd0 hd1 hk0 hk1 hA
  by_cases h1 : 1 ≤ A
  case neg =>
    rw [if_neg (by simp [keyB, h1])]
    go_enter Try.func8, Try.ntmps8
    obtain ⟨p0, p1, p2, p3, p4, p5, p6, p7, p8, p9⟩ := H0.out.held.1
    go_wp2_with fail
    refine (K1.out _).mono ?_
    rintro e w1 ⟨rfl, hb⟩
    have H1 : Hid (Cfg w w.heap.size c w1) := H0.out.step hb
    clear K1 H0 hb p0 p1 p2 p3 p4 p5 p6 p7 p8 p9 
    obtain ⟨p0, p1, p2, p3, p4, p5, p6, p7, p8, p9⟩ := H1.out.held.1
    go_wp2_with fail
    refine (K2.out _).mono ?_
    rintro e w2 ⟨rfl, rfl⟩
    have H2 : Hid (Cfg w w.heap.size c w2) := H1.out
    clear K2 H1 p0 p1 p2 p3 p4 p5 p6 p7 p8 p9 
    obtain ⟨p0, p1, p2, p3, p4, p5, p6, p7, p8, p9⟩ := H2.out.held.1
    go_wp2_with fail
    refine (K3.out _).mono ?_
    rintro e w3 ⟨rfl, rfl⟩
    have H3 : Hid (Cfg w w.heap.size c w3) := H2.out
    clear K3 H2 p0 p1 p2 p3 p4 p5 p6 p7 p8 p9 
    obtain ⟨p0, p1, p2, p3, p4, p5, p6, p7, p8, p9⟩ := H3.out.held.1
    go_wp2
    go_ret2
    exact ⟨by first | rfl | (simp; done) | (simp; omega), H3.out.bel⟩
  by_cases h2 : A ≤ c.k
  case neg =>
    rw [if_neg (by simp [keyB, h2])]
    go_enter Try.func8, Try.ntmps8
    obtain ⟨p0, p1, p2, p3, p4, p5, p6, p7, p8, p9⟩ := H0.out.held.1
    go_wp2_with fail
    refine (K1.out _).mono ?_
    rintro e w1 ⟨rfl, hb⟩
    have H1 : Hid (Cfg w w.heap.size c w1) := H0.out.step hb
    clear K1 H0 hb p0 p1 p2 p3 p4 p5 p6 p7 p8 p9 
    obtain ⟨p0, p1, p2, p3, p4, p5, p6, p7, p8, p9⟩ := H1.out.held.1
    go_wp2_with fail
    refine (K2.out _).mono ?_
    rintro e w2 ⟨rfl, rfl⟩
    have H2 : Hid (Cfg w w.heap.size c w2) := H1.out
    clear K2 H1 p0 p1 p2 p3 p4 p5 p6 p7 p8 p9 
    obtain ⟨p0, p1, p2, p3, p4, p5, p6, p7, p8, p9⟩ := H2.out.held.1
    go_wp2_with fail
    refine (K3.out _).mono ?_
    rintro e w3 ⟨rfl, rfl⟩
    have H3 : Hid (Cfg w w.heap.size c w3) := H2.out
    clear K3 H2 p0 p1 p2 p3 p4 p5 p6 p7 p8 p9 
    obtain ⟨p0, p1, p2, p3, p4, p5, p6, p7, p8, p9⟩ := H3.out.held.1
    go_wp2
    go_ret2
    exact ⟨by first | rfl | (simp; done) | (simp; omega), H3.out.bel⟩
  rw [if_pos (by simp [keyB, h1, h2])]
  go_enter Try.func8, Try.ntmps8
  obtain ⟨p0, p1, p2, p3, p4, p5, p6, p7, p8, p9⟩ := H0.out.held.1
  go_wp2_with fail
  refine (K1.out _).mono ?_
  rintro e w1 ⟨rfl, hb⟩
  have H1 : Hid (Cfg w w.heap.size c w1) := H0.out.step hb
  clear K1 H0 hb p0 p1 p2 p3 p4 p5 p6 p7 p8 p9 
  obtain ⟨p0, p1, p2, p3, p4, p5, p6, p7, p8, p9⟩ := H1.out.held.1
  go_wp2_with fail
  refine (K2.out _).mono ?_
  rintro e w2 ⟨rfl, rfl⟩
  have H2 : Hid (Cfg w w.heap.size c w2) := H1.out
  clear K2 H1 p0 p1 p2 p3 p4 p5 p6 p7 p8 p9 
  obtain ⟨p0, p1, p2, p3, p4, p5, p6, p7, p8, p9⟩ := H2.out.held.1
  go_wp2_with fail
  refine (K3.out _).mono ?_
  rintro e w3 ⟨rfl, rfl⟩
  have H3 : Hid (Cfg w w.heap.size c w3) := H2.out
  clear K3 H2 p0 p1 p2 p3 p4 p5 p6 p7 p8 p9 
  obtain ⟨p0, p1, p2, p3, p4, p5, p6, p7, p8, p9⟩ := H3.out.held.1
  go_wp2
  go_ret2
  exact ⟨by first | rfl | (simp; done) | (simp; omega), H3.out.bel⟩
set_option maxHeartbeats 3200000 in
set_option maxRecDepth 20000 in
theorem rtold_ok (w : World) (c : Cf) (st r : Int) : Calls Try.prog 10 #[.agg (cfC c), .int .i64 st, .int .i64 r] w fun e w' => e = .returned (tolV c st r) ∧ Below w.heap.size w w' := by
  have H0 : Hid (Cfg w w.heap.size c (w.alloc (.cells (cfC c) 23))) := Cfg.new w c
  have K1 : Hid (∀ W, Calls Try.prog 24 #[.agg (cfC c)] W fun e w' => e = .returned (.int .i64 (if okB c = true then 0 else 1)) ∧ Below W.heap.size W w') := fun W => rcheck_ok W c
  cases ho : okB c
  case false =>
    rw [ho, if_neg Bool.false_ne_true] at K1
    rw [tolV, if_neg (by simp [sinB, ho])]
    clear ho
    go_enter Try.func10, Try.ntmps10
    obtain ⟨p0, p1, p2, p3, p4, p5, p6, p7, p8, p9⟩ := H0.out.held.1
    go_wp2_with fail
    refine (K1.out _).mono ?_
    rintro e w1 ⟨rfl, hb⟩
    have H1 : Hid (Cfg w w.heap.size c w1) := H0.out.step hb
    clear K1 H0 hb p0 p1 p2 p3 p4 p5 p6 p7 p8 p9 
    go_wp2
    go_ret2
    exact ⟨by first | rfl | (simp; done) | (simp; omega), H1.out.bel⟩
  rw [ho, if_pos rfl] at K1
  cases hK2 : roundB st
  case false =>
    rw [tolV, if_neg (by simp [sinB, hK2])]
    have K2 : Hid (∀ W, Calls Try.prog 25 #[.int .i64 st] W fun e w' => e = .returned (.bool false) ∧ w' = W) := fun W => by have := rrnd_ok W st; rw [hK2] at this; exact this
    clear ho hK2
    go_enter Try.func10, Try.ntmps10
    obtain ⟨p0, p1, p2, p3, p4, p5, p6, p7, p8, p9⟩ := H0.out.held.1
    go_wp2_with fail
    refine (K1.out _).mono ?_
    rintro e w1 ⟨rfl, hb⟩
    have H1 : Hid (Cfg w w.heap.size c w1) := H0.out.step hb
    clear K1 H0 hb p0 p1 p2 p3 p4 p5 p6 p7 p8 p9 
    obtain ⟨p0, p1, p2, p3, p4, p5, p6, p7, p8, p9⟩ := H1.out.held.1
    go_wp2_with fail
    refine (K2.out _).mono ?_
    rintro e w2 ⟨rfl, rfl⟩
    have H2 : Hid (Cfg w w.heap.size c w2) := H1.out
    clear K2 H1 p0 p1 p2 p3 p4 p5 p6 p7 p8 p9 
    go_wp2
    go_ret2
    exact ⟨by first | rfl | (simp; done) | (simp; omega), H2.out.bel⟩
  have K2 : Hid (∀ W, Calls Try.prog 25 #[.int .i64 st] W fun e w' => e = .returned (.bool true) ∧ w' = W) := fun W => by have := rrnd_ok W st; rw [hK2] at this; exact this
  cases hK3 : roundB r
  case false =>
    rw [tolV, if_neg (by simp [sinB, hK3])]
    have K3 : Hid (∀ W, Calls Try.prog 25 #[.int .i64 r] W fun e w' => e = .returned (.bool false) ∧ w' = W) := fun W => by have := rrnd_ok W r; rw [hK3] at this; exact this
    clear ho hK2 hK3
    go_enter Try.func10, Try.ntmps10
    obtain ⟨p0, p1, p2, p3, p4, p5, p6, p7, p8, p9⟩ := H0.out.held.1
    go_wp2_with fail
    refine (K1.out _).mono ?_
    rintro e w1 ⟨rfl, hb⟩
    have H1 : Hid (Cfg w w.heap.size c w1) := H0.out.step hb
    clear K1 H0 hb p0 p1 p2 p3 p4 p5 p6 p7 p8 p9 
    obtain ⟨p0, p1, p2, p3, p4, p5, p6, p7, p8, p9⟩ := H1.out.held.1
    go_wp2_with fail
    refine (K2.out _).mono ?_
    rintro e w2 ⟨rfl, rfl⟩
    have H2 : Hid (Cfg w w.heap.size c w2) := H1.out
    clear K2 H1 p0 p1 p2 p3 p4 p5 p6 p7 p8 p9 
    obtain ⟨p0, p1, p2, p3, p4, p5, p6, p7, p8, p9⟩ := H2.out.held.1
    go_wp2_with fail
    refine (K3.out _).mono ?_
    rintro e w3 ⟨rfl, rfl⟩
    have H3 : Hid (Cfg w w.heap.size c w3) := H2.out
    clear K3 H2 p0 p1 p2 p3 p4 p5 p6 p7 p8 p9 
    go_wp2
    go_ret2
    exact ⟨by first | rfl | (simp; done) | (simp; omega), H3.out.bel⟩
  have K3 : Hid (∀ W, Calls Try.prog 25 #[.int .i64 r] W fun e w' => e = .returned (.bool true) ∧ w' = W) := fun W => by have := rrnd_ok W r; rw [hK3] at this; exact this
  have hs : sinB c st r = true := by simp [sinB, ho, hK2, hK3]
  obtain ⟨_, hst, hr⟩ := sin_in hs
  have g := right_of ho
  have hd0 := g.d0
  have hd1 := g.d1
  have hk0 := g.k0
  have hk1 := g.k1
  obtain ⟨A, hA⟩ : ∃ A, A = r - st := ⟨_, rfl⟩
  have e1 : IntKind.i64.wrap (r - st) = A := by rw [hA]; exact wrap_in (by omega) (by omega)
  rw [tolV, if_pos hs, ← hA]
  by_cases h1 : r ≤ st
  case pos =>
    rw [if_neg (by omega)]
    clear ho hK2 hK3 hs hst hr g hd0 hd1 hk0 hk1 hA
    go_enter Try.func10, Try.ntmps10
    obtain ⟨p0, p1, p2, p3, p4, p5, p6, p7, p8, p9⟩ := H0.out.held.1
    go_wp2_with fail
    refine (K1.out _).mono ?_
    rintro e w1 ⟨rfl, hb⟩
    have H1 : Hid (Cfg w w.heap.size c w1) := H0.out.step hb
    clear K1 H0 hb p0 p1 p2 p3 p4 p5 p6 p7 p8 p9 
    obtain ⟨p0, p1, p2, p3, p4, p5, p6, p7, p8, p9⟩ := H1.out.held.1
    go_wp2_with fail
    refine (K2.out _).mono ?_
    rintro e w2 ⟨rfl, rfl⟩
    have H2 : Hid (Cfg w w.heap.size c w2) := H1.out
    clear K2 H1 p0 p1 p2 p3 p4 p5 p6 p7 p8 p9 
    obtain ⟨p0, p1, p2, p3, p4, p5, p6, p7, p8, p9⟩ := H2.out.held.1
    go_wp2_with fail
    refine (K3.out _).mono ?_
    rintro e w3 ⟨rfl, rfl⟩
    have H3 : Hid (Cfg w w.heap.size c w3) := H2.out
    clear K3 H2 p0 p1 p2 p3 p4 p5 p6 p7 p8 p9 
    obtain ⟨p0, p1, p2, p3, p4, p5, p6, p7, p8, p9⟩ := H3.out.held.1
    go_wp2
    go_ret2
    exact ⟨by first | rfl | (simp; done) | (simp; omega), H3.out.bel⟩
  rw [if_pos (by omega)]
  obtain ⟨B, hB⟩ : ∃ B, B = A - c.d := ⟨_, rfl⟩
  have e2 : IntKind.i64.wrap (A - c.d) = B := by rw [hB]; exact wrap_in (by omega) (by omega)
  unfold tolN mnN mxN
  rw [← hB]
  clear ho hK2 hK3 hs hst hr g hd0 hd1 hk0 hk1 hA hB
  go_enter Try.func10, Try.ntmps10
  obtain ⟨p0, p1, p2, p3, p4, p5, p6, p7, p8, p9⟩ := H0.out.held.1
  go_wp2_with fail
  refine (K1.out _).mono ?_
  rintro e w1 ⟨rfl, hb⟩
  have H1 : Hid (Cfg w w.heap.size c w1) := H0.out.step hb
  clear K1 H0 hb p0 p1 p2 p3 p4 p5 p6 p7 p8 p9 
  obtain ⟨p0, p1, p2, p3, p4, p5, p6, p7, p8, p9⟩ := H1.out.held.1
  go_wp2_with fail
  refine (K2.out _).mono ?_
  rintro e w2 ⟨rfl, rfl⟩
  have H2 : Hid (Cfg w w.heap.size c w2) := H1.out
  clear K2 H1 p0 p1 p2 p3 p4 p5 p6 p7 p8 p9 
  obtain ⟨p0, p1, p2, p3, p4, p5, p6, p7, p8, p9⟩ := H2.out.held.1
  go_wp2_with fail
  refine (K3.out _).mono ?_
  rintro e w3 ⟨rfl, rfl⟩
  have H3 : Hid (Cfg w w.heap.size c w3) := H2.out
  clear K3 H2 p0 p1 p2 p3 p4 p5 p6 p7 p8 p9 
  obtain ⟨p0, p1, p2, p3, p4, p5, p6, p7, p8, p9⟩ := H3.out.held.1
  go_wp2
  all_goals
    go_ret2
    exact ⟨by first | rfl | (simp; done) | (simp; omega), H3.out.bel⟩
set_option maxHeartbeats 3200000 in
set_option maxRecDepth 20000 in
theorem rover_ok (w : World) (c : Cf) (st r : Int) : Calls Try.prog 18 #[.agg (cfC c), .int .i64 st, .int .i64 r] w fun e w' => e = .returned (.bool (ovB c st r)) ∧ Below w.heap.size w w' := by
  have H0 : Hid (Cfg w w.heap.size c (w.alloc (.cells (cfC c) 23))) := Cfg.new w c
  have K1 : Hid (∀ W, Calls Try.prog 24 #[.agg (cfC c)] W fun e w' => e = .returned (.int .i64 (if okB c = true then 0 else 1)) ∧ Below W.heap.size W w') := fun W => rcheck_ok W c
  cases ho : okB c
  case false =>
    rw [ho, if_neg Bool.false_ne_true] at K1
    rw [show ovB c st r = false by simp [ovB, sinB, ho]]
    clear ho
    go_enter Try.func18, Try.ntmps18
    obtain ⟨p0, p1, p2, p3, p4, p5, p6, p7, p8, p9⟩ := H0.out.held.1
    go_wp2_with fail
    refine (K1.out _).mono ?_
    rintro e w1 ⟨rfl, hb⟩
    have H1 : Hid (Cfg w w.heap.size c w1) := H0.out.step hb
    clear K1 H0 hb p0 p1 p2 p3 p4 p5 p6 p7 p8 p9 
    go_wp2
    go_ret
    exact ⟨by first | rfl | (simp; done) | (simp; omega), H1.out.bel⟩
  rw [ho, if_pos rfl] at K1
  cases hK2 : roundB st
  case false =>
    rw [show ovB c st r = false by simp [ovB, sinB, hK2]]
    have K2 : Hid (∀ W, Calls Try.prog 25 #[.int .i64 st] W fun e w' => e = .returned (.bool false) ∧ w' = W) := fun W => by have := rrnd_ok W st; rw [hK2] at this; exact this
    clear ho hK2
    go_enter Try.func18, Try.ntmps18
    obtain ⟨p0, p1, p2, p3, p4, p5, p6, p7, p8, p9⟩ := H0.out.held.1
    go_wp2_with fail
    refine (K1.out _).mono ?_
    rintro e w1 ⟨rfl, hb⟩
    have H1 : Hid (Cfg w w.heap.size c w1) := H0.out.step hb
    clear K1 H0 hb p0 p1 p2 p3 p4 p5 p6 p7 p8 p9 
    obtain ⟨p0, p1, p2, p3, p4, p5, p6, p7, p8, p9⟩ := H1.out.held.1
    go_wp2_with fail
    refine (K2.out _).mono ?_
    rintro e w2 ⟨rfl, rfl⟩
    have H2 : Hid (Cfg w w.heap.size c w2) := H1.out
    clear K2 H1 p0 p1 p2 p3 p4 p5 p6 p7 p8 p9 
    go_wp2
    go_ret
    exact ⟨by first | rfl | (simp; done) | (simp; omega), H2.out.bel⟩
  have K2 : Hid (∀ W, Calls Try.prog 25 #[.int .i64 st] W fun e w' => e = .returned (.bool true) ∧ w' = W) := fun W => by have := rrnd_ok W st; rw [hK2] at this; exact this
  cases hK3 : roundB r
  case false =>
    rw [show ovB c st r = false by simp [ovB, sinB, hK3]]
    have K3 : Hid (∀ W, Calls Try.prog 25 #[.int .i64 r] W fun e w' => e = .returned (.bool false) ∧ w' = W) := fun W => by have := rrnd_ok W r; rw [hK3] at this; exact this
    clear ho hK2 hK3
    go_enter Try.func18, Try.ntmps18
    obtain ⟨p0, p1, p2, p3, p4, p5, p6, p7, p8, p9⟩ := H0.out.held.1
    go_wp2_with fail
    refine (K1.out _).mono ?_
    rintro e w1 ⟨rfl, hb⟩
    have H1 : Hid (Cfg w w.heap.size c w1) := H0.out.step hb
    clear K1 H0 hb p0 p1 p2 p3 p4 p5 p6 p7 p8 p9 
    obtain ⟨p0, p1, p2, p3, p4, p5, p6, p7, p8, p9⟩ := H1.out.held.1
    go_wp2_with fail
    refine (K2.out _).mono ?_
    rintro e w2 ⟨rfl, rfl⟩
    have H2 : Hid (Cfg w w.heap.size c w2) := H1.out
    clear K2 H1 p0 p1 p2 p3 p4 p5 p6 p7 p8 p9 
    obtain ⟨p0, p1, p2, p3, p4, p5, p6, p7, p8, p9⟩ := H2.out.held.1
    go_wp2_with fail
    refine (K3.out _).mono ?_
    rintro e w3 ⟨rfl, rfl⟩
    have H3 : Hid (Cfg w w.heap.size c w3) := H2.out
    clear K3 H2 p0 p1 p2 p3 p4 p5 p6 p7 p8 p9 
    go_wp2
    go_ret
    exact ⟨by first | rfl | (simp; done) | (simp; omega), H3.out.bel⟩
  have K3 : Hid (∀ W, Calls Try.prog 25 #[.int .i64 r] W fun e w' => e = .returned (.bool true) ∧ w' = W) := fun W => by have := rrnd_ok W r; rw [hK3] at this; exact this
  have hs : sinB c st r = true := by simp [sinB, ho, hK2, hK3]
  obtain ⟨_, hst, hr⟩ := sin_in hs
  have g := right_of ho
  have hd0 := g.d0
  have hd1 := g.d1
  have hk0 := g.k0
  have hk1 := g.k1
  obtain ⟨A, hA⟩ : ∃ A, A = r - st := ⟨_, rfl⟩
  have e1 : IntKind.i64.wrap (r - st) = A := by rw [hA]; exact wrap_in (by omega) (by omega)
  rw [show ovB c st r = decide (c.k - c.d < r - st) by simp [ovB, hs], ← hA]
  obtain ⟨B, hB⟩ : ∃ B, B = c.k - c.d := ⟨_, rfl⟩
  have e2 : IntKind.i64.wrap (c.k - c.d) = B := by rw [hB]; exact wrap_in (by omega) (by omega)
  rw [← hB]
  clear ho hK2 hK3 hs hst hr g hd0 hd1 hk0 hk1 hA hB
  go_enter Try.func18, Try.ntmps18
  obtain ⟨p0, p1, p2, p3, p4, p5, p6, p7, p8, p9⟩ := H0.out.held.1
  go_wp2_with fail
  refine (K1.out _).mono ?_
  rintro e w1 ⟨rfl, hb⟩
  have H1 : Hid (Cfg w w.heap.size c w1) := H0.out.step hb
  clear K1 H0 hb p0 p1 p2 p3 p4 p5 p6 p7 p8 p9 
  obtain ⟨p0, p1, p2, p3, p4, p5, p6, p7, p8, p9⟩ := H1.out.held.1
  go_wp2_with fail
  refine (K2.out _).mono ?_
  rintro e w2 ⟨rfl, rfl⟩
  have H2 : Hid (Cfg w w.heap.size c w2) := H1.out
  clear K2 H1 p0 p1 p2 p3 p4 p5 p6 p7 p8 p9 
  obtain ⟨p0, p1, p2, p3, p4, p5, p6, p7, p8, p9⟩ := H2.out.held.1
  go_wp2_with fail
  refine (K3.out _).mono ?_
  rintro e w3 ⟨rfl, rfl⟩
  have H3 : Hid (Cfg w w.heap.size c w3) := H2.out
  clear K3 H2 p0 p1 p2 p3 p4 p5 p6 p7 p8 p9 
  obtain ⟨p0, p1, p2, p3, p4, p5, p6, p7, p8, p9⟩ := H3.out.held.1
  go_wp2
  go_ret
  exact ⟨by first | rfl | (simp; done) | (simp; omega), H3.out.bel⟩
set_option maxHeartbeats 3200000 in
set_option maxRecDepth 20000 in
theorem rwhen_ok (w : World) (c : Cf) (sl st i : Int) : Calls Try.prog 12 #[.agg (cfC c), .int .i64 sl, .int .i64 st, .int .i64 i] w fun e w' => e = .returned (whV c sl st i) ∧ Below w.heap.size w w' := by
  have H0 : Hid (Cfg w w.heap.size c (w.alloc (.cells (cfC c) 23))) := Cfg.new w c
  have K1 : Hid (∀ W, Calls Try.prog 24 #[.agg (cfC c)] W fun e w' => e = .returned (.int .i64 (if okB c = true then 0 else 1)) ∧ Below W.heap.size W w') := fun W => rcheck_ok W c
  cases ho : okB c
  case false =>
    rw [ho, if_neg Bool.false_ne_true] at K1
    rw [whV, if_neg (by simp [whB, ho])]
    clear ho
    go_enter Try.func12, Try.ntmps12
    obtain ⟨p0, p1, p2, p3, p4, p5, p6, p7, p8, p9⟩ := H0.out.held.1
    go_wp2_with fail
    refine (K1.out _).mono ?_
    rintro e w1 ⟨rfl, hb⟩
    have H1 : Hid (Cfg w w.heap.size c w1) := H0.out.step hb
    clear K1 H0 hb p0 p1 p2 p3 p4 p5 p6 p7 p8 p9 
    obtain ⟨p0, p1, p2, p3, p4, p5, p6, p7, p8, p9⟩ := H1.out.held.1
    go_wp2
    go_ret2
    exact ⟨by first | rfl | (simp; done) | (simp; omega), H1.out.bel⟩
  rw [ho, if_pos rfl] at K1
  cases hK2 : roundB st
  case false =>
    rw [whV, if_neg (by simp [whB, hK2])]
    have K2 : Hid (∀ W, Calls Try.prog 25 #[.int .i64 st] W fun e w' => e = .returned (.bool false) ∧ w' = W) := fun W => by have := rrnd_ok W st; rw [hK2] at this; exact this
    clear ho hK2
    go_enter Try.func12, Try.ntmps12
    obtain ⟨p0, p1, p2, p3, p4, p5, p6, p7, p8, p9⟩ := H0.out.held.1
    go_wp2_with fail
    refine (K1.out _).mono ?_
    rintro e w1 ⟨rfl, hb⟩
    have H1 : Hid (Cfg w w.heap.size c w1) := H0.out.step hb
    clear K1 H0 hb p0 p1 p2 p3 p4 p5 p6 p7 p8 p9 
    obtain ⟨p0, p1, p2, p3, p4, p5, p6, p7, p8, p9⟩ := H1.out.held.1
    go_wp2_with fail
    refine (K2.out _).mono ?_
    rintro e w2 ⟨rfl, rfl⟩
    have H2 : Hid (Cfg w w.heap.size c w2) := H1.out
    clear K2 H1 p0 p1 p2 p3 p4 p5 p6 p7 p8 p9 
    obtain ⟨p0, p1, p2, p3, p4, p5, p6, p7, p8, p9⟩ := H2.out.held.1
    go_wp2
    go_ret2
    exact ⟨by first | rfl | (simp; done) | (simp; omega), H2.out.bel⟩
  have K2 : Hid (∀ W, Calls Try.prog 25 #[.int .i64 st] W fun e w' => e = .returned (.bool true) ∧ w' = W) := fun W => by have := rrnd_ok W st; rw [hK2] at this; exact this
  by_cases s0 : 0 ≤ sl
  case neg =>
    rw [whV, if_neg (by simp [whB, cellB, nodeB, s0])]
    clear ho hK2
    go_enter Try.func12, Try.ntmps12
    obtain ⟨p0, p1, p2, p3, p4, p5, p6, p7, p8, p9⟩ := H0.out.held.1
    go_wp2_with fail
    refine (K1.out _).mono ?_
    rintro e w1 ⟨rfl, hb⟩
    have H1 : Hid (Cfg w w.heap.size c w1) := H0.out.step hb
    clear K1 H0 hb p0 p1 p2 p3 p4 p5 p6 p7 p8 p9 
    obtain ⟨p0, p1, p2, p3, p4, p5, p6, p7, p8, p9⟩ := H1.out.held.1
    go_wp2_with fail
    refine (K2.out _).mono ?_
    rintro e w2 ⟨rfl, rfl⟩
    have H2 : Hid (Cfg w w.heap.size c w2) := H1.out
    clear K2 H1 p0 p1 p2 p3 p4 p5 p6 p7 p8 p9 
    obtain ⟨p0, p1, p2, p3, p4, p5, p6, p7, p8, p9⟩ := H2.out.held.1
    go_wp2
    go_ret2
    exact ⟨by first | rfl | (simp; done) | (simp; omega), H2.out.bel⟩
  by_cases s1 : sl < c.n
  case neg =>
    rw [whV, if_neg (by simp [whB, cellB, nodeB, s1])]
    clear ho hK2
    go_enter Try.func12, Try.ntmps12
    obtain ⟨p0, p1, p2, p3, p4, p5, p6, p7, p8, p9⟩ := H0.out.held.1
    go_wp2_with fail
    refine (K1.out _).mono ?_
    rintro e w1 ⟨rfl, hb⟩
    have H1 : Hid (Cfg w w.heap.size c w1) := H0.out.step hb
    clear K1 H0 hb p0 p1 p2 p3 p4 p5 p6 p7 p8 p9 
    obtain ⟨p0, p1, p2, p3, p4, p5, p6, p7, p8, p9⟩ := H1.out.held.1
    go_wp2_with fail
    refine (K2.out _).mono ?_
    rintro e w2 ⟨rfl, rfl⟩
    have H2 : Hid (Cfg w w.heap.size c w2) := H1.out
    clear K2 H1 p0 p1 p2 p3 p4 p5 p6 p7 p8 p9 
    obtain ⟨p0, p1, p2, p3, p4, p5, p6, p7, p8, p9⟩ := H2.out.held.1
    go_wp2
    go_ret2
    exact ⟨by first | rfl | (simp; done) | (simp; omega), H2.out.bel⟩
  by_cases i0 : 1 ≤ i
  case neg =>
    rw [whV, if_neg (by simp [whB, keyB, i0])]
    clear ho hK2
    go_enter Try.func12, Try.ntmps12
    obtain ⟨p0, p1, p2, p3, p4, p5, p6, p7, p8, p9⟩ := H0.out.held.1
    go_wp2_with fail
    refine (K1.out _).mono ?_
    rintro e w1 ⟨rfl, hb⟩
    have H1 : Hid (Cfg w w.heap.size c w1) := H0.out.step hb
    clear K1 H0 hb p0 p1 p2 p3 p4 p5 p6 p7 p8 p9 
    obtain ⟨p0, p1, p2, p3, p4, p5, p6, p7, p8, p9⟩ := H1.out.held.1
    go_wp2_with fail
    refine (K2.out _).mono ?_
    rintro e w2 ⟨rfl, rfl⟩
    have H2 : Hid (Cfg w w.heap.size c w2) := H1.out
    clear K2 H1 p0 p1 p2 p3 p4 p5 p6 p7 p8 p9 
    obtain ⟨p0, p1, p2, p3, p4, p5, p6, p7, p8, p9⟩ := H2.out.held.1
    go_wp2
    go_ret2
    exact ⟨by first | rfl | (simp; done) | (simp; omega), H2.out.bel⟩
  by_cases i1 : i ≤ c.k
  case neg =>
    rw [whV, if_neg (by simp [whB, keyB, i1])]
    clear ho hK2
    go_enter Try.func12, Try.ntmps12
    obtain ⟨p0, p1, p2, p3, p4, p5, p6, p7, p8, p9⟩ := H0.out.held.1
    go_wp2_with fail
    refine (K1.out _).mono ?_
    rintro e w1 ⟨rfl, hb⟩
    have H1 : Hid (Cfg w w.heap.size c w1) := H0.out.step hb
    clear K1 H0 hb p0 p1 p2 p3 p4 p5 p6 p7 p8 p9 
    obtain ⟨p0, p1, p2, p3, p4, p5, p6, p7, p8, p9⟩ := H1.out.held.1
    go_wp2_with fail
    refine (K2.out _).mono ?_
    rintro e w2 ⟨rfl, rfl⟩
    have H2 : Hid (Cfg w w.heap.size c w2) := H1.out
    clear K2 H1 p0 p1 p2 p3 p4 p5 p6 p7 p8 p9 
    obtain ⟨p0, p1, p2, p3, p4, p5, p6, p7, p8, p9⟩ := H2.out.held.1
    go_wp2
    go_ret2
    exact ⟨by first | rfl | (simp; done) | (simp; omega), H2.out.bel⟩
  have hv : whV c sl st i = atV c (st + i + c.d) sl := by
    unfold whV atV whN
    rw [show whB c sl st i = cellB c (st + i + c.d) sl by simp [whB, ho, hK2, keyB, i0, i1]]
  rw [hv]
  have g := right_of ho
  have hd0 := g.d0
  have hd1 := g.d1
  have hk1 := g.k1
  have hst := round_in hK2
  obtain ⟨A, hA⟩ : ∃ A, A = st + i := ⟨_, rfl⟩
  obtain ⟨B, hB⟩ : ∃ B, B = st + i + c.d := ⟨_, rfl⟩
  have e1 : IntKind.i64.wrap (st + i) = A := by rw [hA]; exact wrap_in (by omega) (by omega)
  have e2 : IntKind.i64.wrap (A + c.d) = B := by rw [hA, hB]; exact wrap_in (by omega) (by omega)
  have K4 : Hid (∀ W, Calls Try.prog 27 #[.agg (cfC c), .int .i64 B, .int .i64 sl] W fun e w' => ∃ a b, e = .returned (.tuple #[.int .i64 a, .int .i64 b]) ∧ atV c B sl = .tuple #[.int .i64 a, .int .i64 b] ∧ Below W.heap.size W w') := fun W =>
    (rat_ok W c B sl).mono fun e w' h => by
      obtain ⟨rfl, hb⟩ := h
      cases hc : cellB c B sl
      · exact ⟨0, 1, by simp [atV, hc], by simp [atV, hc], hb⟩
      · exact ⟨_, _, by simp [atV, hc]; exact ⟨rfl, rfl⟩, by simp [atV, hc], hb⟩
  rw [← hB]
  clear ho hK2 hv g hd0 hd1 hk1 hst hA hB
  go_enter Try.func12, Try.ntmps12
  obtain ⟨p0, p1, p2, p3, p4, p5, p6, p7, p8, p9⟩ := H0.out.held.1
  go_wp2_with fail
  refine (K1.out _).mono ?_
  rintro e w1 ⟨rfl, hb⟩
  have H1 : Hid (Cfg w w.heap.size c w1) := H0.out.step hb
  clear K1 H0 hb p0 p1 p2 p3 p4 p5 p6 p7 p8 p9 
  obtain ⟨p0, p1, p2, p3, p4, p5, p6, p7, p8, p9⟩ := H1.out.held.1
  go_wp2_with fail
  refine (K2.out _).mono ?_
  rintro e w2 ⟨rfl, rfl⟩
  have H2 : Hid (Cfg w w.heap.size c w2) := H1.out
  clear K2 H1 p0 p1 p2 p3 p4 p5 p6 p7 p8 p9 
  obtain ⟨p0, p1, p2, p3, p4, p5, p6, p7, p8, p9⟩ := H2.out.held.1
  go_wp2_with fail
  refine (K4.out _).mono ?_
  rintro e w4 ⟨a, b, rfl, hv, hb⟩
  have H4 : Hid (Cfg w w.heap.size c w4) := H2.out.step hb
  have HV : Hid (atV c B sl = .tuple #[.int .i64 a, .int .i64 b]) := hv
  clear K4 H2 hb hv p0 p1 p2 p3 p4 p5 p6 p7 p8 p9 s0 s1 i0 i1
  go_wp2
  go_ret2
  exact ⟨by rw [HV.out]; rfl, H4.out.bel⟩
end Go.Proofs.Ytiolkbdjphhajaa
