/-
  The walk of DiscloseOver.
-/
import Derived.Test.YtiolkbdjphhajaaDisE
namespace Go.Proofs.Ytiolkbdjphhajaa
open Go.ChangeShapes Go.WideShapes Go.ChangeAt Go.RowKit

set_option maxHeartbeats 3200000 in
set_option maxRecDepth 20000 in
theorem over_walk (c : Cf) (st r : Int) (w : World) : Calls Try.prog 6 #[.agg (cfC c), .int .i64 st, .int .i64 r] w fun e w' => e = .returned (.bool true) ∧ Below w.heap.size w w' := by
  have H0 : Hid (Cfg w w.heap.size c (w.alloc (.cells (cfC c) 23))) := Cfg.new w c
  have KA : Hid (∀ W, Calls Try.prog 19 #[] W fun e w' => e = .returned (.bool true) ∧ Below W.heap.size W w') := fun W => awake_ok W
  have K1 : Hid (∀ W, Calls Try.prog 21 #[.agg (cfC c)] W fun e w' => e = .returned (.int .i64 (if okB c = true then 0 else 1)) ∧ Below W.heap.size W w') := fun W => check_ok W c
  have K2 : Hid (∀ W, Calls Try.prog 17 #[.agg (cfC c), .int .i64 (-1), .int .i64 r] W fun e w' => e = .returned (.bool false) ∧ Below W.heap.size W w') := fun W => by
    have := over_ok W c (-1) r
    rw [show ovB c (-1) r = false by simp [ovB, sinB, roundB]] at this
    exact this
  cases ho : okB c
  case false =>
    rw [ho, if_neg Bool.false_ne_true] at K1
    clear ho
    go_enter Try.func6, Try.ntmps6
    obtain ⟨p0, p1, p2, p3, p4, p5, p6, p7, p8, p9⟩ := H0.out.held.1
    go_wp2_with fail
    refine (K1.out _).mono ?_
    rintro e w1 ⟨rfl, hb⟩
    have H1 : Hid (Cfg w w.heap.size c w1) := H0.out.step hb
    clear K1 H0 hb p0 p1 p2 p3 p4 p5 p6 p7 p8 p9 
    obtain ⟨p0, p1, p2, p3, p4, p5, p6, p7, p8, p9⟩ := H1.out.held.1
    go_wp2_with fail
    refine (K2.out _).mono ?_
    rintro e w2 ⟨rfl, hb⟩
    have H2 : Hid (Cfg w w.heap.size c w2) := H1.out.step hb
    clear K2 H1 hb p0 p1 p2 p3 p4 p5 p6 p7 p8 p9 
    obtain ⟨p0, p1, p2, p3, p4, p5, p6, p7, p8, p9⟩ := H2.out.held.1
    go_wp2_with fail
    refine (KA.out _).mono ?_
    rintro e w3 ⟨rfl, hb⟩
    have H3 : Hid (Cfg w w.heap.size c w3) := H2.out.step hb
    clear KA H2 hb p0 p1 p2 p3 p4 p5 p6 p7 p8 p9
    go_wp2
    go_ret
    exact ⟨by first | rfl | (simp; done) | (simp; omega), H3.out.bel⟩
  rw [ho, if_pos rfl] at K1
  by_cases h1 : 0 ≤ st
  case neg =>
    clear ho
    go_enter Try.func6, Try.ntmps6
    obtain ⟨p0, p1, p2, p3, p4, p5, p6, p7, p8, p9⟩ := H0.out.held.1
    go_wp2_with fail
    refine (K1.out _).mono ?_
    rintro e w1 ⟨rfl, hb⟩
    have H1 : Hid (Cfg w w.heap.size c w1) := H0.out.step hb
    clear K1 H0 hb p0 p1 p2 p3 p4 p5 p6 p7 p8 p9 
    obtain ⟨p0, p1, p2, p3, p4, p5, p6, p7, p8, p9⟩ := H1.out.held.1
    go_wp2_with fail
    refine (K2.out _).mono ?_
    rintro e w2 ⟨rfl, hb⟩
    have H2 : Hid (Cfg w w.heap.size c w2) := H1.out.step hb
    clear K2 H1 hb p0 p1 p2 p3 p4 p5 p6 p7 p8 p9 
    obtain ⟨p0, p1, p2, p3, p4, p5, p6, p7, p8, p9⟩ := H2.out.held.1
    go_wp2_with fail
    refine (KA.out _).mono ?_
    rintro e w3 ⟨rfl, hb⟩
    have H3 : Hid (Cfg w w.heap.size c w3) := H2.out.step hb
    clear KA H2 hb p0 p1 p2 p3 p4 p5 p6 p7 p8 p9
    go_wp2
    go_ret
    exact ⟨by first | rfl | (simp; done) | (simp; omega), H3.out.bel⟩
  by_cases h2 : st ≤ r
  case neg =>
    clear ho
    go_enter Try.func6, Try.ntmps6
    obtain ⟨p0, p1, p2, p3, p4, p5, p6, p7, p8, p9⟩ := H0.out.held.1
    go_wp2_with fail
    refine (K1.out _).mono ?_
    rintro e w1 ⟨rfl, hb⟩
    have H1 : Hid (Cfg w w.heap.size c w1) := H0.out.step hb
    clear K1 H0 hb p0 p1 p2 p3 p4 p5 p6 p7 p8 p9 
    obtain ⟨p0, p1, p2, p3, p4, p5, p6, p7, p8, p9⟩ := H1.out.held.1
    go_wp2_with fail
    refine (K2.out _).mono ?_
    rintro e w2 ⟨rfl, hb⟩
    have H2 : Hid (Cfg w w.heap.size c w2) := H1.out.step hb
    clear K2 H1 hb p0 p1 p2 p3 p4 p5 p6 p7 p8 p9 
    obtain ⟨p0, p1, p2, p3, p4, p5, p6, p7, p8, p9⟩ := H2.out.held.1
    go_wp2_with fail
    refine (KA.out _).mono ?_
    rintro e w3 ⟨rfl, hb⟩
    have H3 : Hid (Cfg w w.heap.size c w3) := H2.out.step hb
    clear KA H2 hb p0 p1 p2 p3 p4 p5 p6 p7 p8 p9
    go_wp2
    go_ret
    exact ⟨by first | rfl | (simp; done) | (simp; omega), H3.out.bel⟩
  by_cases h3 : st < 1048576
  case neg =>
    clear ho
    go_enter Try.func6, Try.ntmps6
    obtain ⟨p0, p1, p2, p3, p4, p5, p6, p7, p8, p9⟩ := H0.out.held.1
    go_wp2_with fail
    refine (K1.out _).mono ?_
    rintro e w1 ⟨rfl, hb⟩
    have H1 : Hid (Cfg w w.heap.size c w1) := H0.out.step hb
    clear K1 H0 hb p0 p1 p2 p3 p4 p5 p6 p7 p8 p9 
    obtain ⟨p0, p1, p2, p3, p4, p5, p6, p7, p8, p9⟩ := H1.out.held.1
    go_wp2_with fail
    refine (K2.out _).mono ?_
    rintro e w2 ⟨rfl, hb⟩
    have H2 : Hid (Cfg w w.heap.size c w2) := H1.out.step hb
    clear K2 H1 hb p0 p1 p2 p3 p4 p5 p6 p7 p8 p9 
    obtain ⟨p0, p1, p2, p3, p4, p5, p6, p7, p8, p9⟩ := H2.out.held.1
    go_wp2_with fail
    refine (KA.out _).mono ?_
    rintro e w3 ⟨rfl, hb⟩
    have H3 : Hid (Cfg w w.heap.size c w3) := H2.out.step hb
    clear KA H2 hb p0 p1 p2 p3 p4 p5 p6 p7 p8 p9
    go_wp2
    go_ret
    exact ⟨by first | rfl | (simp; done) | (simp; omega), H3.out.bel⟩
  by_cases h4 : r < 1048576
  case neg =>
    clear ho
    go_enter Try.func6, Try.ntmps6
    obtain ⟨p0, p1, p2, p3, p4, p5, p6, p7, p8, p9⟩ := H0.out.held.1
    go_wp2_with fail
    refine (K1.out _).mono ?_
    rintro e w1 ⟨rfl, hb⟩
    have H1 : Hid (Cfg w w.heap.size c w1) := H0.out.step hb
    clear K1 H0 hb p0 p1 p2 p3 p4 p5 p6 p7 p8 p9 
    obtain ⟨p0, p1, p2, p3, p4, p5, p6, p7, p8, p9⟩ := H1.out.held.1
    go_wp2_with fail
    refine (K2.out _).mono ?_
    rintro e w2 ⟨rfl, hb⟩
    have H2 : Hid (Cfg w w.heap.size c w2) := H1.out.step hb
    clear K2 H1 hb p0 p1 p2 p3 p4 p5 p6 p7 p8 p9 
    obtain ⟨p0, p1, p2, p3, p4, p5, p6, p7, p8, p9⟩ := H2.out.held.1
    go_wp2_with fail
    refine (KA.out _).mono ?_
    rintro e w3 ⟨rfl, hb⟩
    have H3 : Hid (Cfg w w.heap.size c w3) := H2.out.step hb
    clear KA H2 hb p0 p1 p2 p3 p4 p5 p6 p7 p8 p9
    go_wp2
    go_ret
    exact ⟨by first | rfl | (simp; done) | (simp; omega), H3.out.bel⟩
  have hs : sinB c st r = true := by simp only [sinB, roundB, ho, Bool.true_and, Bool.and_eq_true, decide_eq_true_eq]; omega
  have g := right_of ho
  have hd0 := g.d0
  have hd1 := g.d1
  have hk0 := g.k0
  have hk1 := g.k1
  have K3 : Hid (∀ W, Calls Try.prog 7 #[.agg (cfC c), .int .i64 st, .int .i64 r] W fun e w' => e = .returned (idxV c st r) ∧ Below W.heap.size W w') := fun W => index_ok W c st r
  have K4 : Hid (∀ W, Calls Try.prog 17 #[.agg (cfC c), .int .i64 st, .int .i64 r] W fun e w' => e = .returned (.bool (decide (c.k - c.d < r - st))) ∧ Below W.heap.size W w') := fun W => by have := over_ok W c st r; rw [show ovB c st r = decide (c.k - c.d < r - st) by simp [ovB, hs]] at this; exact this
  clear K2
  by_cases ho2 : c.k - c.d < r - st
  case pos =>
    rw [decide_eq_true ho2] at K4
    obtain ⟨i, e, he⟩ : ∃ i e, idxV c st r = .tuple #[.int .i64 i, .int .i64 e] := by
      rcases idx_cases c st r with ⟨h, h'⟩ | h | h
      · exact ⟨_, _, idx_yes h h'⟩
      · exact ⟨_, _, h⟩
      · exact ⟨_, _, h⟩
    rw [he] at K3
    obtain ⟨A, hA⟩ : ∃ A, A = r - st := ⟨_, rfl⟩
    obtain ⟨B, hB⟩ : ∃ B, B = c.k - c.d := ⟨_, rfl⟩
    have e1 : IntKind.i64.wrap (r - st) = A := by rw [hA]; exact wrap_in (by omega) (by omega)
    have e2 : IntKind.i64.wrap (c.k - c.d) = B := by rw [hB]; exact wrap_in (by omega) (by omega)
    rw [← hA, ← hB] at ho2
    clear ho g hd0 hd1 hk0 hk1 hs he hA hB
    go_enter Try.func6, Try.ntmps6
    obtain ⟨p0, p1, p2, p3, p4, p5, p6, p7, p8, p9⟩ := H0.out.held.1
    go_wp2_with fail
    refine (K1.out _).mono ?_
    rintro e w1 ⟨rfl, hb⟩
    have H1 : Hid (Cfg w w.heap.size c w1) := H0.out.step hb
    clear K1 H0 hb p0 p1 p2 p3 p4 p5 p6 p7 p8 p9 
    obtain ⟨p0, p1, p2, p3, p4, p5, p6, p7, p8, p9⟩ := H1.out.held.1
    go_wp2_with fail
    refine (K3.out _).mono ?_
    rintro e w2 ⟨rfl, hb⟩
    have H2 : Hid (Cfg w w.heap.size c w2) := H1.out.step hb
    clear K3 H1 hb p0 p1 p2 p3 p4 p5 p6 p7 p8 p9 
    obtain ⟨p0, p1, p2, p3, p4, p5, p6, p7, p8, p9⟩ := H2.out.held.1
    go_wp2_with fail
    refine (K4.out _).mono ?_
    rintro e w3 ⟨rfl, hb⟩
    have H3 : Hid (Cfg w w.heap.size c w3) := H2.out.step hb
    clear K4 H2 hb p0 p1 p2 p3 p4 p5 p6 p7 p8 p9 
    obtain ⟨p0, p1, p2, p3, p4, p5, p6, p7, p8, p9⟩ := H3.out.held.1
    go_wp2_with fail
    refine (KA.out _).mono ?_
    rintro e w4 ⟨rfl, hb⟩
    have H4 : Hid (Cfg w w.heap.size c w4) := H3.out.step hb
    clear KA H3 hb p0 p1 p2 p3 p4 p5 p6 p7 p8 p9
    go_wp2
    go_ret
    exact ⟨by first | rfl | (simp; done) | (simp; omega), H4.out.bel⟩
  rw [decide_eq_false ho2] at K4
  by_cases h5 : st < r
  case pos =>
    have hk : keyB c (r - st) = true := by simp only [keyB, decide_eq_true_eq]; omega
    rw [idx_yes hs hk] at K3
    obtain ⟨A, hA⟩ : ∃ A, A = r - st := ⟨_, rfl⟩
    obtain ⟨B, hB⟩ : ∃ B, B = A + c.d := ⟨_, rfl⟩
    have e1 : IntKind.i64.wrap (A + c.d) = B := by rw [hB]; exact wrap_in (by omega) (by omega)
    have e2 : B ≤ c.k := by omega
    rw [← hA] at K3
    clear ho g hd0 hd1 hk0 hk1 hs hA hB hk ho2
    go_enter Try.func6, Try.ntmps6
    obtain ⟨p0, p1, p2, p3, p4, p5, p6, p7, p8, p9⟩ := H0.out.held.1
    go_wp2_with fail
    refine (K1.out _).mono ?_
    rintro e w1 ⟨rfl, hb⟩
    have H1 : Hid (Cfg w w.heap.size c w1) := H0.out.step hb
    clear K1 H0 hb p0 p1 p2 p3 p4 p5 p6 p7 p8 p9 
    obtain ⟨p0, p1, p2, p3, p4, p5, p6, p7, p8, p9⟩ := H1.out.held.1
    go_wp2_with fail
    refine (K3.out _).mono ?_
    rintro e w2 ⟨rfl, hb⟩
    have H2 : Hid (Cfg w w.heap.size c w2) := H1.out.step hb
    clear K3 H1 hb p0 p1 p2 p3 p4 p5 p6 p7 p8 p9 
    obtain ⟨p0, p1, p2, p3, p4, p5, p6, p7, p8, p9⟩ := H2.out.held.1
    go_wp2_with fail
    refine (K4.out _).mono ?_
    rintro e w3 ⟨rfl, hb⟩
    have H3 : Hid (Cfg w w.heap.size c w3) := H2.out.step hb
    clear K4 H2 hb p0 p1 p2 p3 p4 p5 p6 p7 p8 p9 
    obtain ⟨p0, p1, p2, p3, p4, p5, p6, p7, p8, p9⟩ := H3.out.held.1
    go_wp2_with fail
    refine (KA.out _).mono ?_
    rintro e w4 ⟨rfl, hb⟩
    have H4 : Hid (Cfg w w.heap.size c w4) := H3.out.step hb
    clear KA H3 hb p0 p1 p2 p3 p4 p5 p6 p7 p8 p9
    go_wp2
    go_ret
    exact ⟨by first | rfl | (simp; done) | (simp; omega), H4.out.bel⟩
  obtain ⟨i, e, he⟩ : ∃ i e, idxV c st r = .tuple #[.int .i64 i, .int .i64 e] := by
    rcases idx_cases c st r with ⟨h, h'⟩ | h | h
    · exact ⟨_, _, idx_yes h h'⟩
    · exact ⟨_, _, h⟩
    · exact ⟨_, _, h⟩
  rw [he] at K3
  obtain ⟨A, hA⟩ : ∃ A, A = r - st := ⟨_, rfl⟩
  obtain ⟨B, hB⟩ : ∃ B, B = c.k - c.d := ⟨_, rfl⟩
  have e1 : IntKind.i64.wrap (r - st) = A := by rw [hA]; exact wrap_in (by omega) (by omega)
  have e2 : IntKind.i64.wrap (c.k - c.d) = B := by rw [hB]; exact wrap_in (by omega) (by omega)
  rw [← hA, ← hB] at ho2
  clear ho g hd0 hd1 hk0 hk1 hs he hA hB
  go_enter Try.func6, Try.ntmps6
  obtain ⟨p0, p1, p2, p3, p4, p5, p6, p7, p8, p9⟩ := H0.out.held.1
  go_wp2_with fail
  refine (K1.out _).mono ?_
  rintro e w1 ⟨rfl, hb⟩
  have H1 : Hid (Cfg w w.heap.size c w1) := H0.out.step hb
  clear K1 H0 hb p0 p1 p2 p3 p4 p5 p6 p7 p8 p9 
  obtain ⟨p0, p1, p2, p3, p4, p5, p6, p7, p8, p9⟩ := H1.out.held.1
  go_wp2_with fail
  refine (K3.out _).mono ?_
  rintro e w2 ⟨rfl, hb⟩
  have H2 : Hid (Cfg w w.heap.size c w2) := H1.out.step hb
  clear K3 H1 hb p0 p1 p2 p3 p4 p5 p6 p7 p8 p9 
  obtain ⟨p0, p1, p2, p3, p4, p5, p6, p7, p8, p9⟩ := H2.out.held.1
  go_wp2_with fail
  refine (K4.out _).mono ?_
  rintro e w3 ⟨rfl, hb⟩
  have H3 : Hid (Cfg w w.heap.size c w3) := H2.out.step hb
  clear K4 H2 hb p0 p1 p2 p3 p4 p5 p6 p7 p8 p9 
  obtain ⟨p0, p1, p2, p3, p4, p5, p6, p7, p8, p9⟩ := H3.out.held.1
  go_wp2_with fail
  refine (KA.out _).mono ?_
  rintro e w4 ⟨rfl, hb⟩
  have H4 : Hid (Cfg w w.heap.size c w4) := H3.out.step hb
  clear KA H3 hb p0 p1 p2 p3 p4 p5 p6 p7 p8 p9
  go_wp2
  go_ret
  exact ⟨by first | rfl | (simp; done) | (simp; omega), H4.out.bel⟩
end Go.Proofs.Ytiolkbdjphhajaa
