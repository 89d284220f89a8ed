/-
  The walk of DiscloseTold.
-/
import Derived.Test.YtiolkbdjphhajaaDisE
namespace Go.Proofs.Ytiolkbdjphhajaa
open Go.ChangeShapes Go.WideShapes Go.ChangeAt Go.RowKit

set_option maxHeartbeats 3200000 in
set_option maxRecDepth 20000 in
theorem told_walk (c : Cf) (sl st r : Int) (w : World) : Calls Try.prog 5 #[.agg (cfC c), .int .i64 sl, .int .i64 st, .int .i64 r] w fun e w' => e = .returned (.bool true) ∧ Below w.heap.size w w' := by
  have H0 : Hid (Cfg w w.heap.size c (w.alloc (.cells (cfC c) 23))) := Cfg.new w c
  have KA : Hid (∀ W, Calls Try.prog 19 #[] W fun e w' => e = .returned (.bool true) ∧ Below W.heap.size W w') := fun W => awake_ok W
  have K1 : Hid (∀ W, Calls Try.prog 7 #[.agg (cfC c), .int .i64 st, .int .i64 r] W fun e w' => e = .returned (idxV c st r) ∧ Below W.heap.size W w') := fun W => index_ok W c st r
  rcases idx_cases c st r with ⟨hs, hk⟩ | h | h
  case inr.inl =>
    rw [h] at K1
    clear h
    go_enter Try.func5, Try.ntmps5
    obtain ⟨p0, p1, p2, p3, p4, p5, p6, p7, p8, p9⟩ := H0.out.held.1
    go_wp2_with fail
    refine (K1.out _).mono ?_
    rintro e w1 ⟨rfl, hb⟩
    have H1 : Hid (Cfg w w.heap.size c w1) := H0.out.step hb
    clear K1 H0 hb p0 p1 p2 p3 p4 p5 p6 p7 p8 p9 
    obtain ⟨p0, p1, p2, p3, p4, p5, p6, p7, p8, p9⟩ := H1.out.held.1
    go_wp2_with fail
    refine (KA.out _).mono ?_
    rintro e w2 ⟨rfl, hb⟩
    have H2 : Hid (Cfg w w.heap.size c w2) := H1.out.step hb
    clear KA H1 hb p0 p1 p2 p3 p4 p5 p6 p7 p8 p9
    go_wp2
    go_ret
    exact ⟨rfl, H2.out.bel⟩
  case inr.inr =>
    rw [h] at K1
    clear h
    go_enter Try.func5, Try.ntmps5
    obtain ⟨p0, p1, p2, p3, p4, p5, p6, p7, p8, p9⟩ := H0.out.held.1
    go_wp2_with fail
    refine (K1.out _).mono ?_
    rintro e w1 ⟨rfl, hb⟩
    have H1 : Hid (Cfg w w.heap.size c w1) := H0.out.step hb
    clear K1 H0 hb p0 p1 p2 p3 p4 p5 p6 p7 p8 p9 
    obtain ⟨p0, p1, p2, p3, p4, p5, p6, p7, p8, p9⟩ := H1.out.held.1
    go_wp2_with fail
    refine (KA.out _).mono ?_
    rintro e w2 ⟨rfl, hb⟩
    have H2 : Hid (Cfg w w.heap.size c w2) := H1.out.step hb
    clear KA H1 hb p0 p1 p2 p3 p4 p5 p6 p7 p8 p9
    go_wp2
    go_ret
    exact ⟨rfl, H2.out.bel⟩
  rw [idx_yes hs hk] at K1
  by_cases hr : r ≤ 1048570
  case neg =>
    clear hs hk
    generalize r - st = A at *
    go_enter Try.func5, Try.ntmps5
    obtain ⟨p0, p1, p2, p3, p4, p5, p6, p7, p8, p9⟩ := H0.out.held.1
    go_wp2_with fail
    refine (K1.out _).mono ?_
    rintro e w1 ⟨rfl, hb⟩
    have H1 : Hid (Cfg w w.heap.size c w1) := H0.out.step hb
    clear K1 H0 hb p0 p1 p2 p3 p4 p5 p6 p7 p8 p9 
    obtain ⟨p0, p1, p2, p3, p4, p5, p6, p7, p8, p9⟩ := H1.out.held.1
    go_wp2_with fail
    refine (KA.out _).mono ?_
    rintro e w2 ⟨rfl, hb⟩
    have H2 : Hid (Cfg w w.heap.size c w2) := H1.out.step hb
    clear KA H1 hb p0 p1 p2 p3 p4 p5 p6 p7 p8 p9
    go_wp2
    go_ret
    exact ⟨rfl, H2.out.bel⟩
  have K2 := fun W => told_ok W c st (r + c.d)
  rw [tol_eq hs hk hr] at K2
  have K3 := fun W => at_ok W c (r + c.d) sl
  have hd0 := (right_of (sin_in hs).1).d0
  have hd1 := (right_of (sin_in hs).1).d1
  have hr0 := (sin_in hs).2.2.1
  obtain ⟨A, hA⟩ : ∃ A, A = r - st := ⟨_, rfl⟩
  obtain ⟨B, hB⟩ : ∃ B, B = r + c.d := ⟨_, rfl⟩
  have e1 : IntKind.i64.wrap (r + c.d) = B := by rw [hB]; exact wrap_in (by omega) (by omega)
  rw [← hA, ← hB] at K2
  rw [← hA] at K1
  rw [← hB] at K3
  have K2' : Hid (∀ W, Calls Try.prog 9 #[.agg (cfC c), .int .i64 st, .int .i64 B] W fun e w' => e = .returned (.tuple #[.int .i64 A, .int .i64 0]) ∧ Below W.heap.size W w') := K2
  cases hc : cellB c B sl
  case false =>
    have K3' : Hid (∀ W, Calls Try.prog 20 #[.agg (cfC c), .int .i64 B, .int .i64 sl] W fun e w' => e = .returned (.tuple #[.int .i64 0, .int .i64 1]) ∧ Below W.heap.size W w') := fun W => by
      have := K3 W
      rw [atV, hc, if_neg Bool.false_ne_true] at this
      exact this
    clear hc K2 K3 hs hk hd0 hd1 hr0 hA hB
    go_enter Try.func5, Try.ntmps5
    obtain ⟨p0, p1, p2, p3, p4, p5, p6, p7, p8, p9⟩ := H0.out.held.1
    go_wp2_with fail
    refine (K1.out _).mono ?_
    rintro e w1 ⟨rfl, hb⟩
    have H1 : Hid (Cfg w w.heap.size c w1) := H0.out.step hb
    clear K1 H0 hb p0 p1 p2 p3 p4 p5 p6 p7 p8 p9 
    obtain ⟨p0, p1, p2, p3, p4, p5, p6, p7, p8, p9⟩ := H1.out.held.1
    go_wp2_with fail
    refine (K2'.out _).mono ?_
    rintro e w2 ⟨rfl, hb⟩
    have H2 : Hid (Cfg w w.heap.size c w2) := H1.out.step hb
    clear K2' H1 hb p0 p1 p2 p3 p4 p5 p6 p7 p8 p9 
    obtain ⟨p0, p1, p2, p3, p4, p5, p6, p7, p8, p9⟩ := H2.out.held.1
    go_wp2_with fail
    refine (K3'.out _).mono ?_
    rintro e w3 ⟨rfl, hb⟩
    have H3 : Hid (Cfg w w.heap.size c w3) := H2.out.step hb
    clear K3' H2 hb p0 p1 p2 p3 p4 p5 p6 p7 p8 p9 e1
    obtain ⟨p0, p1, p2, p3, p4, p5, p6, p7, p8, p9⟩ := H3.out.held.1
    go_wp2_with fail
    refine (KA.out _).mono ?_
    rintro e w4 ⟨rfl, hb⟩
    have H4 : Hid (Cfg w w.heap.size c w4) := H3.out.step hb
    clear KA H3 hb p0 p1 p2 p3 p4 p5 p6 p7 p8 p9
    go_wp2
    go_ret
    exact ⟨rfl, H4.out.bel⟩
  have K3' : Hid (∀ W, Calls Try.prog 20 #[.agg (cfC c), .int .i64 B, .int .i64 sl] W fun e w' => e = .returned (.tuple #[.int .i64 (atN c B sl), .int .i64 0]) ∧ Below W.heap.size W w') := fun W => by
    have := K3 W
    rw [atV, hc, if_pos rfl] at this
    exact this
  have hF := told_facts (sl := sl) hs hk (by rw [← hB]; exact hc)
  rw [← hB, ← hA] at hF
  obtain ⟨T, hT⟩ : ∃ T, T = atN c B sl := ⟨_, rfl⟩
  rw [← hT] at hF K3'
  obtain ⟨f1, f2, f3, f4, f5, f6⟩ := hF
  have K4 : Hid (∀ W, Calls Try.prog 13 #[.agg (cfC c), .int .i64 sl, .int .i64 st, .int .i64 T] W fun e w' => e = .returned (.tuple #[.int .i64 A, .int .i64 0]) ∧ Below W.heap.size W w') := fun W =>
    (known_ok W c sl st T).mono fun e w' h => by
      obtain ⟨⟨h1, _⟩ | ⟨_, n, h1, h2⟩, hb⟩ := h
      · rw [f1] at h1; cases h1
      · rw [f3 n h2] at h1; exact ⟨h1, hb⟩
  obtain ⟨S, hS⟩ : ∃ S, S = T - 1 := ⟨_, rfl⟩
  rw [← hS] at f2 f4
  have e2 : IntKind.i64.wrap (T - 1) = S := by rw [hS]; exact wrap_in (by omega) (by omega)
  have K5 : Hid (∀ W, Calls Try.prog 13 #[.agg (cfC c), .int .i64 sl, .int .i64 st, .int .i64 S] W fun e w' => ∃ n, (e = .returned (.tuple #[.int .i64 n, .int .i64 0]) ∧ n < A) ∧ Below W.heap.size W w') := fun W =>
    (known_ok W c sl st S).mono fun e w' h => by
      obtain ⟨⟨h1, _⟩ | ⟨_, n, h1, h2⟩, hb⟩ := h
      · rw [f2] at h1; cases h1
      · exact ⟨n, ⟨h1, f4 n h2⟩, hb⟩
  have e3 : ¬ S < 0 := by omega
  clear hc K2 K3 hs hk hd0 hd1 hr0 hA hB hT f1 f2 f3 f4 f5 f6 hS
  go_enter Try.func5, Try.ntmps5
  obtain ⟨p0, p1, p2, p3, p4, p5, p6, p7, p8, p9⟩ := H0.out.held.1
  go_wp2_with fail
  refine (K1.out _).mono ?_
  rintro e w1 ⟨rfl, hb⟩
  have H1 : Hid (Cfg w w.heap.size c w1) := H0.out.step hb
  clear K1 H0 hb p0 p1 p2 p3 p4 p5 p6 p7 p8 p9 
  obtain ⟨p0, p1, p2, p3, p4, p5, p6, p7, p8, p9⟩ := H1.out.held.1
  go_wp2_with fail
  refine (K2'.out _).mono ?_
  rintro e w2 ⟨rfl, hb⟩
  have H2 : Hid (Cfg w w.heap.size c w2) := H1.out.step hb
  clear K2' H1 hb p0 p1 p2 p3 p4 p5 p6 p7 p8 p9 
  obtain ⟨p0, p1, p2, p3, p4, p5, p6, p7, p8, p9⟩ := H2.out.held.1
  go_wp2_with fail
  refine (K3'.out _).mono ?_
  rintro e w3 ⟨rfl, hb⟩
  have H3 : Hid (Cfg w w.heap.size c w3) := H2.out.step hb
  clear K3' H2 hb p0 p1 p2 p3 p4 p5 p6 p7 p8 p9 e1 hr
  obtain ⟨p0, p1, p2, p3, p4, p5, p6, p7, p8, p9⟩ := H3.out.held.1
  go_wp2_with fail
  refine (K4.out _).mono ?_
  rintro e w4 ⟨rfl, hb⟩
  have H4 : Hid (Cfg w w.heap.size c w4) := H3.out.step hb
  clear K4 H3 hb p0 p1 p2 p3 p4 p5 p6 p7 p8 p9 
  obtain ⟨p0, p1, p2, p3, p4, p5, p6, p7, p8, p9⟩ := H4.out.held.1
  go_wp2_with fail
  refine (K5.out _).mono ?_
  rintro e w5 ⟨n, ⟨rfl, hlt⟩, hb⟩
  have H5 : Hid (Cfg w w.heap.size c w5) := H4.out.step hb
  clear K5 H4 hb p0 p1 p2 p3 p4 p5 p6 p7 p8 p9 e2 e3
  obtain ⟨p0, p1, p2, p3, p4, p5, p6, p7, p8, p9⟩ := H5.out.held.1
  go_wp2_with fail
  refine (KA.out _).mono ?_
  rintro e w6 ⟨rfl, hb⟩
  have H6 : Hid (Cfg w w.heap.size c w6) := H5.out.step hb
  clear KA H5 hb p0 p1 p2 p3 p4 p5 p6 p7 p8 p9
  go_wp2
  go_ret
  exact ⟨rfl, H6.out.bel⟩
end Go.Proofs.Ytiolkbdjphhajaa
