/-
  The walk of DiscloseApart.
-/
import Derived.Test.YtiolkbdjphhajaaDisE
namespace Go.Proofs.Ytiolkbdjphhajaa
open Go.ChangeShapes Go.WideShapes Go.ChangeAt Go.RowKit

set_option maxHeartbeats 3200000 in
set_option maxRecDepth 20000 in
theorem apart_walk (c : Cf) (sl st r now : Int) (w : World) : Calls Try.prog 4 #[.agg (cfC c), .int .i64 sl, .int .i64 st, .int .i64 r, .int .i64 now] w fun e w' => e = .returned (.bool true) ∧ Below w.heap.size w w' := by
  have H0 : Hid (Cfg w w.heap.size c (w.alloc (.cells (cfC c) 23))) := Cfg.new w c
  have KA : Hid (∀ W, Calls Try.prog 19 #[] W fun e w' => e = .returned (.bool true) ∧ Below W.heap.size W w') := fun W => awake_ok W
  have K1 : Hid (∀ W, Calls Try.prog 7 #[.agg (cfC c), .int .i64 st, .int .i64 r] W fun e w' => e = .returned (idxV c st r) ∧ Below W.heap.size W w') := fun W => index_ok W c st r
  have K2 : Hid (∀ W, Calls Try.prog 13 #[.agg (cfC c), .int .i64 sl, .int .i64 st, .int .i64 now] W fun e w' => ((knB c sl st now = false ∧ e = .returned (.tuple #[.int .i64 0, .int .i64 1])) ∨ (knB c sl st now = true ∧ ∃ n, e = .returned (.tuple #[.int .i64 n, .int .i64 0]) ∧ Kn c sl st now n)) ∧ Below W.heap.size W w') := fun W => known_ok W c sl st now
  have K3 : Hid (∀ W, Calls Try.prog 15 #[.agg (cfC c), .int .i64 sl, .int .i64 st, .int .i64 r, .int .i64 now] W fun e w' => e = .returned (.int .i64 (rsecN c sl st r now)) ∧ Below W.heap.size W w') := fun W => secret_ok W c sl st r now
  rcases idx_cases c st r with ⟨hs, hk⟩ | h | h
  case inr.inl =>
    rw [h] at K1
    clear h
    generalize rsecN c sl st r now = G at *
    go_enter Try.func4, Try.ntmps4
    obtain ⟨p0, p1, p2, p3, p4, p5, p6, p7, p8, p9⟩ := H0.out.held.1
    go_wp2_with fail
    refine (K1.out _).mono ?_
    rintro e w1 ⟨rfl, hb⟩
    have H1 : Hid (Cfg w w.heap.size c w1) := H0.out.step hb
    clear K1 H0 hb p0 p1 p2 p3 p4 p5 p6 p7 p8 p9 
    obtain ⟨p0, p1, p2, p3, p4, p5, p6, p7, p8, p9⟩ := H1.out.held.1
    go_wp2_with fail
    refine (K2.out _).mono ?_
    rintro e w2 ⟨he2, hb⟩
    have H2 : Hid (Cfg w w.heap.size c w2) := H1.out.step hb
    clear K2 H1 hb p0 p1 p2 p3 p4 p5 p6 p7 p8 p9
    obtain ⟨n, f, rfl⟩ : ∃ n f, e = .returned (.tuple #[.int .i64 n, .int .i64 f]) := by
      rcases he2 with ⟨_, h⟩ | ⟨_, n, h, _⟩
      · exact ⟨_, _, h⟩
      · exact ⟨_, _, h⟩
    clear he2
    obtain ⟨p0, p1, p2, p3, p4, p5, p6, p7, p8, p9⟩ := H2.out.held.1
    go_wp2_with fail
    refine (K3.out _).mono ?_
    rintro e w3 ⟨rfl, hb⟩
    have H3 : Hid (Cfg w w.heap.size c w3) := H2.out.step hb
    clear K3 H2 hb p0 p1 p2 p3 p4 p5 p6 p7 p8 p9 
    obtain ⟨p0, p1, p2, p3, p4, p5, p6, p7, p8, p9⟩ := H3.out.held.1
    go_wp2_with fail
    refine (KA.out _).mono ?_
    rintro e w4 ⟨rfl, hb⟩
    have H4 : Hid (Cfg w w.heap.size c w4) := H3.out.step hb
    clear KA H3 hb p0 p1 p2 p3 p4 p5 p6 p7 p8 p9
    go_wp2
    go_ret
    exact ⟨by first | rfl | (simp; done) | (simp; omega), H4.out.bel⟩
  case inr.inr =>
    rw [h] at K1
    clear h
    generalize rsecN c sl st r now = G at *
    go_enter Try.func4, Try.ntmps4
    obtain ⟨p0, p1, p2, p3, p4, p5, p6, p7, p8, p9⟩ := H0.out.held.1
    go_wp2_with fail
    refine (K1.out _).mono ?_
    rintro e w1 ⟨rfl, hb⟩
    have H1 : Hid (Cfg w w.heap.size c w1) := H0.out.step hb
    clear K1 H0 hb p0 p1 p2 p3 p4 p5 p6 p7 p8 p9 
    obtain ⟨p0, p1, p2, p3, p4, p5, p6, p7, p8, p9⟩ := H1.out.held.1
    go_wp2_with fail
    refine (K2.out _).mono ?_
    rintro e w2 ⟨he2, hb⟩
    have H2 : Hid (Cfg w w.heap.size c w2) := H1.out.step hb
    clear K2 H1 hb p0 p1 p2 p3 p4 p5 p6 p7 p8 p9
    obtain ⟨n, f, rfl⟩ : ∃ n f, e = .returned (.tuple #[.int .i64 n, .int .i64 f]) := by
      rcases he2 with ⟨_, h⟩ | ⟨_, n, h, _⟩
      · exact ⟨_, _, h⟩
      · exact ⟨_, _, h⟩
    clear he2
    obtain ⟨p0, p1, p2, p3, p4, p5, p6, p7, p8, p9⟩ := H2.out.held.1
    go_wp2_with fail
    refine (K3.out _).mono ?_
    rintro e w3 ⟨rfl, hb⟩
    have H3 : Hid (Cfg w w.heap.size c w3) := H2.out.step hb
    clear K3 H2 hb p0 p1 p2 p3 p4 p5 p6 p7 p8 p9 
    obtain ⟨p0, p1, p2, p3, p4, p5, p6, p7, p8, p9⟩ := H3.out.held.1
    go_wp2_with fail
    refine (KA.out _).mono ?_
    rintro e w4 ⟨rfl, hb⟩
    have H4 : Hid (Cfg w w.heap.size c w4) := H3.out.step hb
    clear KA H3 hb p0 p1 p2 p3 p4 p5 p6 p7 p8 p9
    go_wp2
    go_ret
    exact ⟨by first | rfl | (simp; done) | (simp; omega), H4.out.bel⟩
  rw [idx_yes hs hk] at K1
  have HS : Hid (∀ n, Kn c sl st now n → rsecN c sl st r now = 1 ∨ (rsecN c sl st r now = 0 ∧ n < r - st) ∨ (rsecN c sl st r now = 12 ∧ ¬ n < r - st)) := fun n h => rsec_kn hs hk h
  clear hs hk
  generalize rsecN c sl st r now = G at *
  generalize r - st = A at *
  go_enter Try.func4, Try.ntmps4
  obtain ⟨p0, p1, p2, p3, p4, p5, p6, p7, p8, p9⟩ := H0.out.held.1
  go_wp2_with fail
  refine (K1.out _).mono ?_
  rintro e w1 ⟨rfl, hb⟩
  have H1 : Hid (Cfg w w.heap.size c w1) := H0.out.step hb
  clear K1 H0 hb p0 p1 p2 p3 p4 p5 p6 p7 p8 p9 
  obtain ⟨p0, p1, p2, p3, p4, p5, p6, p7, p8, p9⟩ := H1.out.held.1
  go_wp2_with fail
  refine (K2.out _).mono ?_
  rintro e w2 ⟨he2, hb⟩
  have H2 : Hid (Cfg w w.heap.size c w2) := H1.out.step hb
  clear K2 H1 hb p0 p1 p2 p3 p4 p5 p6 p7 p8 p9
  rcases he2 with ⟨_, rfl⟩ | ⟨_, n, rfl, hn⟩
  · clear HS
    obtain ⟨p0, p1, p2, p3, p4, p5, p6, p7, p8, p9⟩ := H2.out.held.1
    go_wp2_with fail
    refine (K3.out _).mono ?_
    rintro e w3 ⟨rfl, hb⟩
    have H3 : Hid (Cfg w w.heap.size c w3) := H2.out.step hb
    clear K3 H2 hb p0 p1 p2 p3 p4 p5 p6 p7 p8 p9 
    obtain ⟨p0, p1, p2, p3, p4, p5, p6, p7, p8, p9⟩ := H3.out.held.1
    go_wp2_with fail
    refine (KA.out _).mono ?_
    rintro e w4 ⟨rfl, hb⟩
    have H4 : Hid (Cfg w w.heap.size c w4) := H3.out.step hb
    clear KA H3 hb p0 p1 p2 p3 p4 p5 p6 p7 p8 p9
    go_wp2
    go_ret
    exact ⟨by first | rfl | (simp; done) | (simp; omega), H4.out.bel⟩
  · have hG := HS.out n hn
    clear HS hn
    obtain ⟨p0, p1, p2, p3, p4, p5, p6, p7, p8, p9⟩ := H2.out.held.1
    go_wp2_with fail
    refine (K3.out _).mono ?_
    rintro e w3 ⟨rfl, hb⟩
    have H3 : Hid (Cfg w w.heap.size c w3) := H2.out.step hb
    clear K3 H2 hb p0 p1 p2 p3 p4 p5 p6 p7 p8 p9 
    rcases hG with rfl | ⟨rfl, hlt⟩ | ⟨rfl, hlt⟩
    · obtain ⟨p0, p1, p2, p3, p4, p5, p6, p7, p8, p9⟩ := H3.out.held.1
      go_wp2_with fail
      refine (KA.out _).mono ?_
      rintro e w4 ⟨rfl, hb⟩
      have H4 : Hid (Cfg w w.heap.size c w4) := H3.out.step hb
      clear KA H3 hb p0 p1 p2 p3 p4 p5 p6 p7 p8 p9
      go_wp2
      go_ret
      exact ⟨by first | rfl | (simp; done) | (simp; omega), H4.out.bel⟩
    · obtain ⟨p0, p1, p2, p3, p4, p5, p6, p7, p8, p9⟩ := H3.out.held.1
      go_wp2_with fail
      refine (KA.out _).mono ?_
      rintro e w4 ⟨rfl, hb⟩
      have H4 : Hid (Cfg w w.heap.size c w4) := H3.out.step hb
      clear KA H3 hb p0 p1 p2 p3 p4 p5 p6 p7 p8 p9
      go_wp2
      go_ret
      exact ⟨by first | rfl | (simp; done) | (simp; omega), H4.out.bel⟩
    · obtain ⟨p0, p1, p2, p3, p4, p5, p6, p7, p8, p9⟩ := H3.out.held.1
      go_wp2_with fail
      refine (KA.out _).mono ?_
      rintro e w4 ⟨rfl, hb⟩
      have H4 : Hid (Cfg w w.heap.size c w4) := H3.out.step hb
      clear KA H3 hb p0 p1 p2 p3 p4 p5 p6 p7 p8 p9
      go_wp2
      go_ret
      exact ⟨by first | rfl | (simp; done) | (simp; omega), H4.out.bel⟩
end Go.Proofs.Ytiolkbdjphhajaa
