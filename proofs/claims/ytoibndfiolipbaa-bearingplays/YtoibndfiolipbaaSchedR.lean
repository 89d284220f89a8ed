/-
  The document's side: from and Check.
-/
import Derived.Test.YtoibndfiolipbaaSchedD
namespace Go.Proofs.Ytoibndfiolipbaa
open Go.ChangeShapes Go.WideShapes Go.ChangeAt Go.RowKit

def fromB (n a b : Int) : Bool := decide (a ≤ n ∧ n ≤ b)
theorem from_in {n a b : Int} (h : fromB n a b = true) : a ≤ n ∧ n ≤ b := of_decide_eq_true h

theorem from_ok (w : World) (n a b : Int) : Calls Try.prog 48 #[.int .i64 n, .int .i64 a, .int .i64 b] w fun e w' => e = .returned (.bool (fromB n a b)) ∧ w' = w := by
  by_cases h0 : a ≤ n
  · have hN : fromB n a b = decide (n ≤ b) := by simp [fromB, h0]
    rw [hN]
    clear hN
    by_cases h1 : n ≤ b
    all_goals
      simp only [h1, decide_true, decide_false]
      go_enter Try.func48, Try.ntmps48
      go_wp2
      go_ret
      exact ⟨by first | rfl | (simp; done) | (simp; omega), rfl⟩
  · rw [show fromB n a b = false by simp [fromB, h0]]
    go_enter Try.func48, Try.ntmps48
    go_wp2
    go_ret
    exact ⟨by first | rfl | (simp; done) | (simp; omega), rfl⟩

/-- A config is right, as the document asks it: in its order. -/
theorem ok_chain (c : Cf) : okB c = (fromB c.n 1 8 && fromB c.f 0 8 && decide (3 * c.f < c.n) && fromB c.s 300 10000 && fromB c.d 1 4 && fromB c.k (c.d + 4) 256 && fromB c.e 1 (4 * c.s) && fromB c.v 100 (4 * c.s) && fromB c.r 0 5 && fromB c.l 0 5 && fromB c.p 1 64) := by
  rw [Bool.eq_iff_iff]
  simp only [okB, nodesB, slotsB, keysB, clocksB, fromB, Bool.and_eq_true, decide_eq_true_eq]
  constructor
  · rintro ⟨⟨⟨⟨a1, a2, a3, a4⟩, b1, b2, b3, b4, b5, b6⟩, c1, c2, c3, c4, c5, c6⟩, d1, d2, d3, d4⟩
    exact ⟨⟨⟨⟨⟨⟨⟨⟨⟨⟨⟨a1, a2⟩, a3, by omega⟩, a4⟩, b1, b2⟩, c1, c2⟩, c3, c4⟩, b3, b4⟩, b5, b6⟩, d1, d2⟩, d3, d4⟩, c5, c6⟩
  · rintro ⟨⟨⟨⟨⟨⟨⟨⟨⟨⟨⟨a1, a2⟩, a3, _⟩, a4⟩, b1, b2⟩, c1, c2⟩, c3, c4⟩, b3, b4⟩, b5, b6⟩, d1, d2⟩, d3, d4⟩, c5, c6⟩
    exact ⟨⟨⟨⟨a1, a2, a3, a4⟩, b1, b2, b3, b4, b5, b6⟩, c1, c2, c3, c4, c5, c6⟩, d1, d2, d3, d4⟩

set_option maxHeartbeats 3200000 in
set_option maxRecDepth 20000 in
theorem rcheck_ok (w : World) (c : Cf) : Calls Try.prog 28 #[.agg (cfC c)] w fun e w' => e = .returned (.int .i64 (if okB c = true then 0 else 1)) ∧ Below w.heap.size w w' := by
  have H0 : Hid (Cfg w w.heap.size c (w.alloc (.cells (cfC c) 23))) := Cfg.new w c
  rw [ok_chain c]
  have F1 : Hid (∀ W, Calls Try.prog 48 #[.int .i64 c.n, .int .i64 1, .int .i64 8] W fun e w' => e = .returned (.bool (fromB c.n 1 8)) ∧ w' = W) := fun W => from_ok W _ _ _
  have F2 : Hid (∀ W, Calls Try.prog 48 #[.int .i64 c.f, .int .i64 0, .int .i64 8] W fun e w' => e = .returned (.bool (fromB c.f 0 8)) ∧ w' = W) := fun W => from_ok W _ _ _
  have F4 : Hid (∀ W, Calls Try.prog 48 #[.int .i64 c.s, .int .i64 300, .int .i64 10000] W fun e w' => e = .returned (.bool (fromB c.s 300 10000)) ∧ w' = W) := fun W => from_ok W _ _ _
  have F5 : Hid (∀ W, Calls Try.prog 48 #[.int .i64 c.d, .int .i64 1, .int .i64 4] W fun e w' => e = .returned (.bool (fromB c.d 1 4)) ∧ w' = W) := fun W => from_ok W _ _ _
  have F6 : Hid (∀ W, Calls Try.prog 48 #[.int .i64 c.k, .int .i64 (c.d + 4), .int .i64 256] W fun e w' => e = .returned (.bool (fromB c.k (c.d + 4) 256)) ∧ w' = W) := fun W => from_ok W _ _ _
  have F7 : Hid (∀ W, Calls Try.prog 48 #[.int .i64 c.e, .int .i64 1, .int .i64 (4 * c.s)] W fun e w' => e = .returned (.bool (fromB c.e 1 (4 * c.s))) ∧ w' = W) := fun W => from_ok W _ _ _
  have F8 : Hid (∀ W, Calls Try.prog 48 #[.int .i64 c.v, .int .i64 100, .int .i64 (4 * c.s)] W fun e w' => e = .returned (.bool (fromB c.v 100 (4 * c.s))) ∧ w' = W) := fun W => from_ok W _ _ _
  have F9 : Hid (∀ W, Calls Try.prog 48 #[.int .i64 c.r, .int .i64 0, .int .i64 5] W fun e w' => e = .returned (.bool (fromB c.r 0 5)) ∧ w' = W) := fun W => from_ok W _ _ _
  have F10 : Hid (∀ W, Calls Try.prog 48 #[.int .i64 c.l, .int .i64 0, .int .i64 5] W fun e w' => e = .returned (.bool (fromB c.l 0 5)) ∧ w' = W) := fun W => from_ok W _ _ _
  have F11 : Hid (∀ W, Calls Try.prog 48 #[.int .i64 c.p, .int .i64 1, .int .i64 64] W fun e w' => e = .returned (.bool (fromB c.p 1 64)) ∧ w' = W) := fun W => from_ok W _ _ _
  have E3 : Hid (fromB c.f 0 8 = true → IntKind.i64.wrap (3 * c.f) = 3 * c.f) := fun h => by have := from_in h; exact wrap_in (by omega) (by omega)
  have E6 : Hid (fromB c.d 1 4 = true → IntKind.i64.wrap (c.d + 4) = c.d + 4) := fun h => by have := from_in h; exact wrap_in (by omega) (by omega)
  have E7 : Hid (fromB c.s 300 10000 = true → IntKind.i64.wrap (4 * c.s) = 4 * c.s) := fun h => by have := from_in h; exact wrap_in (by omega) (by omega)
  generalize fromB c.n 1 8 = b1 at *
  generalize fromB c.f 0 8 = b2 at *
  generalize fromB c.s 300 10000 = b4 at *
  generalize fromB c.d 1 4 = b5 at *
  generalize fromB c.k (c.d + 4) 256 = b6 at *
  generalize fromB c.e 1 (4 * c.s) = b7 at *
  generalize fromB c.v 100 (4 * c.s) = b8 at *
  generalize fromB c.r 0 5 = b9 at *
  generalize fromB c.l 0 5 = b10 at *
  generalize fromB c.p 1 64 = b11 at *
  go_enter Try.func28, Try.ntmps28
  obtain ⟨p0, p1, p2, p3, p4, p5, p6, p7, p8, p9⟩ := H0.out.held.1
  go_wp2_with fail
  refine (F1.out _).mono ?_
  rintro e w1 ⟨rfl, rfl⟩
  clear F1
  cases b1
  case false =>
    go_wp2
    all_goals
      go_ret
      exact ⟨by first | rfl | (simp; done) | (simp [h3]; done), H0.out.bel⟩
  go_wp2_with fail
  refine (F2.out _).mono ?_
  rintro e w1 ⟨rfl, rfl⟩
  clear F2
  cases b2
  case false =>
    go_wp2
    all_goals
      go_ret
      exact ⟨by first | rfl | (simp; done) | (simp [h3]; done), H0.out.bel⟩
  have e3 := E3.out rfl
  clear E3
  by_cases h3 : 3 * c.f < c.n
  case neg =>
    go_wp2
    all_goals
      go_ret
      exact ⟨by first | rfl | (simp; done) | (simp [h3]; done), H0.out.bel⟩
  go_wp2_with fail
  refine (F4.out _).mono ?_
  rintro e w1 ⟨rfl, rfl⟩
  clear F4
  cases b4
  case false =>
    go_wp2
    all_goals
      go_ret
      exact ⟨by first | rfl | (simp; done) | (simp [h3]; done), H0.out.bel⟩
  have e7 := E7.out rfl
  clear E7
  go_wp2_with fail
  refine (F5.out _).mono ?_
  rintro e w1 ⟨rfl, rfl⟩
  clear F5
  cases b5
  case false =>
    go_wp2
    all_goals
      go_ret
      exact ⟨by first | rfl | (simp; done) | (simp [h3]; done), H0.out.bel⟩
  have e6 := E6.out rfl
  clear E6
  go_wp2_with fail
  refine (F6.out _).mono ?_
  rintro e w1 ⟨rfl, rfl⟩
  clear F6
  cases b6
  case false =>
    go_wp2
    all_goals
      go_ret
      exact ⟨by first | rfl | (simp; done) | (simp [h3]; done), H0.out.bel⟩
  go_wp2_with fail
  refine (F7.out _).mono ?_
  rintro e w1 ⟨rfl, rfl⟩
  clear F7
  cases b7
  case false =>
    go_wp2
    all_goals
      go_ret
      exact ⟨by first | rfl | (simp; done) | (simp [h3]; done), H0.out.bel⟩
  go_wp2_with fail
  refine (F8.out _).mono ?_
  rintro e w1 ⟨rfl, rfl⟩
  clear F8
  cases b8
  case false =>
    go_wp2
    all_goals
      go_ret
      exact ⟨by first | rfl | (simp; done) | (simp [h3]; done), H0.out.bel⟩
  go_wp2_with fail
  refine (F9.out _).mono ?_
  rintro e w1 ⟨rfl, rfl⟩
  clear F9
  cases b9
  case false =>
    go_wp2
    all_goals
      go_ret
      exact ⟨by first | rfl | (simp; done) | (simp [h3]; done), H0.out.bel⟩
  go_wp2_with fail
  refine (F10.out _).mono ?_
  rintro e w1 ⟨rfl, rfl⟩
  clear F10
  cases b10
  case false =>
    go_wp2
    all_goals
      go_ret
      exact ⟨by first | rfl | (simp; done) | (simp [h3]; done), H0.out.bel⟩
  go_wp2_with fail
  refine (F11.out _).mono ?_
  rintro e w1 ⟨rfl, rfl⟩
  clear F11
  cases b11
  case false =>
    go_wp2
    all_goals
      go_ret
      exact ⟨by first | rfl | (simp; done) | (simp [h3]; done), H0.out.bel⟩
  go_wp2
  all_goals
    go_ret
    exact ⟨by first | rfl | (simp; done) | (simp [h3]; done), H0.out.bel⟩
end Go.Proofs.Ytoibndfiolipbaa
