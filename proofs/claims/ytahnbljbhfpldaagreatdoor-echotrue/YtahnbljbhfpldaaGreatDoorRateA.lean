/-
  What clocks go on by, over plain numbers. No program here.
  The contracts of isRight, quotient, fast and slow.
  The contracts of Most, Least, Spread, Beats, and of awake.
  The contracts of the document's side: may, up, Most, Least, Spread; Beats.
-/
import Derived.Test.YtahnbljbhfpldaaGreatDoorGround
import Derived.Test.YtahnbljbhfpldaaGreatDoorRows
namespace Go.Proofs.YtahnbljbhfpldaaGreatDoor
set_option maxRecDepth 20000
def mayB (a d : Int) : Bool := decide (0 ≤ d) && decide (d ≤ 49) && decide (0 ≤ a) && decide (a ≤ 1099511627776)
def r8upN (a b : Int) : Int := if a % b = 0 then a / b else a / b + 1
def mostN (a d : Int) : Int := a * (100 + d) / (100 - d)
theorem mayB_true {a d : Int} (h : mayB a d = true) : 0 ≤ d ∧ d ≤ 49 ∧ 0 ≤ a ∧ a ≤ 1099511627776 := by
  simp [mayB] at h; omega
theorem mayB_of {a d : Int} (h0 : 0 ≤ d) (h1 : d ≤ 49) (h2 : 0 ≤ a) (h3 : a ≤ 1099511627776) : mayB a d = true := by
  simp [mayB]; omega
theorem upN_nonneg {x y : Int} (hx : 0 ≤ x) (hy : 0 < y) : 0 ≤ r8upN x y := by
  have := Int.ediv_nonneg hx (show 0 ≤ y by omega)
  unfold r8upN; split <;> omega
theorem prod_bound {a c : Int} (h2 : 0 ≤ a) (h3 : a ≤ 1099511627776) (hc0 : 0 ≤ c) (hc : c ≤ 149) : 0 ≤ a * c ∧ a * c ≤ 163827232538624 := by
  refine ⟨Int.mul_nonneg h2 hc0, ?_⟩
  have := Int.mul_le_mul h3 hc hc0 (show (0 : Int) ≤ 1099511627776 by omega)
  omega
theorem most_le {b a d : Int} (h1 : d ≤ 49) : b ≤ mostN a d ↔ b * (100 - d) ≤ a * (100 + d) := by
  unfold mostN
  exact Int.le_ediv_iff_mul_le (by omega)
theorem le_most {a d : Int} (h0 : 0 ≤ d) (h1 : d ≤ 49) (h2 : 0 ≤ a) : a ≤ mostN a d := by
  rw [most_le h1]
  exact Int.mul_le_mul_of_nonneg_left (by omega) h2
theorem most_le3 {a d : Int} (h0 : 0 ≤ d) (h1 : d ≤ 49) (h2 : 0 ≤ a) : mostN a d ≤ 3 * a := by
  unfold mostN
  have : a * (100 + d) ≤ 3 * a * (100 - d) := by
    rw [Int.mul_comm 3 a, Int.mul_assoc]
    exact Int.mul_le_mul_of_nonneg_left (by omega) h2
  have h := Int.ediv_le_ediv (show 0 < 100 - d by omega) this
  rwa [Int.mul_ediv_cancel _ (show 100 - d ≠ 0 by omega)] at h
open Go.ChangeShapes Go.WideShapes Go.ChangeAt Go.RowKit
set_option maxHeartbeats 800000 in
set_option maxRecDepth 20000 in
theorem right_ok (w : World) (a d : Int) :
    Calls Tryz.prog 48 #[.int .i64 a, .int .i64 d] w fun e w' => e = .returned (.bool (mayB a d)) ∧ w' = w := by
  by_cases h0 : 0 ≤ d
  · by_cases h1 : d ≤ 49
    · by_cases h2 : 0 ≤ a
      · by_cases h3 : a ≤ 1099511627776
        · have hm : mayB a d = true := mayB_of h0 h1 h2 h3
          rw [hm]
          go_enter Tryz.func48, Tryz.ntmps48
          go_wp2
          go_ret
          exact ⟨by first | rfl | simp, rfl⟩
        · have hm : mayB a d = false := by simp [mayB, h3]
          rw [hm]
          go_enter Tryz.func48, Tryz.ntmps48
          go_wp2
          go_ret
          exact ⟨by first | rfl | simp, rfl⟩
      · have hm : mayB a d = false := by simp [mayB, h2]
        rw [hm]
        go_enter Tryz.func48, Tryz.ntmps48
        go_wp2
        go_ret
        exact ⟨by first | rfl | simp, rfl⟩
    · have hm : mayB a d = false := by simp [mayB, h1]
      rw [hm]
      go_enter Tryz.func48, Tryz.ntmps48
      go_wp2
      go_ret
      exact ⟨by first | rfl | simp, rfl⟩
  · have hm : mayB a d = false := by simp [mayB, h0]
    rw [hm]
    go_enter Tryz.func48, Tryz.ntmps48
    go_wp2
    go_ret
    exact ⟨by first | rfl | simp, rfl⟩
theorem fast_ok (w : World) (d : Int) (h0 : 0 ≤ d) (h1 : d ≤ 49) :
    Calls Tryz.prog 75 #[.int .i64 d] w fun e w' => e = .returned (.int .i64 (100 + d)) ∧ w' = w := by
  have e1 : IntKind.i64.wrap (100 + d) = 100 + d := by rw [IntKind.wrap_i64]; omega
  go_enter Tryz.func75, Tryz.ntmps75
  go_wp2
  go_ret
  exact ⟨by first | rfl | rw [e1], rfl⟩
theorem slow_ok (w : World) (d : Int) (h0 : 0 ≤ d) (h1 : d ≤ 49) :
    Calls Tryz.prog 76 #[.int .i64 d] w fun e w' => e = .returned (.int .i64 (100 - d)) ∧ w' = w := by
  have e1 : IntKind.i64.wrap (100 - d) = 100 - d := by rw [IntKind.wrap_i64]; omega
  go_enter Tryz.func76, Tryz.ntmps76
  go_wp2
  go_ret
  exact ⟨by first | rfl | rw [e1], rfl⟩
theorem quo_bound {x y : Int} (hx : 0 ≤ x) (hy : 0 < y) : 0 ≤ x / y ∧ x / y ≤ x := ⟨Int.ediv_nonneg hx (by omega), Int.ediv_le_self _ hx⟩
set_option maxHeartbeats 800000 in
set_option maxRecDepth 20000 in
theorem quodown_ok (w : World) (x y : Int) (hx : 0 ≤ x) (hx1 : x ≤ 163827232538624) (hy : 0 < y) (hy1 : y ≤ 149) :
    Calls Tryz.prog 74 #[.int .i64 x, .int .i64 y, .int .i64 0] w fun e w' => e = .returned (.int .i64 (x / y)) ∧ w' = w := by
  obtain ⟨q, hq⟩ : ∃ q, q = x / y := ⟨_, rfl⟩
  have hb := quo_bound hx hy
  have e1 : x.tdiv y = q := by rw [hq]; exact Int.tdiv_eq_ediv_of_nonneg hx
  rw [← hq] at hb ⊢
  have y0 : (y == 0) = false := by simp; omega
  have y1 : ¬ y = 0 := by omega
  have e2 : IntKind.i64.wrap q = q := by rw [IntKind.wrap_i64]; omega
  clear hq
  go_enter Tryz.func74, Tryz.ntmps74
  go_wp2
  go_ret
  exact ⟨by first | rfl | rw [e1], rfl⟩
set_option maxHeartbeats 800000 in
set_option maxRecDepth 20000 in
theorem inmost_ok (w : World) (a d : Int) (h0 : 0 ≤ d) (h1 : d ≤ 49) (h2 : 0 ≤ a) (h3 : a ≤ 1099511627776) :
    Calls Tryz.prog 49 #[.int .i64 a, .int .i64 d] w fun e w' => e = .returned (.int .i64 (mostN a d)) ∧ w' = w := by
  have hb := prod_bound (c := 100 + d) h2 h3 (by omega) (by omega)
  obtain ⟨c, hc⟩ : ∃ c, c = a * (100 + d) := ⟨_, rfl⟩
  obtain ⟨f, hf⟩ : ∃ f, f = 100 + d := ⟨_, rfl⟩
  obtain ⟨s, hs⟩ : ∃ s, s = 100 - d := ⟨_, rfl⟩
  have k1 := fast_ok w d h0 h1
  have k2 := slow_ok w d h0 h1
  have k3 := quodown_ok w c s (by omega) (by omega) (by omega) (by omega)
  have e0 : mostN a d = c / s := by rw [hc, hs]; rfl
  rw [← hc] at hb
  have e1 : a * f = c := by rw [hc, hf]
  have e2 : IntKind.i64.wrap (a * f) = c := by rw [e1, IntKind.wrap_i64]; omega
  rw [← hf] at k1
  rw [← hs] at k2
  rw [e0]
  obtain ⟨q, hq⟩ : ∃ q, q = c / s := ⟨_, rfl⟩
  rw [← hq] at k3 ⊢
  clear e0 hc hf hs hq e1
  go_enter Tryz.func49, Tryz.ntmps49
  go_wp2_with fail
  refine k1.mono ?_
  rintro e w1 ⟨rfl, rfl⟩
  clear k1
  go_wp2_with fail
  refine k2.mono ?_
  rintro e w2 ⟨rfl, rfl⟩
  clear k2
  go_wp2_with fail
  refine k3.mono ?_
  rintro e w2 ⟨rfl, rfl⟩
  clear k3
  go_wp2
  go_ret
  exact ⟨rfl, rfl⟩
def ansN (a d n : Int) : Value := if mayB a d = true then .tuple #[.int .i64 n, .int .i64 0] else .tuple #[.int .i64 0, .int .i64 1]
end Go.Proofs.YtahnbljbhfpldaaGreatDoor
