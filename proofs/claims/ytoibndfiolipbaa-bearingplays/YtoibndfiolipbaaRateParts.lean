/-
  The contracts of isRight, quotient, fast and slow.
-/
import Derived.Test.YtoibndfiolipbaaRateMath
import Derived.Test.YtoibndfiolipbaaRows
namespace Go.Proofs.Ytoibndfiolipbaa
open Go.ChangeShapes Go.WideShapes Go.ChangeAt Go.RowKit

set_option maxHeartbeats 800000 in
set_option maxRecDepth 20000 in
theorem right_ok (w : World) (a d : Int) :
    Calls Try.prog 59 #[.int .i64 a, .int .i64 d] w fun e w' => e = .returned (.bool (mayB a d)) ∧ w' = w := by
  by_cases h0 : 0 ≤ d
  · by_cases h1 : d ≤ 49
    · by_cases h2 : 0 ≤ a
      · by_cases h3 : a ≤ 1099511627776
        · have hm : mayB a d = true := mayB_of h0 h1 h2 h3
          rw [hm]
          go_enter Try.func59, Try.ntmps59
          go_wp2
          go_ret
          exact ⟨by first | rfl | simp, rfl⟩
        · have hm : mayB a d = false := by simp [mayB, h3]
          rw [hm]
          go_enter Try.func59, Try.ntmps59
          go_wp2
          go_ret
          exact ⟨by first | rfl | simp, rfl⟩
      · have hm : mayB a d = false := by simp [mayB, h2]
        rw [hm]
        go_enter Try.func59, Try.ntmps59
        go_wp2
        go_ret
        exact ⟨by first | rfl | simp, rfl⟩
    · have hm : mayB a d = false := by simp [mayB, h1]
      rw [hm]
      go_enter Try.func59, Try.ntmps59
      go_wp2
      go_ret
      exact ⟨by first | rfl | simp, rfl⟩
  · have hm : mayB a d = false := by simp [mayB, h0]
    rw [hm]
    go_enter Try.func59, Try.ntmps59
    go_wp2
    go_ret
    exact ⟨by first | rfl | simp, rfl⟩

theorem fast_ok (w : World) (d : Int) (h0 : 0 ≤ d) (h1 : d ≤ 49) :
    Calls Try.prog 65 #[.int .i64 d] w fun e w' => e = .returned (.int .i64 (100 + d)) ∧ w' = w := by
  have e1 : IntKind.i64.wrap (100 + d) = 100 + d := by rw [IntKind.wrap_i64]; omega
  go_enter Try.func65, Try.ntmps65
  go_wp2
  go_ret
  exact ⟨by first | rfl | rw [e1], rfl⟩
theorem slow_ok (w : World) (d : Int) (h0 : 0 ≤ d) (h1 : d ≤ 49) :
    Calls Try.prog 66 #[.int .i64 d] w fun e w' => e = .returned (.int .i64 (100 - d)) ∧ w' = w := by
  have e1 : IntKind.i64.wrap (100 - d) = 100 - d := by rw [IntKind.wrap_i64]; omega
  go_enter Try.func66, Try.ntmps66
  go_wp2
  go_ret
  exact ⟨by first | rfl | rw [e1], rfl⟩

theorem quo_bound {x y : Int} (hx : 0 ≤ x) (hy : 0 < y) : 0 ≤ x / y ∧ x / y ≤ x := ⟨Int.ediv_nonneg hx (by omega), Int.ediv_le_self _ hx⟩

set_option maxHeartbeats 800000 in
set_option maxRecDepth 20000 in
theorem quodown_ok (w : World) (x y : Int) (hx : 0 ≤ x) (hx1 : x ≤ 163827232538624) (hy : 0 < y) (hy1 : y ≤ 149) :
    Calls Try.prog 64 #[.int .i64 x, .int .i64 y, .int .i64 0] w fun e w' => e = .returned (.int .i64 (x / y)) ∧ w' = w := by
  obtain ⟨q, hq⟩ : ∃ q, q = x / y := ⟨_, rfl⟩
  have hb := quo_bound hx hy
  have e1 : x.tdiv y = q := by rw [hq]; exact Int.tdiv_eq_ediv_of_nonneg hx
  rw [← hq] at hb ⊢
  have y0 : (y == 0) = false := by simp; omega
  have y1 : ¬ y = 0 := by omega
  have e2 : IntKind.i64.wrap q = q := by rw [IntKind.wrap_i64]; omega
  clear hq
  go_enter Try.func64, Try.ntmps64
  go_wp2
  go_ret
  exact ⟨by first | rfl | rw [e1], rfl⟩

set_option maxHeartbeats 800000 in
set_option maxRecDepth 20000 in
theorem quoup_ok (w : World) (x y : Int) (hx : 0 ≤ x) (hx1 : x ≤ 163827232538624) (hy : 0 < y) (hy1 : y ≤ 149) :
    Calls Try.prog 64 #[.int .i64 x, .int .i64 y, .int .i64 1] w fun e w' => e = .returned (.int .i64 (upN x y)) ∧ w' = w := by
  obtain ⟨q, hq⟩ : ∃ q, q = x / y := ⟨_, rfl⟩
  obtain ⟨r, hr⟩ : ∃ r, r = x % y := ⟨_, rfl⟩
  have hb := quo_bound hx hy
  have e1 : x.tdiv y = q := by rw [hq]; exact Int.tdiv_eq_ediv_of_nonneg hx
  have e3 : x.tmod y = r := by rw [hr]; exact Int.tmod_eq_emod_of_nonneg hx
  have hu : upN x y = if r = 0 then q else q + 1 := by rw [hq, hr]; rfl
  rw [← hq] at hb
  rw [hu]
  have y0 : (y == 0) = false := by simp; omega
  have y1 : ¬ y = 0 := by omega
  have e2 : IntKind.i64.wrap q = q := by rw [IntKind.wrap_i64]; omega
  have e4 : IntKind.i64.wrap (q + 1) = q + 1 := by rw [IntKind.wrap_i64]; omega
  have hr1 : 0 ≤ r ∧ r < 149 := by
    have := Int.emod_nonneg x (show y ≠ 0 by omega)
    have := Int.emod_lt_of_pos x hy
    omega
  have e5 : IntKind.i64.wrap r = r := by rw [IntKind.wrap_i64]; omega
  clear hq hr hu
  by_cases h : r = 0
  · subst h
    rw [if_pos rfl]
    go_enter Try.func64, Try.ntmps64
    go_wp2
    go_ret
    exact ⟨rfl, rfl⟩
  · rw [if_neg h]
    go_enter Try.func64, Try.ntmps64
    go_wp2
    go_ret
    exact ⟨rfl, rfl⟩
end Go.Proofs.Ytoibndfiolipbaa
