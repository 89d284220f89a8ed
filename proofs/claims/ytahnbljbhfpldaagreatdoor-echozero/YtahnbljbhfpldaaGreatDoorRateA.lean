/-
  What clocks go on by, over plain numbers. No program here.
  The contracts of isRight, quotient, fast and slow.
  The contracts of Most, Least, Spread, Beats, and of awake.
  The contracts of the document's side: may, up, Most, Least, Spread; Beats.
-/
import Derived.Test.YtahnbljbhfpldaaGreatDoorGround
import Derived.Test.YtahnbljbhfpldaaGreatDoorRows
namespace Go.Proofs.YtahnbljbhfpldaaGreatDoor
set_option maxRecDepth 20000

def mayB (a d : Int) : Bool := decide (0 ≤ d) && decide (d ≤ 49) && decide (0 ≤ a) && decide (a ≤ 1099511627776)
/-- A quotient, upwards. -/
def r8upN (a b : Int) : Int := if a % b = 0 then a / b else a / b + 1
def mostN (a d : Int) : Int := a * (100 + d) / (100 - d)
def leastN (a d : Int) : Int := r8upN (a * (100 - d)) (100 + d)
def spreadN (a d : Int) : Int := if mostN a d - a < a - leastN a d then a - leastN a d else mostN a d - a

theorem mayB_true {a d : Int} (h : mayB a d = true) : 0 ≤ d ∧ d ≤ 49 ∧ 0 ≤ a ∧ a ≤ 1099511627776 := by
  simp [mayB] at h; omega
theorem mayB_of {a d : Int} (h0 : 0 ≤ d) (h1 : d ≤ 49) (h2 : 0 ≤ a) (h3 : a ≤ 1099511627776) : mayB a d = true := by
  simp [mayB]; omega

theorem upN_le {x y z : Int} (hy : 0 < y) : r8upN x y ≤ z ↔ x ≤ z * y := by
  have hdm := Int.mul_ediv_add_emod x y
  have h0 := Int.emod_nonneg x (show y ≠ 0 by omega)
  have h1 := Int.emod_lt_of_pos x hy
  have hc : z * y = y * z := Int.mul_comm _ _
  unfold r8upN
  split
  · rename_i h
    constructor
    · intro hz
      have := Int.mul_le_mul_of_nonneg_left hz (show 0 ≤ y by omega)
      omega
    · intro hz
      refine Int.le_of_mul_le_mul_left (a := y) ?_ hy
      omega
  · rename_i h
    constructor
    · intro hz
      have h3 := Int.mul_le_mul_of_nonneg_left hz (show 0 ≤ y by omega)
      rw [Int.mul_add] at h3
      omega
    · intro hz
      have h4 : x / y < z := by
        refine Int.lt_of_mul_lt_mul_left (a := y) ?_ (by omega)
        omega
      omega
theorem upN_nonneg {x y : Int} (hx : 0 ≤ x) (hy : 0 < y) : 0 ≤ r8upN x y := by
  have := Int.ediv_nonneg hx (show 0 ≤ y by omega)
  unfold r8upN; split <;> omega

theorem prod_bound {a c : Int} (h2 : 0 ≤ a) (h3 : a ≤ 1099511627776) (hc0 : 0 ≤ c) (hc : c ≤ 149) : 0 ≤ a * c ∧ a * c ≤ 163827232538624 := by
  refine ⟨Int.mul_nonneg h2 hc0, ?_⟩
  have := Int.mul_le_mul h3 hc hc0 (show (0 : Int) ≤ 1099511627776 by omega)
  omega

theorem most_less {a d : Int} (h1 : d ≤ 49) : mostN a d - a = 2 * a * d / (100 - d) := by
  have hp : 100 - d ≠ 0 := by omega
  have : a * (100 + d) = 2 * a * d + a * (100 - d) := by
    rw [Int.mul_add, Int.mul_sub, Int.mul_assoc]; omega
  unfold mostN
  rw [this, Int.add_mul_ediv_right _ _ hp]
  omega
theorem most_le {b a d : Int} (h1 : d ≤ 49) : b ≤ mostN a d ↔ b * (100 - d) ≤ a * (100 + d) := by
  unfold mostN
  exact Int.le_ediv_iff_mul_le (by omega)
theorem le_most {a d : Int} (h0 : 0 ≤ d) (h1 : d ≤ 49) (h2 : 0 ≤ a) : a ≤ mostN a d := by
  rw [most_le h1]
  exact Int.mul_le_mul_of_nonneg_left (by omega) h2
theorem most_le3 {a d : Int} (h0 : 0 ≤ d) (h1 : d ≤ 49) (h2 : 0 ≤ a) : mostN a d ≤ 3 * a := by
  unfold mostN
  have : a * (100 + d) ≤ 3 * a * (100 - d) := by
    rw [Int.mul_comm 3 a, Int.mul_assoc]
    exact Int.mul_le_mul_of_nonneg_left (by omega) h2
  have h := Int.ediv_le_ediv (show 0 < 100 - d by omega) this
  rwa [Int.mul_ediv_cancel _ (show 100 - d ≠ 0 by omega)] at h
theorem least_le {b a d : Int} (h0 : 0 ≤ d) : leastN a d ≤ b ↔ a * (100 - d) ≤ b * (100 + d) := upN_le (by omega)
theorem least_le_self {a d : Int} (h0 : 0 ≤ d) (h2 : 0 ≤ a) : leastN a d ≤ a := by
  rw [least_le h0]
  exact Int.mul_le_mul_of_nonneg_left (by omega) h2
theorem least_nonneg {a d : Int} (h0 : 0 ≤ d) (h1 : d ≤ 49) (h2 : 0 ≤ a) : 0 ≤ leastN a d :=
  upN_nonneg (Int.mul_nonneg h2 (by omega)) (by omega)

/-- What is below is no greater than what is above. -/
theorem spread_most {a d : Int} (h0 : 0 ≤ d) (h1 : d ≤ 49) (h2 : 0 ≤ a) : spreadN a d = mostN a d - a := by
  unfold spreadN
  rw [if_neg]
  -- least a ≥ a - (most a - a)
  have hm := most_less (a := a) h1
  obtain ⟨q, hq⟩ : ∃ q, q = 2 * a * d / (100 - d) := ⟨_, rfl⟩
  rw [← hq] at hm
  have hn : ¬ leastN a d ≤ a - q - 1 := by
    rw [least_le h0]
    intro h
    -- 2 a d / (100 - d) ≥ 2 a d / (100 + d)
    have hx : 0 ≤ 2 * a * d := Int.mul_nonneg (by omega) h0
    have h5 := Int.lt_ediv_add_one_mul_self (2 * a * d) (show 0 < 100 - d by omega)
    rw [← hq] at h5
    have hq0 : 0 ≤ q := by rw [hq]; exact Int.ediv_nonneg hx (by omega)
    have h6 : (q + 1) * (100 - d) ≤ (q + 1) * (100 + d) := Int.mul_le_mul_of_nonneg_left (by omega) (by omega)
    have h7 : (a - q - 1) * (100 + d) = a * (100 + d) - (q + 1) * (100 + d) := by rw [← Int.sub_mul]; congr 1; omega
    have h8 : a * (100 + d) = 2 * a * d + a * (100 - d) := by rw [Int.mul_add, Int.mul_sub, Int.mul_assoc]; omega
    omega
  omega
theorem spread_mono {a b d : Int} (h0 : 0 ≤ d) (h1 : d ≤ 49) (h2 : 0 ≤ a) (hab : a ≤ b) : spreadN a d ≤ spreadN b d := by
  rw [spread_most h0 h1 h2, spread_most h0 h1 (by omega), most_less h1, most_less h1]
  refine Int.ediv_le_ediv (by omega) ?_
  exact Int.mul_le_mul_of_nonneg_right (by omega) h0
theorem spread_nonneg {a d : Int} (h0 : 0 ≤ d) (h1 : d ≤ 49) (h2 : 0 ≤ a) : 0 ≤ spreadN a d := by
  rw [spread_most h0 h1 h2]
  have := le_most h0 h1 h2
  omega
theorem spread_zero {a : Int} (h2 : 0 ≤ a) : spreadN a 0 = 0 := by
  rw [spread_most (by omega) (by omega) h2, most_less (by omega)]
  simp

/-- Two clocks in the same n beats. -/
theorem both_hold {a b n d : Int} (h0 : 0 ≤ d) (h1 : d ≤ 49) (ha0 : n * (100 - d) ≤ a) (ha1 : a ≤ n * (100 + d)) (hb0 : n * (100 - d) ≤ b) (hb1 : b ≤ n * (100 + d)) :
    leastN a d ≤ b ∧ b ≤ mostN a d := by
  rw [least_le h0, most_le h1]
  have e : n * (100 + d) * (100 - d) = n * (100 - d) * (100 + d) := by
    rw [Int.mul_assoc, Int.mul_assoc, Int.mul_comm (100 + d)]
  have g1 := Int.mul_le_mul_of_nonneg_right ha1 (show 0 ≤ 100 - d by omega)
  have g2 := Int.mul_le_mul_of_nonneg_right hb0 (show 0 ≤ 100 + d by omega)
  have g3 := Int.mul_le_mul_of_nonneg_right hb1 (show 0 ≤ 100 - d by omega)
  have g4 := Int.mul_le_mul_of_nonneg_right ha0 (show 0 ≤ 100 + d by omega)
  omega
theorem spread_holds {a b d : Int} (hl : leastN a d ≤ b) (hm : b ≤ mostN a d) : b - a ≤ spreadN a d ∧ a - b ≤ spreadN a d := by
  unfold spreadN; split <;> omega
end Go.Proofs.YtahnbljbhfpldaaGreatDoor

namespace Go.Proofs.YtahnbljbhfpldaaGreatDoor
open Go.ChangeShapes Go.WideShapes Go.ChangeAt Go.RowKit
set_option maxRecDepth 20000

set_option maxHeartbeats 800000 in
set_option maxRecDepth 20000 in
theorem right_ok (w : World) (a d : Int) :
    Calls Tryz.prog 48 #[.int .i64 a, .int .i64 d] w fun e w' => e = .returned (.bool (mayB a d)) ∧ w' = w := by
  by_cases h0 : 0 ≤ d
  · by_cases h1 : d ≤ 49
    · by_cases h2 : 0 ≤ a
      · by_cases h3 : a ≤ 1099511627776
        · have hm : mayB a d = true := mayB_of h0 h1 h2 h3
          rw [hm]
          go_enter Tryz.func48, Tryz.ntmps48
          go_wp2
          go_ret
          exact ⟨by first | rfl | simp, rfl⟩
        · have hm : mayB a d = false := by simp [mayB, h3]
          rw [hm]
          go_enter Tryz.func48, Tryz.ntmps48
          go_wp2
          go_ret
          exact ⟨by first | rfl | simp, rfl⟩
      · have hm : mayB a d = false := by simp [mayB, h2]
        rw [hm]
        go_enter Tryz.func48, Tryz.ntmps48
        go_wp2
        go_ret
        exact ⟨by first | rfl | simp, rfl⟩
    · have hm : mayB a d = false := by simp [mayB, h1]
      rw [hm]
      go_enter Tryz.func48, Tryz.ntmps48
      go_wp2
      go_ret
      exact ⟨by first | rfl | simp, rfl⟩
  · have hm : mayB a d = false := by simp [mayB, h0]
    rw [hm]
    go_enter Tryz.func48, Tryz.ntmps48
    go_wp2
    go_ret
    exact ⟨by first | rfl | simp, rfl⟩

theorem fast_ok (w : World) (d : Int) (h0 : 0 ≤ d) (h1 : d ≤ 49) :
    Calls Tryz.prog 75 #[.int .i64 d] w fun e w' => e = .returned (.int .i64 (100 + d)) ∧ w' = w := by
  have e1 : IntKind.i64.wrap (100 + d) = 100 + d := by rw [IntKind.wrap_i64]; omega
  go_enter Tryz.func75, Tryz.ntmps75
  go_wp2
  go_ret
  exact ⟨by first | rfl | rw [e1], rfl⟩
theorem slow_ok (w : World) (d : Int) (h0 : 0 ≤ d) (h1 : d ≤ 49) :
    Calls Tryz.prog 76 #[.int .i64 d] w fun e w' => e = .returned (.int .i64 (100 - d)) ∧ w' = w := by
  have e1 : IntKind.i64.wrap (100 - d) = 100 - d := by rw [IntKind.wrap_i64]; omega
  go_enter Tryz.func76, Tryz.ntmps76
  go_wp2
  go_ret
  exact ⟨by first | rfl | rw [e1], rfl⟩

theorem quo_bound {x y : Int} (hx : 0 ≤ x) (hy : 0 < y) : 0 ≤ x / y ∧ x / y ≤ x := ⟨Int.ediv_nonneg hx (by omega), Int.ediv_le_self _ hx⟩

set_option maxHeartbeats 800000 in
set_option maxRecDepth 20000 in
theorem quodown_ok (w : World) (x y : Int) (hx : 0 ≤ x) (hx1 : x ≤ 163827232538624) (hy : 0 < y) (hy1 : y ≤ 149) :
    Calls Tryz.prog 74 #[.int .i64 x, .int .i64 y, .int .i64 0] w fun e w' => e = .returned (.int .i64 (x / y)) ∧ w' = w := by
  obtain ⟨q, hq⟩ : ∃ q, q = x / y := ⟨_, rfl⟩
  have hb := quo_bound hx hy
  have e1 : x.tdiv y = q := by rw [hq]; exact Int.tdiv_eq_ediv_of_nonneg hx
  rw [← hq] at hb ⊢
  have y0 : (y == 0) = false := by simp; omega
  have y1 : ¬ y = 0 := by omega
  have e2 : IntKind.i64.wrap q = q := by rw [IntKind.wrap_i64]; omega
  clear hq
  go_enter Tryz.func74, Tryz.ntmps74
  go_wp2
  go_ret
  exact ⟨by first | rfl | rw [e1], rfl⟩

set_option maxHeartbeats 800000 in
set_option maxRecDepth 20000 in
theorem quoup_ok (w : World) (x y : Int) (hx : 0 ≤ x) (hx1 : x ≤ 163827232538624) (hy : 0 < y) (hy1 : y ≤ 149) :
    Calls Tryz.prog 74 #[.int .i64 x, .int .i64 y, .int .i64 1] w fun e w' => e = .returned (.int .i64 (r8upN x y)) ∧ w' = w := by
  obtain ⟨q, hq⟩ : ∃ q, q = x / y := ⟨_, rfl⟩
  obtain ⟨r, hr⟩ : ∃ r, r = x % y := ⟨_, rfl⟩
  have hb := quo_bound hx hy
  have e1 : x.tdiv y = q := by rw [hq]; exact Int.tdiv_eq_ediv_of_nonneg hx
  have e3 : x.tmod y = r := by rw [hr]; exact Int.tmod_eq_emod_of_nonneg hx
  have hu : r8upN x y = if r = 0 then q else q + 1 := by rw [hq, hr]; rfl
  rw [← hq] at hb
  rw [hu]
  have y0 : (y == 0) = false := by simp; omega
  have y1 : ¬ y = 0 := by omega
  have e2 : IntKind.i64.wrap q = q := by rw [IntKind.wrap_i64]; omega
  have e4 : IntKind.i64.wrap (q + 1) = q + 1 := by rw [IntKind.wrap_i64]; omega
  have hr1 : 0 ≤ r ∧ r < 149 := by
    have := Int.emod_nonneg x (show y ≠ 0 by omega)
    have := Int.emod_lt_of_pos x hy
    omega
  have e5 : IntKind.i64.wrap r = r := by rw [IntKind.wrap_i64]; omega
  clear hq hr hu
  by_cases h : r = 0
  · subst h
    rw [if_pos rfl]
    go_enter Tryz.func74, Tryz.ntmps74
    go_wp2
    go_ret
    exact ⟨rfl, rfl⟩
  · rw [if_neg h]
    go_enter Tryz.func74, Tryz.ntmps74
    go_wp2
    go_ret
    exact ⟨rfl, rfl⟩
end Go.Proofs.YtahnbljbhfpldaaGreatDoor

namespace Go.Proofs.YtahnbljbhfpldaaGreatDoor
open Go.ChangeShapes Go.WideShapes Go.ChangeAt Go.RowKit
set_option maxRecDepth 20000

set_option maxHeartbeats 800000 in
set_option maxRecDepth 20000 in
theorem inmost_ok (w : World) (a d : Int) (h0 : 0 ≤ d) (h1 : d ≤ 49) (h2 : 0 ≤ a) (h3 : a ≤ 1099511627776) :
    Calls Tryz.prog 49 #[.int .i64 a, .int .i64 d] w fun e w' => e = .returned (.int .i64 (mostN a d)) ∧ w' = w := by
  have hb := prod_bound (c := 100 + d) h2 h3 (by omega) (by omega)
  obtain ⟨c, hc⟩ : ∃ c, c = a * (100 + d) := ⟨_, rfl⟩
  obtain ⟨f, hf⟩ : ∃ f, f = 100 + d := ⟨_, rfl⟩
  obtain ⟨s, hs⟩ : ∃ s, s = 100 - d := ⟨_, rfl⟩
  have k1 := fast_ok w d h0 h1
  have k2 := slow_ok w d h0 h1
  have k3 := quodown_ok w c s (by omega) (by omega) (by omega) (by omega)
  have e0 : mostN a d = c / s := by rw [hc, hs]; rfl
  rw [← hc] at hb
  have e1 : a * f = c := by rw [hc, hf]
  have e2 : IntKind.i64.wrap (a * f) = c := by rw [e1, IntKind.wrap_i64]; omega
  rw [← hf] at k1
  rw [← hs] at k2
  rw [e0]
  obtain ⟨q, hq⟩ : ∃ q, q = c / s := ⟨_, rfl⟩
  rw [← hq] at k3 ⊢
  clear e0 hc hf hs hq e1
  go_enter Tryz.func49, Tryz.ntmps49
  go_wp2_with fail
  refine k1.mono ?_
  rintro e w1 ⟨rfl, rfl⟩
  clear k1
  go_wp2_with fail
  refine k2.mono ?_
  rintro e w2 ⟨rfl, rfl⟩
  clear k2
  go_wp2_with fail
  refine k3.mono ?_
  rintro e w2 ⟨rfl, rfl⟩
  clear k3
  go_wp2
  go_ret
  exact ⟨rfl, rfl⟩

/-- What a call answers: the number and 0, or 0 and 1. -/
def ansN (a d n : Int) : Value := if mayB a d = true then .tuple #[.int .i64 n, .int .i64 0] else .tuple #[.int .i64 0, .int .i64 1]

/-- What Beats answers. -/
def beatsV (a d : Int) : Value := if mayB a d = true then .tuple #[.int .i64 (r8upN a (100 + d)), .int .i64 (a / (100 - d)), .int .i64 0] else .tuple #[.int .i64 0, .int .i64 0, .int .i64 1]

end Go.Proofs.YtahnbljbhfpldaaGreatDoor

namespace Go.Proofs.YtahnbljbhfpldaaGreatDoor
open Go.ChangeShapes Go.WideShapes Go.ChangeAt Go.RowKit
set_option maxRecDepth 20000

set_option maxHeartbeats 800000 in
set_option maxRecDepth 20000 in
theorem may_ok (w : World) (a d : Int) :
    Calls Tryz.prog 72 #[.int .i64 a, .int .i64 d] w fun e w' => e = .returned (.bool (mayB a d)) ∧ w' = w := by
  by_cases h0 : 0 ≤ d
  · by_cases h1 : d ≤ 49
    · by_cases h2 : 0 ≤ a
      · by_cases h3 : a ≤ 1099511627776
        · have hm : mayB a d = true := mayB_of h0 h1 h2 h3
          rw [hm]
          go_enter Tryz.func72, Tryz.ntmps72
          go_wp2
          go_ret
          exact ⟨by first | rfl | simp, rfl⟩
        · have hm : mayB a d = false := by simp [mayB, h3]
          rw [hm]
          go_enter Tryz.func72, Tryz.ntmps72
          go_wp2
          go_ret
          exact ⟨by first | rfl | simp, rfl⟩
      · have hm : mayB a d = false := by simp [mayB, h2]
        rw [hm]
        go_enter Tryz.func72, Tryz.ntmps72
        go_wp2
        go_ret
        exact ⟨by first | rfl | simp, rfl⟩
    · have hm : mayB a d = false := by simp [mayB, h1]
      rw [hm]
      go_enter Tryz.func72, Tryz.ntmps72
      go_wp2
      go_ret
      exact ⟨by first | rfl | simp, rfl⟩
  · have hm : mayB a d = false := by simp [mayB, h0]
    rw [hm]
    go_enter Tryz.func72, Tryz.ntmps72
    go_wp2
    go_ret
    exact ⟨by first | rfl | simp, rfl⟩


set_option maxHeartbeats 800000 in
set_option maxRecDepth 20000 in
theorem refmost_ok (w : World) (a d : Int) :
    Calls Tryz.prog 45 #[.int .i64 a, .int .i64 d] w fun e w' => e = .returned (ansN a d (mostN a d)) ∧ w' = w := by
  have k1 := may_ok w a d
  by_cases hm : mayB a d = true
  · obtain ⟨h0, h1, h2, h3⟩ := mayB_true hm
    have hb := prod_bound (c := 100 + d) h2 h3 (by omega) (by omega)
    rw [show ansN a d (mostN a d) = .tuple #[.int .i64 (mostN a d), .int .i64 0] from if_pos hm]
    rw [hm] at k1
    obtain ⟨c, hc⟩ : ∃ c, c = a * (100 + d) := ⟨_, rfl⟩
    obtain ⟨f, hf⟩ : ∃ f, f = 100 + d := ⟨_, rfl⟩
    obtain ⟨s, hs⟩ : ∃ s, s = 100 - d := ⟨_, rfl⟩
    have e0 : mostN a d = c / s := by rw [hc, hs]; rfl
    rw [← hc] at hb
    have e1 : a * f = c := by rw [hc, hf]
    have e2 : IntKind.i64.wrap (a * f) = c := by rw [e1, IntKind.wrap_i64]; omega
    have e3 : IntKind.i64.wrap (100 + d) = f := by rw [IntKind.wrap_i64]; omega
    have e4 : IntKind.i64.wrap (100 - d) = s := by rw [IntKind.wrap_i64]; omega
    have hqb := quo_bound hb.1 (show 0 < s by omega)
    obtain ⟨q, hq⟩ : ∃ q, q = c / s := ⟨_, rfl⟩
    have e5 : c.tdiv s = q := by rw [hq]; exact Int.tdiv_eq_ediv_of_nonneg hb.1
    rw [e0]
    rw [← hq] at hqb ⊢
    have e6 : IntKind.i64.wrap q = q := by rw [IntKind.wrap_i64]; omega
    have y0 : (s == 0) = false := by simp; omega
    have y1 : ¬ s = 0 := by omega
    have E3 : Hid (100 + d = f) := hf.symm
    have E4 : Hid (100 - d = s) := hs.symm
    clear e0 hc hf hs hq e1 hm h0 h1 h2 h3 hb hqb
    go_enter Tryz.func45, Tryz.ntmps45
    go_wp2_with fail
    refine k1.mono ?_
    rintro e w1 ⟨rfl, rfl⟩
    clear k1
    go_wp2
    go_ret2
    exact ⟨rfl, rfl⟩
  · rw [show ansN a d (mostN a d) = .tuple #[.int .i64 0, .int .i64 1] from if_neg hm]
    rw [Bool.eq_false_iff.2 hm] at k1
    clear hm
    go_enter Tryz.func45, Tryz.ntmps45
    go_wp2_with fail
    refine k1.mono ?_
    rintro e w1 ⟨rfl, rfl⟩
    clear k1
    go_wp2
    go_ret2
    exact ⟨rfl, rfl⟩

end Go.Proofs.YtahnbljbhfpldaaGreatDoor
