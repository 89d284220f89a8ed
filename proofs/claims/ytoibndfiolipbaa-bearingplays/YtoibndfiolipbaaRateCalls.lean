/-
  The contracts of Most, Least, Spread, Beats, and of awake.
-/
import Derived.Test.YtoibndfiolipbaaRateParts
namespace Go.Proofs.Ytoibndfiolipbaa
open Go.ChangeShapes Go.WideShapes Go.ChangeAt Go.RowKit

set_option maxHeartbeats 800000 in
set_option maxRecDepth 20000 in
theorem inmost_ok (w : World) (a d : Int) (h0 : 0 ≤ d) (h1 : d ≤ 49) (h2 : 0 ≤ a) (h3 : a ≤ 1099511627776) :
    Calls Try.prog 60 #[.int .i64 a, .int .i64 d] w fun e w' => e = .returned (.int .i64 (mostN a d)) ∧ w' = w := by
  have hb := prod_bound (c := 100 + d) h2 h3 (by omega) (by omega)
  obtain ⟨c, hc⟩ : ∃ c, c = a * (100 + d) := ⟨_, rfl⟩
  obtain ⟨f, hf⟩ : ∃ f, f = 100 + d := ⟨_, rfl⟩
  obtain ⟨s, hs⟩ : ∃ s, s = 100 - d := ⟨_, rfl⟩
  have k1 := fast_ok w d h0 h1
  have k2 := slow_ok w d h0 h1
  have k3 := quodown_ok w c s (by omega) (by omega) (by omega) (by omega)
  have e0 : mostN a d = c / s := by rw [hc, hs]; rfl
  rw [← hc] at hb
  have e1 : a * f = c := by rw [hc, hf]
  have e2 : IntKind.i64.wrap (a * f) = c := by rw [e1, IntKind.wrap_i64]; omega
  rw [← hf] at k1
  rw [← hs] at k2
  rw [e0]
  obtain ⟨q, hq⟩ : ∃ q, q = c / s := ⟨_, rfl⟩
  rw [← hq] at k3 ⊢
  clear e0 hc hf hs hq e1
  go_enter Try.func60, Try.ntmps60
  go_wp2_with fail
  refine k1.mono ?_
  rintro e w1 ⟨rfl, rfl⟩
  clear k1
  go_wp2_with fail
  refine k2.mono ?_
  rintro e w2 ⟨rfl, rfl⟩
  clear k2
  go_wp2_with fail
  refine k3.mono ?_
  rintro e w2 ⟨rfl, rfl⟩
  clear k3
  go_wp2
  go_ret
  exact ⟨rfl, rfl⟩

set_option maxHeartbeats 800000 in
set_option maxRecDepth 20000 in
theorem inleast_ok (w : World) (a d : Int) (h0 : 0 ≤ d) (h1 : d ≤ 49) (h2 : 0 ≤ a) (h3 : a ≤ 1099511627776) :
    Calls Try.prog 61 #[.int .i64 a, .int .i64 d] w fun e w' => e = .returned (.int .i64 (leastN a d)) ∧ w' = w := by
  have hb := prod_bound (c := 100 - d) h2 h3 (by omega) (by omega)
  obtain ⟨c, hc⟩ : ∃ c, c = a * (100 - d) := ⟨_, rfl⟩
  obtain ⟨f, hf⟩ : ∃ f, f = 100 + d := ⟨_, rfl⟩
  obtain ⟨s, hs⟩ : ∃ s, s = 100 - d := ⟨_, rfl⟩
  have k1 := fast_ok w d h0 h1
  have k2 := slow_ok w d h0 h1
  have k3 := quoup_ok w c f (by omega) (by omega) (by omega) (by omega)
  have e0 : leastN a d = upN c f := by rw [hc, hf]; rfl
  rw [← hc] at hb
  have e1 : a * s = c := by rw [hc, hs]
  have e2 : IntKind.i64.wrap (a * s) = c := by rw [e1, IntKind.wrap_i64]; omega
  rw [← hf] at k1
  rw [← hs] at k2
  rw [e0]
  obtain ⟨q, hq⟩ : ∃ q, q = upN c f := ⟨_, rfl⟩
  rw [← hq] at k3 ⊢
  clear e0 hc hf hs hq e1
  go_enter Try.func61, Try.ntmps61
  go_wp2_with fail
  refine k2.mono ?_
  rintro e w1 ⟨rfl, rfl⟩
  clear k2
  go_wp2_with fail
  refine k1.mono ?_
  rintro e w2 ⟨rfl, rfl⟩
  clear k1
  go_wp2_with fail
  refine k3.mono ?_
  rintro e w2 ⟨rfl, rfl⟩
  clear k3
  go_wp2
  go_ret
  exact ⟨rfl, rfl⟩

/-- What a call answers: the number and 0, or 0 and 1. -/
def ansN (a d n : Int) : Value := if mayB a d = true then .tuple #[.int .i64 n, .int .i64 0] else .tuple #[.int .i64 0, .int .i64 1]

set_option maxHeartbeats 1600000 in
set_option maxRecDepth 20000 in
theorem spread_ok (w : World) (a d : Int) :
    Calls Try.prog 52 #[.int .i64 a, .int .i64 d] w fun e w' => e = .returned (ansN a d (spreadN a d)) ∧ w' = w := by
  have k1 := right_ok w a d
  by_cases hm : mayB a d = true
  · obtain ⟨h0, h1, h2, h3⟩ := mayB_true hm
    have k2 := inmost_ok w a d h0 h1 h2 h3
    have k3 := inleast_ok w a d h0 h1 h2 h3
    have g1 := le_most h0 h1 h2
    have g2 := most_le3 h0 h1 h2
    have g3 := least_le_self (a := a) h0 h2
    have g4 := least_nonneg h0 h1 h2
    rw [show ansN a d (spreadN a d) = .tuple #[.int .i64 (spreadN a d), .int .i64 0] from if_pos hm]
    rw [hm] at k1
    obtain ⟨m, hm'⟩ : ∃ q, q = mostN a d := ⟨_, rfl⟩
    obtain ⟨l, hl⟩ : ∃ q, q = leastN a d := ⟨_, rfl⟩
    have hs : spreadN a d = if m - a < a - l then a - l else m - a := by rw [hm', hl]; rfl
    rw [hs]
    rw [← hm'] at k2 g1 g2
    rw [← hl] at k3 g3 g4
    clear hm hs hm' hl
    have e1 : IntKind.i64.wrap (m - a) = m - a := by rw [IntKind.wrap_i64]; omega
    have e2 : IntKind.i64.wrap (a - l) = a - l := by rw [IntKind.wrap_i64]; omega
    obtain ⟨x, hx⟩ : ∃ x, x = m - a := ⟨_, rfl⟩
    obtain ⟨y, hy⟩ : ∃ y, y = a - l := ⟨_, rfl⟩
    rw [← hx] at e1 ⊢
    rw [← hy] at e2 ⊢
    have HX : Hid (m - a = x) := hx.symm
    have HY : Hid (a - l = y) := hy.symm
    have e3 : IntKind.i64.wrap (m - a) = x := by rw [HX.out]; exact e1
    have e4 : IntKind.i64.wrap (a - l) = y := by rw [HY.out]; exact e2
    have G : Hid (0 ≤ x ∧ 0 ≤ y) := ⟨by omega, by omega⟩
    clear hx hy g1 g2 g3 g4 e1 e2
    by_cases hc : x < y
    · rw [if_pos hc]
      go_enter Try.func52, Try.ntmps52
      go_wp2_with fail
      refine k1.mono ?_
      rintro e w1 ⟨rfl, rfl⟩
      clear k1
      go_wp2_with fail
      refine k2.mono ?_
      rintro e w1 ⟨rfl, rfl⟩
      clear k2
      go_wp2_with fail
      refine k3.mono ?_
      rintro e w1 ⟨rfl, rfl⟩
      clear k3
      go_wp2
      go_ret2
      exact ⟨by first | rfl | simp [hc], rfl⟩
    · rw [if_neg hc]
      go_enter Try.func52, Try.ntmps52
      go_wp2_with fail
      refine k1.mono ?_
      rintro e w1 ⟨rfl, rfl⟩
      clear k1
      go_wp2_with fail
      refine k2.mono ?_
      rintro e w1 ⟨rfl, rfl⟩
      clear k2
      go_wp2_with fail
      refine k3.mono ?_
      rintro e w1 ⟨rfl, rfl⟩
      clear k3
      go_wp2
      go_ret2
      exact ⟨by first | rfl | simp [hc], rfl⟩
  · rw [show ansN a d (spreadN a d) = .tuple #[.int .i64 0, .int .i64 1] from if_neg hm]
    rw [Bool.eq_false_iff.2 hm] at k1
    clear hm
    go_enter Try.func52, Try.ntmps52
    go_wp2_with fail
    refine k1.mono ?_
    rintro e w1 ⟨rfl, rfl⟩
    clear k1
    go_wp2
    go_ret2
    exact ⟨rfl, rfl⟩

/-- What Beats answers. -/
def beatsV (a d : Int) : Value := if mayB a d = true then .tuple #[.int .i64 (upN a (100 + d)), .int .i64 (a / (100 - d)), .int .i64 0] else .tuple #[.int .i64 0, .int .i64 0, .int .i64 1]

end Go.Proofs.Ytoibndfiolipbaa
