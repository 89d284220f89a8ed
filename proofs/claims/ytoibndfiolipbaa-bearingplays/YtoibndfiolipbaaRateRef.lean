/-
  The contracts of the document's side: may, up, Most, Least, Spread; Beats.
-/
import Derived.Test.YtoibndfiolipbaaRateCalls
import Derived.Test.YtoibndfiolipbaaDraws
namespace Go.Proofs.Ytoibndfiolipbaa
open Go.ChangeShapes Go.WideShapes Go.ChangeAt Go.RowKit

set_option maxHeartbeats 800000 in
set_option maxRecDepth 20000 in
theorem may_ok (w : World) (a d : Int) :
    Calls Try.prog 67 #[.int .i64 a, .int .i64 d] w fun e w' => e = .returned (.bool (mayB a d)) ∧ w' = w := by
  by_cases h0 : 0 ≤ d
  · by_cases h1 : d ≤ 49
    · by_cases h2 : 0 ≤ a
      · by_cases h3 : a ≤ 1099511627776
        · have hm : mayB a d = true := mayB_of h0 h1 h2 h3
          rw [hm]
          go_enter Try.func67, Try.ntmps67
          go_wp2
          go_ret
          exact ⟨by first | rfl | simp, rfl⟩
        · have hm : mayB a d = false := by simp [mayB, h3]
          rw [hm]
          go_enter Try.func67, Try.ntmps67
          go_wp2
          go_ret
          exact ⟨by first | rfl | simp, rfl⟩
      · have hm : mayB a d = false := by simp [mayB, h2]
        rw [hm]
        go_enter Try.func67, Try.ntmps67
        go_wp2
        go_ret
        exact ⟨by first | rfl | simp, rfl⟩
    · have hm : mayB a d = false := by simp [mayB, h1]
      rw [hm]
      go_enter Try.func67, Try.ntmps67
      go_wp2
      go_ret
      exact ⟨by first | rfl | simp, rfl⟩
  · have hm : mayB a d = false := by simp [mayB, h0]
    rw [hm]
    go_enter Try.func67, Try.ntmps67
    go_wp2
    go_ret
    exact ⟨by first | rfl | simp, rfl⟩


set_option maxHeartbeats 800000 in
set_option maxRecDepth 20000 in
theorem refup_ok (w : World) (x y : Int) (hx : 0 ≤ x) (hx1 : x ≤ 163827232538624) (hy : 0 < y) (hy1 : y ≤ 149) :
    Calls Try.prog 68 #[.int .i64 x, .int .i64 y] w fun e w' => e = .returned (.int .i64 (upN x y)) ∧ w' = w := by
  obtain ⟨q, hq⟩ : ∃ q, q = x / y := ⟨_, rfl⟩
  obtain ⟨p, hp⟩ : ∃ p, p = q * y := ⟨_, rfl⟩
  have hb := quo_bound hx hy
  have e1 : x.tdiv y = q := by rw [hq]; exact Int.tdiv_eq_ediv_of_nonneg hx
  have hdm := Int.mul_ediv_add_emod x y
  rw [← hq, Int.mul_comm, ← hp] at hdm
  have hr0 := Int.emod_nonneg x (show y ≠ 0 by omega)
  have hr1 := Int.emod_lt_of_pos x hy
  have hu : upN x y = if p < x then q + 1 else q := by
    unfold upN
    rw [← hq]
    by_cases h : x % y = 0
    · rw [if_pos h, if_neg (by omega)]
    · rw [if_neg h, if_pos (by omega)]
  rw [← hq] at hb
  rw [hu]
  have y0 : (y == 0) = false := by simp; omega
  have y1 : ¬ y = 0 := by omega
  have e2 : IntKind.i64.wrap q = q := by rw [IntKind.wrap_i64]; omega
  have e4 : IntKind.i64.wrap (q + 1) = q + 1 := by rw [IntKind.wrap_i64]; omega
  have e6 : IntKind.i64.wrap (q * y) = p := by rw [← hp, IntKind.wrap_i64]; omega
  clear hq hu hp hdm hr0 hr1
  by_cases h : p < x
  · rw [if_pos h]
    go_enter Try.func68, Try.ntmps68
    go_wp2
    go_ret
    exact ⟨rfl, rfl⟩
  · rw [if_neg h]
    go_enter Try.func68, Try.ntmps68
    go_wp2
    go_ret
    exact ⟨rfl, rfl⟩

set_option maxHeartbeats 800000 in
set_option maxRecDepth 20000 in
theorem refmost_ok (w : World) (a d : Int) :
    Calls Try.prog 62 #[.int .i64 a, .int .i64 d] w fun e w' => e = .returned (ansN a d (mostN a d)) ∧ w' = w := by
  have k1 := may_ok w a d
  by_cases hm : mayB a d = true
  · obtain ⟨h0, h1, h2, h3⟩ := mayB_true hm
    have hb := prod_bound (c := 100 + d) h2 h3 (by omega) (by omega)
    rw [show ansN a d (mostN a d) = .tuple #[.int .i64 (mostN a d), .int .i64 0] from if_pos hm]
    rw [hm] at k1
    obtain ⟨c, hc⟩ : ∃ c, c = a * (100 + d) := ⟨_, rfl⟩
    obtain ⟨f, hf⟩ : ∃ f, f = 100 + d := ⟨_, rfl⟩
    obtain ⟨s, hs⟩ : ∃ s, s = 100 - d := ⟨_, rfl⟩
    have e0 : mostN a d = c / s := by rw [hc, hs]; rfl
    rw [← hc] at hb
    have e1 : a * f = c := by rw [hc, hf]
    have e2 : IntKind.i64.wrap (a * f) = c := by rw [e1, IntKind.wrap_i64]; omega
    have e3 : IntKind.i64.wrap (100 + d) = f := by rw [IntKind.wrap_i64]; omega
    have e4 : IntKind.i64.wrap (100 - d) = s := by rw [IntKind.wrap_i64]; omega
    have hqb := quo_bound hb.1 (show 0 < s by omega)
    obtain ⟨q, hq⟩ : ∃ q, q = c / s := ⟨_, rfl⟩
    have e5 : c.tdiv s = q := by rw [hq]; exact Int.tdiv_eq_ediv_of_nonneg hb.1
    rw [e0]
    rw [← hq] at hqb ⊢
    have e6 : IntKind.i64.wrap q = q := by rw [IntKind.wrap_i64]; omega
    have y0 : (s == 0) = false := by simp; omega
    have y1 : ¬ s = 0 := by omega
    have E3 : Hid (100 + d = f) := hf.symm
    have E4 : Hid (100 - d = s) := hs.symm
    clear e0 hc hf hs hq e1 hm h0 h1 h2 h3 hb hqb
    go_enter Try.func62, Try.ntmps62
    go_wp2_with fail
    refine k1.mono ?_
    rintro e w1 ⟨rfl, rfl⟩
    clear k1
    go_wp2
    go_ret2
    exact ⟨rfl, rfl⟩
  · rw [show ansN a d (mostN a d) = .tuple #[.int .i64 0, .int .i64 1] from if_neg hm]
    rw [Bool.eq_false_iff.2 hm] at k1
    clear hm
    go_enter Try.func62, Try.ntmps62
    go_wp2_with fail
    refine k1.mono ?_
    rintro e w1 ⟨rfl, rfl⟩
    clear k1
    go_wp2
    go_ret2
    exact ⟨rfl, rfl⟩

set_option maxHeartbeats 800000 in
set_option maxRecDepth 20000 in
theorem refleast_ok (w : World) (a d : Int) :
    Calls Try.prog 63 #[.int .i64 a, .int .i64 d] w fun e w' => e = .returned (ansN a d (leastN a d)) ∧ w' = w := by
  have k1 := may_ok w a d
  by_cases hm : mayB a d = true
  · obtain ⟨h0, h1, h2, h3⟩ := mayB_true hm
    have hb := prod_bound (c := 100 - d) h2 h3 (by omega) (by omega)
    rw [show ansN a d (leastN a d) = .tuple #[.int .i64 (leastN a d), .int .i64 0] from if_pos hm]
    rw [hm] at k1
    obtain ⟨c, hc⟩ : ∃ c, c = a * (100 - d) := ⟨_, rfl⟩
    obtain ⟨f, hf⟩ : ∃ f, f = 100 + d := ⟨_, rfl⟩
    obtain ⟨s, hs⟩ : ∃ s, s = 100 - d := ⟨_, rfl⟩
    have e0 : leastN a d = upN c f := by rw [hc, hf]; rfl
    rw [← hc] at hb
    have e1 : a * s = c := by rw [hc, hs]
    have e2 : IntKind.i64.wrap (a * s) = c := by rw [e1, IntKind.wrap_i64]; omega
    have e3 : IntKind.i64.wrap (100 + d) = f := by rw [IntKind.wrap_i64]; omega
    have e4 : IntKind.i64.wrap (100 - d) = s := by rw [IntKind.wrap_i64]; omega
    have k3 := refup_ok w c f (by omega) (by omega) (by omega) (by omega)
    obtain ⟨q, hq⟩ : ∃ q, q = upN c f := ⟨_, rfl⟩
    rw [e0]
    rw [← hq] at k3 ⊢
    clear e0 hc hf hs hq e1 hm h0 h1 h2 h3 hb
    go_enter Try.func63, Try.ntmps63
    go_wp2_with fail
    refine k1.mono ?_
    rintro e w1 ⟨rfl, rfl⟩
    clear k1
    go_wp2_with fail
    refine k3.mono ?_
    rintro e w1 ⟨rfl, rfl⟩
    clear k3
    go_wp2
    go_ret2
    exact ⟨rfl, rfl⟩
  · rw [show ansN a d (leastN a d) = .tuple #[.int .i64 0, .int .i64 1] from if_neg hm]
    rw [Bool.eq_false_iff.2 hm] at k1
    clear hm
    go_enter Try.func63, Try.ntmps63
    go_wp2_with fail
    refine k1.mono ?_
    rintro e w1 ⟨rfl, rfl⟩
    clear k1
    go_wp2
    go_ret2
    exact ⟨rfl, rfl⟩

set_option maxHeartbeats 1600000 in
set_option maxRecDepth 20000 in
theorem refspread_ok (w : World) (a d : Int) :
    Calls Try.prog 55 #[.int .i64 a, .int .i64 d] w fun e w' => e = .returned (ansN a d (spreadN a d)) ∧ w' = w := by
  have k2 := refmost_ok w a d
  have k3 := refleast_ok w a d
  by_cases hm : mayB a d = true
  · obtain ⟨h0, h1, h2, h3⟩ := mayB_true hm
    have g1 := le_most h0 h1 h2
    have g2 := most_le3 h0 h1 h2
    have g3 := least_le_self (a := a) h0 h2
    have g4 := least_nonneg h0 h1 h2
    rw [show ansN a d (spreadN a d) = .tuple #[.int .i64 (spreadN a d), .int .i64 0] from if_pos hm]
    rw [show ansN a d (mostN a d) = .tuple #[.int .i64 (mostN a d), .int .i64 0] from if_pos hm] at k2
    rw [show ansN a d (leastN a d) = .tuple #[.int .i64 (leastN a d), .int .i64 0] from if_pos hm] at k3
    obtain ⟨m, hm'⟩ : ∃ q, q = mostN a d := ⟨_, rfl⟩
    obtain ⟨l, hl⟩ : ∃ q, q = leastN a d := ⟨_, rfl⟩
    have hs : spreadN a d = if m - a < a - l then a - l else m - a := by rw [hm', hl]; rfl
    rw [hs]
    rw [← hm'] at k2 g1 g2
    rw [← hl] at k3 g3 g4
    clear hm hs hm' hl
    have e1 : IntKind.i64.wrap (m - a) = m - a := by rw [IntKind.wrap_i64]; omega
    have e2 : IntKind.i64.wrap (a - l) = a - l := by rw [IntKind.wrap_i64]; omega
    obtain ⟨x, hx⟩ : ∃ x, x = m - a := ⟨_, rfl⟩
    obtain ⟨y, hy⟩ : ∃ y, y = a - l := ⟨_, rfl⟩
    rw [← hx] at e1 ⊢
    rw [← hy] at e2 ⊢
    have HX : Hid (m - a = x) := hx.symm
    have HY : Hid (a - l = y) := hy.symm
    have e3 : IntKind.i64.wrap (m - a) = x := by rw [HX.out]; exact e1
    have e4 : IntKind.i64.wrap (a - l) = y := by rw [HY.out]; exact e2
    clear hx hy g1 g2 g3 g4 e1 e2 h0 h1 h2 h3
    by_cases hc : x < y
    · rw [if_pos hc]
      go_enter Try.func55, Try.ntmps55
      go_wp2_with fail
      refine k2.mono ?_
      rintro e w1 ⟨rfl, rfl⟩
      clear k2
      go_wp2_with fail
      refine k3.mono ?_
      rintro e w1 ⟨rfl, rfl⟩
      clear k3
      go_wp2
      go_ret2
      exact ⟨by first | rfl | simp [hc], rfl⟩
    · rw [if_neg hc]
      go_enter Try.func55, Try.ntmps55
      go_wp2_with fail
      refine k2.mono ?_
      rintro e w1 ⟨rfl, rfl⟩
      clear k2
      go_wp2_with fail
      refine k3.mono ?_
      rintro e w1 ⟨rfl, rfl⟩
      clear k3
      go_wp2
      go_ret2
      exact ⟨by first | rfl | simp [hc], rfl⟩
  · rw [show ansN a d (spreadN a d) = .tuple #[.int .i64 0, .int .i64 1] from if_neg hm]
    rw [show ansN a d (mostN a d) = .tuple #[.int .i64 0, .int .i64 1] from if_neg hm] at k2
    rw [show ansN a d (leastN a d) = .tuple #[.int .i64 0, .int .i64 1] from if_neg hm] at k3
    clear hm
    go_enter Try.func55, Try.ntmps55
    go_wp2_with fail
    refine k2.mono ?_
    rintro e w1 ⟨rfl, rfl⟩
    clear k2
    go_wp2_with fail
    refine k3.mono ?_
    rintro e w1 ⟨rfl, rfl⟩
    clear k3
    go_wp2
    go_ret2
    exact ⟨rfl, rfl⟩
end Go.Proofs.Ytoibndfiolipbaa
