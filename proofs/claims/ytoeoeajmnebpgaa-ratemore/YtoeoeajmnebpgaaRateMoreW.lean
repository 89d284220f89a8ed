/-
  The walk of RateMore, out of the contracts.
-/
import Derived.Test.YtoeoeajmnebpgaaRateCalls
namespace Go.Proofs.Ytoeoeajmnebpgaa
open Go.ChangeShapes Go.WideShapes Go.ChangeAt Go.RowKit

set_option maxHeartbeats 3200000 in
set_option maxRecDepth 20000 in
/-- Where it is known which is the lesser. -/
theorem more_some (w : World) (a b c d lo hi m k : Int) (h1 : 0 ≤ lo ∧ lo ≤ hi ∧ hi ≤ 4294967295) (h2 : 0 ≤ m ∧ m ≤ 255) (ga : 0 ≤ a ∧ a ≤ 4294967295)
    (e1 : (if b < a then b else a) = lo) (e2 : (if a < b then b else a) = hi) (e3 : (if d < c then d else c) = m) (hk : k = m % 50) :
    Calls Try.prog 6 #[.int .u32 a, .int .u32 b, .int .u8 c, .int .u8 d] w fun e w' => e = .returned (.bool true) ∧ Below w.heap.size w w' := by
  have H9 : Hid (∀ W, Calls Try.prog 15 #[] W fun e w' => e = .returned (.bool true) ∧ w' = W) := awake_ok
  have h3 : 0 ≤ k ∧ k ≤ 49 := by omega
  have k1 := spread_ok w lo k
  have k2 := spread_ok w hi k
  have k3 := spread_ok w a 0
  rw [show ansN lo k (spreadN lo k) = .tuple #[.int .i64 (spreadN lo k), .int .i64 0] from if_pos (mayB_of h3.1 h3.2 (by omega) (by omega))] at k1
  rw [show ansN hi k (spreadN hi k) = .tuple #[.int .i64 (spreadN hi k), .int .i64 0] from if_pos (mayB_of h3.1 h3.2 (by omega) (by omega))] at k2
  rw [show ansN a 0 (spreadN a 0) = .tuple #[.int .i64 (spreadN a 0), .int .i64 0] from if_pos (mayB_of (by omega) (by omega) (by omega) (by omega))] at k3
  rw [spread_zero ga.1] at k3
  have g1 := spread_mono h3.1 h3.2 h1.1 h1.2.1
  have g2 := spread_nonneg h3.1 h3.2 h1.1
  obtain ⟨x, hx⟩ : ∃ x, x = spreadN lo k := ⟨_, rfl⟩
  obtain ⟨y, hy⟩ : ∃ x, x = spreadN hi k := ⟨_, rfl⟩
  rw [← hx] at k1 g1 g2
  rw [← hy] at k2 g1
  have e4 : m.tmod 50 = k := by rw [hk]; exact Int.tmod_eq_emod_of_nonneg h2.1
  have w1 : IntKind.i64.wrap lo = lo := by rw [IntKind.wrap_i64]; omega
  have w2 : IntKind.i64.wrap hi = hi := by rw [IntKind.wrap_i64]; omega
  have w3 : IntKind.i64.wrap k = k := by rw [IntKind.wrap_i64]; omega
  have w4 : IntKind.u8.wrap k = k := by rw [IntKind.wrap_u8]; omega
  have w5 : IntKind.i64.wrap a = a := by rw [IntKind.wrap_i64]; omega
  have E1 : m % 50 = k := hk.symm
  clear hx hy hk h1 h2 h3 ga
  go_enter Try.func6, Try.ntmps6
  go_wp2_with fail
  refine k1.mono ?_
  rintro e w1 ⟨rfl, rfl⟩
  clear k1
  go_wp2_with fail
  refine k2.mono ?_
  rintro e w1 ⟨rfl, rfl⟩
  clear k2
  go_wp2_with fail
  refine k3.mono ?_
  rintro e w1 ⟨rfl, rfl⟩
  clear k3
  go_wp2_with fail
  refine (H9.out _).mono ?_
  rintro e w3 ⟨rfl, rfl⟩
  go_wp2
  go_ret
  exact ⟨rfl, Below.refl _ _⟩

theorem more_walk (a b c d : Int) (w : World) (ha : (Lit.int .u32 a).wf = true) (hb : (Lit.int .u32 b).wf = true) (hc : (Lit.int .u8 c).wf = true) (hd : (Lit.int .u8 d).wf = true) :
    Calls Try.prog 6 #[.int .u32 a, .int .u32 b, .int .u8 c, .int .u8 d] w fun e w' => e = .returned (.bool true) ∧ Below w.heap.size w w' := by
  have ga := bounds_u32 ha
  have gb := bounds_u32 hb
  have gc := bounds_u8 hc
  have gd := bounds_u8 hd
  refine more_some w a b c d _ _ _ _ ?_ ?_ (by omega) rfl rfl rfl rfl
  · split <;> split <;> omega
  · split <;> omega
end Go.Proofs.Ytoeoeajmnebpgaa
