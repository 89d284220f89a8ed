/-
  The contract of the document's Beats.
-/
import Derived.Test.YtoeoeajmnebpgaaRateRef
namespace Go.Proofs.Ytoeoeajmnebpgaa
open Go.ChangeShapes Go.WideShapes Go.ChangeAt Go.RowKit

set_option maxHeartbeats 1600000 in
set_option maxRecDepth 20000 in
theorem refbeats_ok (w : World) (a d : Int) :
    Calls Try.prog 14 #[.int .i64 a, .int .i64 d] w fun e w' => e = .returned (beatsV a d) ∧ Below w.heap.size w w' := by
  have k1 := may_ok w a d
  by_cases hm : mayB a d = true
  · obtain ⟨h0, h1, h2, h3⟩ := mayB_true hm
    have HU : Hid (∀ W, Calls Try.prog 20 #[.int .i64 a, .int .i64 (100 + d)] W fun e w' => e = .returned (.int .i64 (upN a (100 + d))) ∧ w' = W) := fun W => refup_ok W a (100 + d) h2 (by omega) (by omega) (by omega)
    rw [show beatsV a d = .tuple #[.int .i64 (upN a (100 + d)), .int .i64 (a / (100 - d)), .int .i64 0] from if_pos hm]
    rw [hm] at k1
    have hqb := quo_bound h2 (show 0 < 100 - d by omega)
    obtain ⟨x, hx⟩ : ∃ x, x = upN a (100 + d) := ⟨_, rfl⟩
    obtain ⟨y, hy⟩ : ∃ y, y = a / (100 - d) := ⟨_, rfl⟩
    rw [← hx] at HU ⊢
    rw [← hy] at hqb ⊢
    obtain ⟨f, hf⟩ : ∃ f, f = 100 + d := ⟨_, rfl⟩
    obtain ⟨s, hs⟩ : ∃ s, s = 100 - d := ⟨_, rfl⟩
    rw [← hf] at HU
    rw [← hs] at hy
    have e3 : IntKind.i64.wrap (100 + d) = f := by rw [IntKind.wrap_i64]; omega
    have e4 : IntKind.i64.wrap (100 - d) = s := by rw [IntKind.wrap_i64]; omega
    have e5 : a.tdiv s = y := by rw [hy]; exact Int.tdiv_eq_ediv_of_nonneg h2
    have e6 : IntKind.i64.wrap y = y := by rw [IntKind.wrap_i64]; omega
    have y0 : (s == 0) = false := by simp; omega
    have y1 : ¬ s = 0 := by omega
    clear hx hy hm hf hs h0 h1 h2 h3 hqb
    go_enter Try.func14, Try.ntmps14
    go_wp2_with fail
    refine k1.mono ?_
    rintro e w1 ⟨rfl, rfl⟩
    clear k1
    go_wp2
    go_region_held3 (fun _ => True)
      (exact trivial)
      (first | (go_at_call 20; refine (HU.out _).mono ?_; rintro e w9 ⟨rfl, rfl⟩))
    go_wp2
    go_ret3
    exact ⟨rfl, (Below.refl _ _).drew⟩
  · rw [show beatsV a d = .tuple #[.int .i64 0, .int .i64 0, .int .i64 1] from if_neg hm]
    rw [Bool.eq_false_iff.2 hm] at k1
    clear hm
    go_enter Try.func14, Try.ntmps14
    go_wp2_with fail
    refine k1.mono ?_
    rintro e w1 ⟨rfl, rfl⟩
    clear k1
    go_wp2
    go_ret3
    exact ⟨rfl, Below.refl _ _⟩
end Go.Proofs.Ytoeoeajmnebpgaa
