/-
  The contract of rate.Most.
-/
import Derived.Test.YtahnbljbhfpldaaGreatDoorRateA
namespace Go.Proofs.YtahnbljbhfpldaaGreatDoor
open Go.ChangeShapes Go.WideShapes Go.ChangeAt Go.RowKit
set_option maxHeartbeats 800000 in
theorem most_ok (w : World) (a d : Int) :
    Calls Tryz.prog 26 #[.int .i64 a, .int .i64 d] w fun e w' => e = .returned (ansN a d (mostN a d)) ∧ w' = w := by
  have k1 := right_ok w a d
  by_cases hm : mayB a d = true
  · obtain ⟨h0, h1, h2, h3⟩ := mayB_true hm
    have k2 := inmost_ok w a d h0 h1 h2 h3
    rw [show ansN a d (mostN a d) = .tuple #[.int .i64 (mostN a d), .int .i64 0] from if_pos hm]
    rw [hm] at k1
    obtain ⟨q, hq⟩ : ∃ q, q = mostN a d := ⟨_, rfl⟩
    rw [← hq] at k2 ⊢
    clear hq hm
    go_enter Tryz.func26, Tryz.ntmps26
    go_wp2_with fail
    refine k1.mono ?_
    rintro e w1 ⟨rfl, rfl⟩
    clear k1
    go_wp2_with fail
    refine k2.mono ?_
    rintro e w1 ⟨rfl, rfl⟩
    clear k2
    go_wp2
    go_ret2
    exact ⟨rfl, rfl⟩
  · rw [show ansN a d (mostN a d) = .tuple #[.int .i64 0, .int .i64 1] from if_neg hm]
    rw [Bool.eq_false_iff.2 hm] at k1
    clear hm
    go_enter Tryz.func26, Tryz.ntmps26
    go_wp2_with fail
    refine k1.mono ?_
    rintro e w1 ⟨rfl, rfl⟩
    clear k1
    go_wp2
    go_ret2
    exact ⟨rfl, rfl⟩
end Go.Proofs.YtahnbljbhfpldaaGreatDoor
