/-
  The walk of RateAll, out of the contracts.
-/
import Derived.Test.YtoeoeajmnebpgaaRateRefB
namespace Go.Proofs.Ytoeoeajmnebpgaa
open Go.ChangeShapes Go.WideShapes Go.ChangeAt Go.RowKit

set_option maxHeartbeats 3200000 in
set_option maxRecDepth 20000 in
theorem all_walk (w : World) (a d : Int) :
    Calls Try.prog 3 #[.int .i64 a, .int .i64 d] w fun e w' => e = .returned (.bool true) ∧ Below w.heap.size w w' := by
  have k1 := most_ok w a d
  have k2 := refmost_ok w a d
  have k3 := least_ok w a d
  have k4 := refleast_ok w a d
  have k5 := spread_ok w a d
  have k6 := refspread_ok w a d
  have k7 := beats_ok w a d
  have k8 := refbeats_ok w a d
  have H9 : Hid (∀ W, Calls Try.prog 15 #[] W fun e w' => e = .returned (.bool true) ∧ w' = W) := awake_ok
  obtain ⟨m, hm⟩ : ∃ m, m = mostN a d := ⟨_, rfl⟩
  obtain ⟨l, hl⟩ : ∃ m, m = leastN a d := ⟨_, rfl⟩
  obtain ⟨s, hs⟩ : ∃ m, m = spreadN a d := ⟨_, rfl⟩
  obtain ⟨x, hx⟩ : ∃ m, m = upN a (100 + d) := ⟨_, rfl⟩
  obtain ⟨y, hy⟩ : ∃ m, m = a / (100 - d) := ⟨_, rfl⟩
  rw [← hm] at k1 k2
  rw [← hl] at k3 k4
  rw [← hs] at k5 k6
  have eb : beatsV a d = if mayB a d = true then .tuple #[.int .i64 x, .int .i64 y, .int .i64 0] else .tuple #[.int .i64 0, .int .i64 0, .int .i64 1] := by rw [hx, hy]; rfl
  rw [eb] at k7 k8
  clear hm hl hs hx hy eb
  by_cases h : mayB a d = true
  · rw [show ansN a d m = .tuple #[.int .i64 m, .int .i64 0] from if_pos h] at k1 k2
    rw [show ansN a d l = .tuple #[.int .i64 l, .int .i64 0] from if_pos h] at k3 k4
    rw [show ansN a d s = .tuple #[.int .i64 s, .int .i64 0] from if_pos h] at k5 k6
    rw [if_pos h] at k7 k8
    clear h
    go_enter Try.func3, Try.ntmps3
    go_wp2_with fail
    refine k1.mono ?_
    rintro e w1 ⟨rfl, rfl⟩
    clear k1
    go_wp2_with fail
    refine k2.mono ?_
    rintro e w1 ⟨rfl, rfl⟩
    clear k2
    go_wp2_with fail
    refine k3.mono ?_
    rintro e w1 ⟨rfl, rfl⟩
    clear k3
    go_wp2_with fail
    refine k4.mono ?_
    rintro e w1 ⟨rfl, rfl⟩
    clear k4
    go_wp2_with fail
    refine k5.mono ?_
    rintro e w1 ⟨rfl, rfl⟩
    clear k5
    go_wp2_with fail
    refine k6.mono ?_
    rintro e w1 ⟨rfl, rfl⟩
    clear k6
    go_wp2_with fail
    refine k7.mono ?_
    rintro e w1 ⟨rfl, rfl⟩
    clear k7
    go_wp2_with fail
    refine k8.mono ?_
    rintro e w2 ⟨rfl, hb⟩
    clear k8
    go_wp2_with fail
    refine (H9.out _).mono ?_
    rintro e w3 ⟨rfl, rfl⟩
    go_wp2
    go_ret
    exact ⟨rfl, hb⟩
  · rw [show ansN a d m = .tuple #[.int .i64 0, .int .i64 1] from if_neg h] at k1 k2
    rw [show ansN a d l = .tuple #[.int .i64 0, .int .i64 1] from if_neg h] at k3 k4
    rw [show ansN a d s = .tuple #[.int .i64 0, .int .i64 1] from if_neg h] at k5 k6
    rw [if_neg h] at k7 k8
    clear h
    go_enter Try.func3, Try.ntmps3
    go_wp2_with fail
    refine k1.mono ?_
    rintro e w1 ⟨rfl, rfl⟩
    clear k1
    go_wp2_with fail
    refine k2.mono ?_
    rintro e w1 ⟨rfl, rfl⟩
    clear k2
    go_wp2_with fail
    refine k3.mono ?_
    rintro e w1 ⟨rfl, rfl⟩
    clear k3
    go_wp2_with fail
    refine k4.mono ?_
    rintro e w1 ⟨rfl, rfl⟩
    clear k4
    go_wp2_with fail
    refine k5.mono ?_
    rintro e w1 ⟨rfl, rfl⟩
    clear k5
    go_wp2_with fail
    refine k6.mono ?_
    rintro e w1 ⟨rfl, rfl⟩
    clear k6
    go_wp2_with fail
    refine k7.mono ?_
    rintro e w1 ⟨rfl, rfl⟩
    clear k7
    go_wp2_with fail
    refine k8.mono ?_
    rintro e w2 ⟨rfl, hb⟩
    clear k8
    go_wp2_with fail
    refine (H9.out _).mono ?_
    rintro e w3 ⟨rfl, rfl⟩
    go_wp2
    go_ret
    exact ⟨rfl, hb⟩
theorem all_walk' (a d : Int) (w : World) (_ : (Lit.int .i64 a).wf = true) (_ : (Lit.int .i64 d).wf = true) :
    Calls Try.prog 3 #[.int .i64 a, .int .i64 d] w fun e w' => e = .returned (.bool true) ∧ Below w.heap.size w w' := all_walk w a d
end Go.Proofs.Ytoeoeajmnebpgaa
