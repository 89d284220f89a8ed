/-
  What a nil flash, and one that no call made, answers.
-/
import Derived.Test.YtgnllmcgebonpaaBytes
import Derived.Test.YtgnllmcgebonpaaCells
import Derived.Test.YtgnllmcgebonpaaFoot
namespace Go.Proofs.Ytgnllmcgebonpaa
open Go.ChangeShapes Go.WideShapes Go.ChangeAt Go.RowKit

/-- A nil flash, or one that no call made. -/
def NoF (w : World) (p : Value) : Prop := p = .pointer none ∨ ∃ g, p = .pointer (some ⟨g, 0, none⟩) ∧ w.cell? ⟨g, 0, none⟩ = some (.bool false)

theorem stands_no (w : World) (p : Value) (h : NoF w p) : Calls Try.prog 32 #[p] w fun e w' => e = .returned (.bool false) ∧ w' = w := by
  rcases h with rfl | ⟨g, rfl, hc⟩
  · go_enter Try.func32, Try.ntmps32
    go_wp2
    go_ret
    exact ⟨rfl, rfl⟩
  · go_enter Try.func32, Try.ntmps32
    go_wp2
    go_ret
    exact ⟨rfl, rfl⟩
theorem check_no (w : World) (p : Value) (h : NoF w p) (a n : Int) : Calls Try.prog 27 #[p, .int .i64 a, .int .i64 n] w fun e w' => e = .returned (.int .i64 7) ∧ w' = w := by
  have hs := stands_no w p h
  clear h
  go_enter Try.func27, Try.ntmps27
  go_wp2_with fail
  refine hs.mono ?_
  rintro e w1 ⟨rfl, rfl⟩
  go_wp2
  go_ret
  exact ⟨rfl, rfl⟩
theorem read_no (w : World) (p : Value) (h : NoF w p) (a n : Int) : Calls Try.prog 30 #[p, .int .i64 a, .int .i64 n] w fun e w' => e = .returned (.tuple #[.slice none 0 0, .int .i64 7]) ∧ w' = w := by
  have hs := check_no w p h a n
  clear h
  go_enter Try.func30, Try.ntmps30
  go_wp2_with fail
  refine hs.mono ?_
  rintro e w1 ⟨rfl, rfl⟩
  go_wp2
  go_ret2
  exact ⟨rfl, rfl⟩
theorem write_no (w : World) (p : Value) (h : NoF w p) (a : Int) (x : Option Addr) (l c : Nat) : Calls Try.prog 9 #[p, .int .i64 a, .slice x l c] w fun e w' => e = .returned (.int .i64 7) ∧ w' = w := by
  have hs := check_no w p h a l
  clear h
  go_enter Try.func9, Try.ntmps9
  go_wp2_with fail
  refine hs.mono ?_
  rintro e w1 ⟨rfl, rfl⟩
  go_wp2
  go_ret
  exact ⟨rfl, rfl⟩
theorem len_no (w : World) (p : Value) (h : NoF w p) : Calls Try.prog 31 #[p] w fun e w' => e = .returned (.int .i64 0) ∧ w' = w := by
  have hs := stands_no w p h
  clear h
  go_enter Try.func31, Try.ntmps31
  go_wp2_with fail
  refine hs.mono ?_
  rintro e w1 ⟨rfl, rfl⟩
  go_wp2
  go_ret
  exact ⟨rfl, rfl⟩
theorem tear_no (w : World) (p : Value) (h : NoF w p) (a n : Int) : Calls Try.prog 13 #[p, .int .i64 a, .int .i64 n] w fun e w' => (∃ v, e = .returned v) ∧ w' = w := by
  have hs := stands_no w p h
  clear h
  go_enter Try.func13, Try.ntmps13
  go_wp2_with fail
  refine hs.mono ?_
  rintro e w1 ⟨rfl, rfl⟩
  go_wp2
  (try simp only [Exit.inBlock, Exit.then])
  refine bodyPost_ret (results_none rfl _ _ _) rfl ?_
  exact ⟨⟨_, rfl⟩, rfl⟩
theorem wake_no (w : World) (p : Value) (h : NoF w p) : Calls Try.prog 17 #[p] w fun e w' => (∃ v, e = .returned v) ∧ w' = w := by
  have hs := stands_no w p h
  clear h
  go_enter Try.func17, Try.ntmps17
  go_wp2_with fail
  refine hs.mono ?_
  rintro e w1 ⟨rfl, rfl⟩
  go_wp2
  (try simp only [Exit.inBlock, Exit.then])
  refine bodyPost_ret (results_none rfl _ _ _) rfl ?_
  exact ⟨⟨_, rfl⟩, rfl⟩
end Go.Proofs.Ytgnllmcgebonpaa
