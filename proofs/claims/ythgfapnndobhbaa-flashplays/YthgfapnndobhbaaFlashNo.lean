/-
  What a nil flash, and one that no call made, answers.
-/
import Derived.Test.YthgfapnndobhbaaBytes
import Derived.Test.YthgfapnndobhbaaCells
import Derived.Test.YthgfapnndobhbaaFoot
namespace Go.Proofs.Ythgfapnndobhbaa
open Go.ChangeShapes Go.WideShapes Go.ChangeAt Go.RowKit

/-- A nil flash, or one that no call made. -/
def NoF (w : World) (p : Value) : Prop := p = .pointer none ∨ ∃ g, p = .pointer (some ⟨g, 0, none⟩) ∧ w.cell? ⟨g, 0, none⟩ = some (.bool false)

theorem stands_no (w : World) (p : Value) (h : NoF w p) : Calls Try.prog 26 #[p] w fun e w' => e = .returned (.bool false) ∧ w' = w := by
  rcases h with rfl | ⟨g, rfl, hc⟩
  · go_enter Try.func26, Try.ntmps26
    go_wp2
    go_ret
    exact ⟨rfl, rfl⟩
  · go_enter Try.func26, Try.ntmps26
    go_wp2
    go_ret
    exact ⟨rfl, rfl⟩
theorem check_no (w : World) (p : Value) (h : NoF w p) (a n : Int) : Calls Try.prog 23 #[p, .int .i64 a, .int .i64 n] w fun e w' => e = .returned (.int .i64 7) ∧ w' = w := by
  have hs := stands_no w p h
  clear h
  go_enter Try.func23, Try.ntmps23
  go_wp2_with fail
  refine hs.mono ?_
  rintro e w1 ⟨rfl, rfl⟩
  go_wp2
  go_ret
  exact ⟨rfl, rfl⟩
theorem read_no (w : World) (p : Value) (h : NoF w p) (a n : Int) : Calls Try.prog 17 #[p, .int .i64 a, .int .i64 n] w fun e w' => e = .returned (.tuple #[.slice none 0 0, .int .i64 7]) ∧ w' = w := by
  have hs := check_no w p h a n
  clear h
  go_enter Try.func17, Try.ntmps17
  go_wp2_with fail
  refine hs.mono ?_
  rintro e w1 ⟨rfl, rfl⟩
  go_wp2
  go_ret2
  exact ⟨rfl, rfl⟩
theorem write_no (w : World) (p : Value) (h : NoF w p) (a : Int) (x : Option Addr) (l c : Nat) : Calls Try.prog 10 #[p, .int .i64 a, .slice x l c] w fun e w' => e = .returned (.int .i64 7) ∧ w' = w := by
  have hs := check_no w p h a l
  clear h
  go_enter Try.func10, Try.ntmps10
  go_wp2_with fail
  refine hs.mono ?_
  rintro e w1 ⟨rfl, rfl⟩
  go_wp2
  go_ret
  exact ⟨rfl, rfl⟩
theorem len_no (w : World) (p : Value) (h : NoF w p) : Calls Try.prog 19 #[p] w fun e w' => e = .returned (.int .i64 0) ∧ w' = w := by
  have hs := stands_no w p h
  clear h
  go_enter Try.func19, Try.ntmps19
  go_wp2_with fail
  refine hs.mono ?_
  rintro e w1 ⟨rfl, rfl⟩
  go_wp2
  go_ret
  exact ⟨rfl, rfl⟩
theorem dead_no (w : World) (p : Value) (h : NoF w p) : Calls Try.prog 20 #[p] w fun e w' => e = .returned (.bool false) ∧ w' = w := by
  have hs := stands_no w p h
  clear h
  go_enter Try.func20, Try.ntmps20
  go_wp2_with fail
  refine hs.mono ?_
  rintro e w1 ⟨rfl, rfl⟩
  go_wp2
  go_ret
  exact ⟨rfl, rfl⟩
theorem writes_no (w : World) (p : Value) (h : NoF w p) : Calls Try.prog 21 #[p] w fun e w' => e = .returned (.int .i64 0) ∧ w' = w := by
  have hs := stands_no w p h
  clear h
  go_enter Try.func21, Try.ntmps21
  go_wp2_with fail
  refine hs.mono ?_
  rintro e w1 ⟨rfl, rfl⟩
  go_wp2
  go_ret
  exact ⟨rfl, rfl⟩
theorem copy_no (w : World) (p : Value) (h : NoF w p) : Calls Try.prog 16 #[p] w fun e w' => e = .returned (.pointer none) ∧ w' = w := by
  have hs := stands_no w p h
  clear h
  go_enter Try.func16, Try.ntmps16
  go_wp2_with fail
  refine hs.mono ?_
  rintro e w1 ⟨rfl, rfl⟩
  go_wp2
  go_ret
  exact ⟨rfl, rfl⟩
theorem tear_no (w : World) (p : Value) (h : NoF w p) (a n : Int) : Calls Try.prog 12 #[p, .int .i64 a, .int .i64 n] w fun e w' => (∃ v, e = .returned v) ∧ w' = w := by
  have hs := stands_no w p h
  clear h
  go_enter Try.func12, Try.ntmps12
  go_wp2_with fail
  refine hs.mono ?_
  rintro e w1 ⟨rfl, rfl⟩
  go_wp2
  (try simp only [Exit.inBlock, Exit.then])
  refine bodyPost_ret (results_none rfl _ _ _) rfl ?_
  exact ⟨⟨_, rfl⟩, rfl⟩
theorem wake_no (w : World) (p : Value) (h : NoF w p) : Calls Try.prog 14 #[p] w fun e w' => (∃ v, e = .returned v) ∧ w' = w := by
  have hs := stands_no w p h
  clear h
  go_enter Try.func14, Try.ntmps14
  go_wp2_with fail
  refine hs.mono ?_
  rintro e w1 ⟨rfl, rfl⟩
  go_wp2
  (try simp only [Exit.inBlock, Exit.then])
  refine bodyPost_ret (results_none rfl _ _ _) rfl ?_
  exact ⟨⟨_, rfl⟩, rfl⟩
end Go.Proofs.Ythgfapnndobhbaa
