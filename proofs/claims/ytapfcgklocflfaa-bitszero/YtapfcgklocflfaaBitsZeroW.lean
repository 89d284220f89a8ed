/-
  A writer and a reader that nobody made.
-/
import Derived.Test.YtapfcgklocflfaaBitsRd
namespace Go.Proofs.Ytapfcgklocflfaa
open Go.ChangeShapes Go.WideShapes Go.ChangeAt Go.RowKit

/-- A pointer to one that no call made, or to none. -/
def NotMade (w : World) (p : Value) : Prop := p = .pointer none ∨ ∃ b, p = .pointer (some ⟨b, 0, none⟩) ∧ w.cell? ⟨b, 0, none⟩ = some (.bool false)
set_option maxHeartbeats 800000 in
set_option maxRecDepth 20000 in
theorem wstands_no (w : World) (p : Value) (h : NotMade w p) : Calls Try.prog 26 #[p] w fun e w' => e = .returned (.bool false) ∧ w' = w := by
  rcases h with rfl | ⟨b, rfl, h⟩
  · go_enter Try.func26, Try.ntmps26
    go_wp2
    go_ret
    exact ⟨rfl, rfl⟩
  · go_enter Try.func26, Try.ntmps26
    go_wp2
    go_ret
    exact ⟨rfl, rfl⟩
set_option maxHeartbeats 800000 in
set_option maxRecDepth 20000 in
theorem rstands_no (w : World) (p : Value) (h : NotMade w p) : Calls Try.prog 31 #[p] w fun e w' => e = .returned (.bool false) ∧ w' = w := by
  rcases h with rfl | ⟨b, rfl, h⟩
  · go_enter Try.func31, Try.ntmps31
    go_wp2
    go_ret
    exact ⟨rfl, rfl⟩
  · go_enter Try.func31, Try.ntmps31
    go_wp2
    go_ret
    exact ⟨rfl, rfl⟩
set_option maxHeartbeats 800000 in
set_option maxRecDepth 20000 in
theorem put_no (w : World) (p : Value) (h : NotMade w p) (n W : Int) : Calls Try.prog 9 #[p, .int .u64 n, .int .i64 W] w fun e w' => e = .returned (.int .i64 7) ∧ w' = w := by
  have hst := wstands_no w p h
  clear h
  go_enter Try.func9, Try.ntmps9
  go_wp2_with fail
  refine hst.mono ?_
  rintro e w1 ⟨rfl, rfl⟩
  clear hst
  go_wp2
  go_ret
  exact ⟨rfl, rfl⟩
set_option maxHeartbeats 800000 in
set_option maxRecDepth 20000 in
theorem bytes_no (w : World) (p : Value) (h : NotMade w p) (x : Option Addr) (n cx : Nat) : Calls Try.prog 11 #[p, .slice x n cx] w fun e w' => e = .returned (.int .i64 7) ∧ w' = w := by
  have hst := wstands_no w p h
  clear h
  go_enter Try.func11, Try.ntmps11
  go_wp2_with fail
  refine hst.mono ?_
  rintro e w1 ⟨rfl, rfl⟩
  clear hst
  go_wp2
  go_ret
  exact ⟨rfl, rfl⟩
set_option maxHeartbeats 800000 in
set_option maxRecDepth 20000 in
theorem len_no (w : World) (p : Value) (h : NotMade w p)  : Calls Try.prog 13 #[p] w fun e w' => e = .returned (.int .i64 0) ∧ w' = w := by
  have hst := wstands_no w p h
  clear h
  go_enter Try.func13, Try.ntmps13
  go_wp2_with fail
  refine hst.mono ?_
  rintro e w1 ⟨rfl, rfl⟩
  clear hst
  go_wp2
  go_ret
  exact ⟨rfl, rfl⟩
set_option maxHeartbeats 800000 in
set_option maxRecDepth 20000 in
theorem done_no (w : World) (p : Value) (h : NotMade w p)  : Calls Try.prog 14 #[p] w fun e w' => e = .returned (.slice none 0 0) ∧ w' = w := by
  have hst := wstands_no w p h
  clear h
  go_enter Try.func14, Try.ntmps14
  go_wp2_with fail
  refine hst.mono ?_
  rintro e w1 ⟨rfl, rfl⟩
  clear hst
  go_wp2
  go_ret
  exact ⟨rfl, rfl⟩
set_option maxHeartbeats 800000 in
set_option maxRecDepth 20000 in
theorem get_no (w : World) (p : Value) (h : NotMade w p) (W : Int) : Calls Try.prog 18 #[p, .int .i64 W] w fun e w' => e = .returned (.tuple #[.int .u64 0, .int .i64 7]) ∧ w' = w := by
  have hst := rstands_no w p h
  clear h
  go_enter Try.func18, Try.ntmps18
  go_wp2_with fail
  refine hst.mono ?_
  rintro e w1 ⟨rfl, rfl⟩
  clear hst
  go_wp2
  go_ret2
  exact ⟨rfl, rfl⟩
set_option maxHeartbeats 800000 in
set_option maxRecDepth 20000 in
theorem take_no (w : World) (p : Value) (h : NotMade w p) (W : Int) : Calls Try.prog 20 #[p, .int .i64 W] w fun e w' => e = .returned (.tuple #[.slice none 0 0, .int .i64 7]) ∧ w' = w := by
  have hst := rstands_no w p h
  clear h
  go_enter Try.func20, Try.ntmps20
  go_wp2_with fail
  refine hst.mono ?_
  rintro e w1 ⟨rfl, rfl⟩
  clear hst
  go_wp2
  go_ret2
  exact ⟨rfl, rfl⟩
set_option maxHeartbeats 800000 in
set_option maxRecDepth 20000 in
theorem left_no (w : World) (p : Value) (h : NotMade w p)  : Calls Try.prog 22 #[p] w fun e w' => e = .returned (.int .i64 0) ∧ w' = w := by
  have hst := rstands_no w p h
  clear h
  go_enter Try.func22, Try.ntmps22
  go_wp2_with fail
  refine hst.mono ?_
  rintro e w1 ⟨rfl, rfl⟩
  clear hst
  go_wp2
  go_ret
  exact ⟨rfl, rfl⟩
set_option maxHeartbeats 800000 in
set_option maxRecDepth 20000 in
theorem end_no (w : World) (p : Value) (h : NotMade w p)  : Calls Try.prog 24 #[p] w fun e w' => e = .returned (.int .i64 7) ∧ w' = w := by
  have hst := rstands_no w p h
  clear h
  go_enter Try.func24, Try.ntmps24
  go_wp2_with fail
  refine hst.mono ?_
  rintro e w1 ⟨rfl, rfl⟩
  clear hst
  go_wp2
  go_ret
  exact ⟨rfl, rfl⟩
set_option maxHeartbeats 1600000 in
set_option maxRecDepth 20000 in
theorem zero_walk (a : Option Addr) (ca : Nat) (l : List UInt8) (w : World) (_ : Sees w a ca l) (_ : ca ≤ 140737488351232) :
    Calls Try.prog 7 #[.slice a l.length ca] w fun e w' => e = .returned (.bool true) ∧ Below w.heap.size w w' := by
  obtain ⟨w2, hw2⟩ : ∃ w2, w2 = (w.alloc (.cells #[.bool false, .slice none 0 0, .int .i64 0] 62)).alloc (.cells #[.bool false, .slice none 0 0, .int .i64 0, .int .i64 0] 64) := ⟨_, rfl⟩
  have hb : Below w.heap.size w w2 := by rw [hw2]; exact ((Below.refl _ _).alloc (Nat.le_refl _) _).alloc (by simp) _
  have hn : ∀ w', NotMade w' (.pointer none) := fun _ => .inl rfl
  have hv : NotMade w2 (.pointer (some ⟨w.heap.size, 0, none⟩)) := .inr ⟨_, rfl, by rw [hw2]; exact cell_of_row _ _ 0 _ _ _ (heap_alloc2_old w _ _)⟩
  have hs : NotMade w2 (.pointer (some ⟨w.heap.size + 1, 0, none⟩)) := .inr ⟨_, rfl, by rw [hw2]; exact cell_of_row _ _ 0 _ _ _ (heap_alloc2_new w _ _)⟩
  rw [hw2] at hv hs hb
  have H1 := get_no _ _ (hn ((w.alloc (.cells #[.bool false, .slice none 0 0, .int .i64 0] 62)).alloc (.cells #[.bool false, .slice none 0 0, .int .i64 0, .int .i64 0] 64))) 1
  have H2 := take_no _ _ hs 1
  have H3 := put_no _ _ (hn ((w.alloc (.cells #[.bool false, .slice none 0 0, .int .i64 0] 62)).alloc (.cells #[.bool false, .slice none 0 0, .int .i64 0, .int .i64 0] 64))) 1 1
  have H4 := bytes_no _ _ hv a l.length ca
  have H5 := len_no _ _ (hn ((w.alloc (.cells #[.bool false, .slice none 0 0, .int .i64 0] 62)).alloc (.cells #[.bool false, .slice none 0 0, .int .i64 0, .int .i64 0] 64)))
  have H6 := done_no _ _ hv
  have H7 := left_no _ _ (hn ((w.alloc (.cells #[.bool false, .slice none 0 0, .int .i64 0] 62)).alloc (.cells #[.bool false, .slice none 0 0, .int .i64 0, .int .i64 0] 64)))
  have H8 := end_no _ _ hs
  clear hn hv hs hw2
  go_enter Try.func7, Try.ntmps7
  go_wp2_with fail
  refine H1.mono ?_
  rintro e w1 ⟨rfl, hw1⟩
  rw [hw1]
  clear hw1 H1
  go_wp2_with fail
  refine H2.mono ?_
  rintro e w1 ⟨rfl, hw1⟩
  rw [hw1]
  clear hw1 H2
  go_wp2_with fail
  refine H3.mono ?_
  rintro e w1 ⟨rfl, hw1⟩
  rw [hw1]
  clear hw1 H3
  go_wp2_with fail
  refine H4.mono ?_
  rintro e w1 ⟨rfl, hw1⟩
  rw [hw1]
  clear hw1 H4
  go_wp2_with fail
  refine H5.mono ?_
  rintro e w1 ⟨rfl, hw1⟩
  rw [hw1]
  clear hw1 H5
  go_wp2_with fail
  refine H6.mono ?_
  rintro e w1 ⟨rfl, hw1⟩
  rw [hw1]
  clear hw1 H6
  go_wp2_with fail
  refine H7.mono ?_
  rintro e w1 ⟨rfl, hw1⟩
  rw [hw1]
  clear hw1 H7
  go_wp2_with fail
  refine H8.mono ?_
  rintro e w1 ⟨rfl, hw1⟩
  rw [hw1]
  clear hw1 H8
  go_wp2
  go_ret
  exact ⟨rfl, hb⟩
end Go.Proofs.Ytapfcgklocflfaa
