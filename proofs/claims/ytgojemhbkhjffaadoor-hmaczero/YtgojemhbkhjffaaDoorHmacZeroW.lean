/-
  What a nil tag, and one that nobody began, answers; the walk of HmacZero.
-/
import Derived.Test.YtgojemhbkhjffaaDoorNone
namespace Go.Proofs.YtgojemhbkhjffaaDoor
open Go.ChangeShapes Go.WideShapes Go.ChangeAt Go.RowKit

set_option maxHeartbeats 400000 in
theorem hsum_no (w : World) (p : Value) (h : NotMade w p) : Calls Tryd.prog 18 #[p] w fun e w' => e = .returned (.tuple #[.slice none 0 0, .int .i64 7]) ∧ w' = w := by
  rcases h with rfl | ⟨b, rfl, hc⟩
  · go_enter Tryd.func18, Tryd.ntmps18
    go_wp2
    go_ret2
    exact ⟨rfl, rfl⟩
  · have hs := sum_no w (.pointer (some ⟨b, 0, none⟩)) (.inr ⟨b, rfl, hc⟩)
    go_enter Tryd.func18, Tryd.ntmps18
    go_wp2_with fail
    refine hs.mono ?_
    rintro e w' ⟨rfl, rfl⟩
    go_wp2
    go_ret2
    exact ⟨rfl, rfl⟩

set_option maxHeartbeats 400000 in
theorem hwrite_no (w : World) (p v : Value) (h : NotMade w p) : Calls Tryd.prog 17 #[p, v] w fun e w' => e = .returned (.int .i64 7) ∧ w' = w := by
  rcases h with rfl | ⟨b, rfl, hc⟩
  · go_enter Tryd.func17, Tryd.ntmps17
    go_wp2
    go_ret
    exact ⟨rfl, rfl⟩
  · have hs := write_no w (.pointer (some ⟨b, 0, none⟩)) v (.inr ⟨b, rfl, hc⟩)
    go_enter Tryd.func17, Tryd.ntmps17
    go_wp2_with fail
    refine hs.mono ?_
    rintro e w' ⟨rfl, rfl⟩
    go_wp2
    go_ret
    exact ⟨rfl, rfl⟩

def zmac : Array Value := #[.bool false, .int .i64 0, .int .u32 0, .int .u32 0, .int .u32 0, .int .u32 0, .int .u32 0, .int .u32 0, .int .u32 0, .int .u32 0, .slice none 0 0, .bool false, .int .i64 0, .int .u32 0, .int .u32 0, .int .u32 0, .int .u32 0, .int .u32 0, .int .u32 0, .int .u32 0, .int .u32 0, .slice none 0 0]

set_option maxHeartbeats 1600000 in
theorem hzero_walk (v : Value) (w : World) : Calls Tryd.prog 8 #[v] w fun e w' => e = .returned (.bool true) ∧ Below w.heap.size w w' := by
  have hn : ∀ w, NotMade w (.pointer none) := fun w => .inl rfl
  have hz : NotMade (w.alloc (.cells zmac 50)) (.pointer (some ⟨w.heap.size, 0, none⟩)) :=
    .inr ⟨_, rfl, cell_of_row _ _ 0 _ _ _ (heap_alloc_new w _)⟩
  go_enter Tryd.func8, Tryd.ntmps8
  go_wp2_with fail
  refine (hsum_no _ _ (hn _)).mono ?_
  rintro e w' ⟨rfl, rfl⟩
  go_wp2_with fail
  refine (hsum_no _ _ hz).mono ?_
  rintro e w' ⟨rfl, rfl⟩
  go_wp2_with fail
  refine (hwrite_no _ _ _ (hn _)).mono ?_
  rintro e w' ⟨rfl, rfl⟩
  go_wp2_with fail
  refine (hwrite_no _ _ _ hz).mono ?_
  rintro e w' ⟨rfl, rfl⟩
  go_wp2
  go_ret
  exact ⟨rfl, (Below.refl _ _).alloc (Nat.le_refl _) _⟩
end Go.Proofs.YtgojemhbkhjffaaDoor
