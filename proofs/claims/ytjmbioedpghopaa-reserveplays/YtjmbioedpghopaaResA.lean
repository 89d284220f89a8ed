/-
  What a nil reserve, and one that no call made, answers.
-/
import Derived.Test.YtjmbioedpghopaaBankA
import Derived.Deep.Cut
namespace Go.Proofs.Ytjmbioedpghopaa
open Go.ChangeShapes Go.WideShapes Go.ChangeAt Go.RowKit

/-- A nil reserve, or one that no call made. -/
def NoR (w : World) (p : Value) : Prop := p = .pointer none ∨ ∃ g, p = .pointer (some ⟨g, 0, none⟩) ∧ w.cell? ⟨g, 0, none⟩ = some (.pointer none)
theorem NoR.below {w w' : World} {p : Value} (h : NoR w p) (hb : Below w.heap.size w w') : NoR w' p := by
  rcases h with h | ⟨g, h, hc⟩
  · exact .inl h
  · exact .inr ⟨g, h, by rw [hb.cell (World.block_lt_of_cell? w _ hc)]; exact hc⟩

theorem vstands_no (w : World) (p : Value) (h : NoR w p) : Calls Try.prog 36 #[p] w fun e w' => e = .returned (.bool false) ∧ w' = w := by
  rcases h with rfl | ⟨g, rfl, hc⟩
  · go_enter Try.func36, Try.ntmps36
    go_wp2
    go_ret
    exact ⟨rfl, rfl⟩
  · go_enter Try.func36, Try.ntmps36
    go_wp2
    go_ret
    exact ⟨rfl, rfl⟩
theorem mark_no (w : World) (p : Value) (h : NoR w p) : Calls Try.prog 23 #[p] w fun e w' => e = .returned (.int .i64 0) ∧ w' = w := by
  have hs := vstands_no w p h
  clear h
  go_enter Try.func23, Try.ntmps23
  go_wp2_with fail
  refine hs.mono ?_
  rintro e w1 ⟨rfl, rfl⟩
  go_wp2
  go_ret
  exact ⟨rfl, rfl⟩
theorem inc_no (w : World) (p : Value) (h : NoR w p) : Calls Try.prog 24 #[p] w fun e w' => e = .returned (.int .i64 0) ∧ w' = w := by
  have hs := vstands_no w p h
  clear h
  go_enter Try.func24, Try.ntmps24
  go_wp2_with fail
  refine hs.mono ?_
  rintro e w1 ⟨rfl, rfl⟩
  go_wp2
  go_ret
  exact ⟨rfl, rfl⟩
theorem least_no (w : World) (p : Value) (h : NoR w p) : Calls Try.prog 25 #[p] w fun e w' => e = .returned (.int .i64 0) ∧ w' = w := by
  have hs := vstands_no w p h
  clear h
  go_enter Try.func25, Try.ntmps25
  go_wp2_with fail
  refine hs.mono ?_
  rintro e w1 ⟨rfl, rfl⟩
  go_wp2
  go_ret
  exact ⟨rfl, rfl⟩
theorem born_no (w : World) (p : Value) (h : NoR w p) : Calls Try.prog 18 #[p] w fun e w' => e = .returned (.int .i64 7) ∧ w' = w := by
  have hs := vstands_no w p h
  clear h
  go_enter Try.func18, Try.ntmps18
  go_wp2_with fail
  refine hs.mono ?_
  rintro e w1 ⟨rfl, rfl⟩
  go_wp2
  go_ret
  exact ⟨rfl, rfl⟩
theorem two_boxes (w : World) (x : Value) (a : TypeId) (y : Value) (b : TypeId) : ((w.alloc (.cells #[x] a)).alloc (.cells #[y] b)).cell? ⟨w.heap.size, 0, none⟩ = some x ∧ ((w.alloc (.cells #[x] a)).alloc (.cells #[y] b)).cell? ⟨w.heap.size + 1, 0, none⟩ = some y := by
  have h1 : (w.alloc (.cells #[x] a)).heap[w.heap.size]? = some (.cells #[x] a (0, 0)) := heap_alloc_new _ _
  have h2 : ((w.alloc (.cells #[x] a)).alloc (.cells #[y] b)).heap[w.heap.size]? = some (.cells #[x] a (0, 0)) := by
    show ((w.alloc (.cells #[x] a)).heap.push _)[w.heap.size]? = _
    rw [Array.getElem?_push, if_neg (by simp)]; exact h1
  have h3 : ((w.alloc (.cells #[x] a)).alloc (.cells #[y] b)).heap[w.heap.size + 1]? = some (.cells #[y] b (0, 0)) := by
    have := heap_alloc_new (w.alloc (.cells #[x] a)) (.cells #[y] b)
    simpa using this
  exact ⟨cell_of_row _ _ 0 _ _ _ h2, cell_of_row _ _ 0 _ _ _ h3⟩
theorem take_no (w : World) (q : Option Addr) (h : NoR w (.pointer q)) (n : Int) : Calls Try.prog 16 #[.pointer q, .int .i64 n] w fun e w' => e = .returned (.int .i64 7) ∧ Below w.heap.size w w' := by
  obtain ⟨W, hW⟩ : ∃ W, W = (w.alloc (.cells #[.pointer q] 36)).alloc (.cells #[.int .i64 n] 3) := ⟨_, rfl⟩
  have hb : Below w.heap.size w W := by rw [hW]; exact ((Below.refl _ _).alloc (Nat.le_refl _) _).alloc (by simp) _
  have c0 : W.cell? ⟨w.heap.size, 0, none⟩ = some (.pointer q) := by rw [hW]; exact (two_boxes _ _ _ _ _).1
  have hs := vstands_no W _ (h.below hb)
  have HW : Hid (W = (w.alloc (.cells #[.pointer q] 36)).alloc (.cells #[.int .i64 n] 3)) := hW
  have HB : Hid (Below w.heap.size w W) := hb
  clear h hb hW
  go_enter Try.func16, Try.ntmps16
  go_upto_region 1 with fail
  rw [← HW.out]
  go_wp2_with fail
  refine hs.mono ?_
  rintro e w1 ⟨rfl, rfl⟩
  go_wp2
  go_ret
  exact ⟨rfl, HB.out⟩
set_option maxRecDepth 20000 in
theorem rstands_no (w : World) (p : Value) (h : NoB w p) : Calls Try.prog 41 #[p] w fun e w' => e = .returned (.bool false) ∧ Below w.heap.size w w' := by
  obtain ⟨i5, hi, hz0, hz1, hz2⟩ := info_parts Try.info5
  go_enter Try.func41, Try.ntmps41
  go_wp2_with (at_make; refine wpList_make_full _ rfl _ _ 22 rfl w.heap.size 5 i5 (.int .u8 0) 1 Try.underlying22 hi hz0 hz1 .i64 .i64 _ _ 65 rfl rfl rfl rfl ?b2 ?b3 (Nat.le_refl _) ?_)
  case b2 => rw [hz2]; omega
  case b3 => unfold maxLen; omega
  intro w1 hown hgrow
  have hb : Below w.heap.size w w1 := (Below.refl _ _).grown hgrow (Nat.le_refl _) (by intro k h; cases h)
  have hs := save_no w1 p (h.below hb) (some ⟨w.heap.size, 0, none⟩) 65 65
  clear hown hgrow h
  go_wp2_with fail
  refine hs.mono ?_
  rintro e w2 ⟨rfl, rfl⟩
  go_wp2
  go_ret
  exact ⟨rfl, hb⟩
theorem open_nil (w : World) (p : Value) (h : NoB w p) (n : Int) : Calls Try.prog 26 #[p, .int .i64 n] w fun e w' => e = .returned (.tuple #[.pointer none, .int .i64 7]) ∧ Below w.heap.size w w' := by
  have hs := rstands_no w p h
  clear h
  go_enter Try.func26, Try.ntmps26
  go_wp2_with fail
  refine hs.mono ?_
  rintro e w1 ⟨rfl, hb⟩
  clear hs
  go_wp2
  go_ret2
  exact ⟨rfl, hb⟩

set_option maxHeartbeats 1600000 in
set_option maxRecDepth 20000 in
theorem zero_walk (n : Int) (w : World) (_hn : (Lit.int .i64 n).wf = true) : Calls Try.prog 6 #[.int .i64 n] w fun e w' => e = .returned (.bool true) ∧ Below w.heap.size w w' := by
  obtain ⟨W, hW⟩ : ∃ W, W = w.alloc (.cells #[.pointer none, .int .i64 0, .int .u32 0, .int .u32 0, .int .u32 0, .int .i64 0, .bool false] 60) := ⟨_, rfl⟩
  have hb : Below w.heap.size w W := by rw [hW]; exact (Below.refl _ _).alloc (Nat.le_refl _) _
  have hN : NoR W (.pointer none) := .inl rfl
  have hG : NoR W (.pointer (some ⟨w.heap.size, 0, none⟩)) := .inr ⟨_, rfl, by rw [hW]; exact cell_of_row _ _ 0 _ _ _ (heap_alloc_new w _)⟩
  go_enter Try.func6, Try.ntmps6
  go_wp2_with fail
  rw [← hW]
  clear hW
  refine (open_nil W _ (.inl rfl) 8).mono ?_
  rintro e w1 ⟨rfl, b1⟩
  replace hb := hb.trans (b1.mono hb.size)
  replace hN := hN.below b1
  replace hG := hG.below b1
  clear b1
  go_wp2_with fail
  refine (take_no w1 _ hN n).mono ?_
  rintro e w2 ⟨rfl, b1⟩
  replace hb := hb.trans (b1.mono hb.size)
  replace hN := hN.below b1
  replace hG := hG.below b1
  clear b1
  go_wp2_with fail
  refine (take_no w2 _ hG n).mono ?_
  rintro e w3 ⟨rfl, b1⟩
  replace hb := hb.trans (b1.mono hb.size)
  replace hN := hN.below b1
  replace hG := hG.below b1
  clear b1
  go_wp2_with fail
  refine (born_no w3 _ hN).mono ?_
  rintro e w4 ⟨rfl, rfl⟩
  go_wp2_with fail
  refine (born_no w4 _ hG).mono ?_
  rintro e w5 ⟨rfl, rfl⟩
  go_wp2_with fail
  refine (mark_no w5 _ hN).mono ?_
  rintro e w6 ⟨rfl, rfl⟩
  go_wp2_with fail
  refine (inc_no w6 _ hG).mono ?_
  rintro e w7 ⟨rfl, rfl⟩
  go_wp2_with fail
  refine (least_no w7 _ hN).mono ?_
  rintro e w8 ⟨rfl, rfl⟩
  go_wp2
  go_ret
  exact ⟨rfl, hb⟩
end Go.Proofs.Ytjmbioedpghopaa
