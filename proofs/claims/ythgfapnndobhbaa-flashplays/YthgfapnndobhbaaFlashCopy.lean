/-
  The contract of flash's Copy.
-/
import Derived.Test.YthgfapnndobhbaaFlashRead
namespace Go.Proofs.Ythgfapnndobhbaa
open Go.ChangeShapes Go.WideShapes Go.ChangeAt Go.RowKit

set_option maxHeartbeats 1600000 in
theorem copy_ok (w : World) (g : Nat) (s : PS) (F : Nat → Prop) (h : PF w g s F) :
    Calls Try.prog 16 #[.pointer (some ⟨g, 0, none⟩)] w fun e w' => ∃ g' F', e = .returned (.pointer (some ⟨g', 0, none⟩)) ∧ PF w' g' s F' ∧ (∀ k, F' k → w.heap.size ≤ k) ∧ Below w.heap.size w w' := by
  obtain ⟨q, cap, cur, h, hF, hq, hl⟩ := h
  have hs := stands_ok w g h.made
  obtain ⟨w2, hw2⟩ : ∃ w2, w2 = w.alloc (.cells #[.bool true, .slice (some ⟨q, 0, none⟩) s.b.length cap, .int .i64 (s.n : Int), .bool s.due, .int .i64 (s.k : Int), .int .i64 (s.m : Int), .bool s.dead] 50) := ⟨_, rfl⟩
  have hr2 : w2.heap[w.heap.size]? = some (.cells #[.bool true, .slice (some ⟨q, 0, none⟩) s.b.length cap, .int .i64 (s.n : Int), .bool s.due, .int .i64 (s.k : Int), .int .i64 (s.m : Int), .bool s.dead] 50 (0, 0)) := by rw [hw2]; exact heap_alloc_new w _
  have hb2 : Below w.heap.size w w2 := by rw [hw2]; exact (Below.refl _ _).alloc (Nat.le_refl _) _
  have hgl : g < w.heap.size := hl g hF
  have hql : q < w.heap.size := hl q hq
  have hgn : g ≠ w.heap.size := by omega
  have h2 : PA w2 g s q cap cur := h.keep (hb2.block g hgl) (hb2.block q hql)
  have hcl := clone_own w2 _ cap s.b h2.sees (by have := h.small; omega)
  have HF : Hid (∀ w3 d cd cur3, w3.heap[d]? = some (.cells cur3 5 (0, 0)) → s.b.length ≤ cd → cd ≤ maxLen → cur3.size = cd → cur3.toList.take s.b.length = s.b.map cellOf → w2.heap.size ≤ d → Below w2.heap.size w2 w3 →
      w3.cell? ⟨w.heap.size, 1, none⟩ = some (.slice (some ⟨q, 0, none⟩) s.b.length cap) ∧ w3.frozen? ⟨w.heap.size, 1, none⟩ = false ∧
      ∃ F', PF (w3.setCell ⟨w.heap.size, 1, none⟩ (.slice (some ⟨d, 0, none⟩) s.b.length cd)) w.heap.size s F' ∧ (∀ k, F' k → w.heap.size ≤ k) ∧ Below w.heap.size w (w3.setCell ⟨w.heap.size, 1, none⟩ (.slice (some ⟨d, 0, none⟩) s.b.length cd))) := by
    intro w3 d cd cur3 g1 g2 g3 g4 g5 g6 g7
    have hsz : w.heap.size < w2.heap.size := (Array.getElem?_eq_some_iff.1 hr2).1
    have hr3 := (g7.block _ hsz).trans hr2
    have hdn : d ≠ w.heap.size := by omega
    refine ⟨cell_of_row _ _ 1 _ _ _ hr3, frozen_of_row _ _ 1 _ _ hr3, fun k => k = w.heap.size ∨ k = d, ⟨d, cd, cur3, ⟨?_, ?_, g2, g3, g4, g5, h.small, h.kl, h.ml⟩, .inl rfl, .inr rfl, ?_⟩, ?_, ?_⟩
    · rw [heap_setCell_same _ _ _ _ _ _ hr3]; rfl
    · rw [heap_setCell_other _ _ _ _ hdn]; exact g1
    · have h9 : d < w3.heap.size := (Array.getElem?_eq_some_iff.1 g1).1
      have := g7.size
      rintro k (rfl | rfl) <;> simp <;> omega
    · rintro k (rfl | rfl) <;> omega
    · exact (hb2.trans (g7.mono (by omega))).setCell (p := ⟨w.heap.size, 1, none⟩) (Nat.le_refl _) _
  have HW : Hid (w2 = w.alloc (.cells #[.bool true, .slice (some ⟨q, 0, none⟩) s.b.length cap, .int .i64 (s.n : Int), .bool s.due, .int .i64 (s.k : Int), .int .i64 (s.m : Int), .bool s.dead] 50)) := hw2
  have c0 := h.made
  have c1 := h.bs
  have c2 := h.ns
  have c3 := h.dues
  have c4 := h.ks
  have c5 := h.ms
  have c6 := h.deads
  clear h hr2 hb2 hql h2 hw2 hl
  go_enter Try.func16, Try.ntmps16
  go_wp2_with fail
  refine hs.mono ?_
  rintro e w4 ⟨rfl, rfl⟩
  clear hs
  go_wp2_with fail
  rw [← HW.out]
  refine hcl.mono ?_
  rintro e w3 ⟨d, cd, cur3, rfl, h1, h2, h3, h4, h5, h6, h7⟩
  obtain ⟨x1, x2, F', x3, x4, x5⟩ := HF.out w3 d cd cur3 h1 h2 h3 h4 h5 h6 h7
  have HX : Hid (PF (w3.setCell ⟨w4.heap.size, 1, none⟩ (.slice (some ⟨d, 0, none⟩) s.b.length cd)) w4.heap.size s F' ∧ (∀ k, F' k → w4.heap.size ≤ k) ∧ Below w4.heap.size w4 (w3.setCell ⟨w4.heap.size, 1, none⟩ (.slice (some ⟨d, 0, none⟩) s.b.length cd))) := ⟨x3, x4, x5⟩
  clear h1 h2 h3 h4 h5 h6 h7 x3 x4 x5 c0 c1 c2 c3 c4 c5 c6 HF hcl HW
  go_wp2
  go_ret
  exact ⟨_, F', rfl, HX.out⟩
end Go.Proofs.Ythgfapnndobhbaa
