/-
  The law's zero: a table that nobody made knows nothing.
-/
import Derived.Test.YtoibndfiolipbaaBrgI
namespace Go.Proofs.Ytoibndfiolipbaa
open Go.ChangeShapes Go.WideShapes Go.ChangeAt Go.RowKit

/-- Both tables that nobody made, and what was there ahead. -/
structure Zr (w : World) (g : Nat) (W : World) : Prop where
  no : NoB W (.pointer (some ⟨g, 0, none⟩))
  bel : Below w.heap.size w W
theorem Zr.step {w W V : World} {g : Nat} (h : Zr w g W) (hb : Below W.heap.size W V) : Zr w g V := ⟨h.no.below hb, h.bel.trans (hb.mono h.bel.size)⟩

set_option maxHeartbeats 1600000 in
set_option maxRecDepth 20000 in
theorem zero_walk (t : Int) (w : World) (_hn : (Lit.int .i64 t).wf = true) : Calls Try.prog 6 #[.int .i64 t] w fun e w' => e = .returned (.bool true) ∧ Below w.heap.size w w' := by
  have HN : Hid (∀ W, NoB W (.pointer none)) := fun W => .inl rfl
  obtain ⟨W, hW⟩ : ∃ W, W = w.alloc (.cells #[.int .i64 0, .int .i64 0, .int .i64 0, .int .i64 0, .int .i64 0, .int .i64 0, .int .i64 0, .int .i64 0, .int .i64 0, .int .i64 0, .int .i64 0, .map none] 64) := ⟨_, rfl⟩
  have H0 : Hid (Zr w w.heap.size W) := by
    refine ⟨.inr ⟨_, rfl, ?_⟩, by rw [hW]; exact (Below.refl _ _).alloc (Nat.le_refl _) _⟩
    rw [hW]; exact cell_of_row _ _ 11 _ _ _ (heap_alloc_new w _)
  go_enter Try.func6, Try.ntmps6
  go_wp2_with fail
  rw [← hW]
  clear hW
  refine (at_no W _ (HN.out W) 1 t).mono ?_
  rintro e W1 ⟨rfl, hb⟩
  have H1 := H0.out.step hb
  clear hb H0
  go_upto_region 4 with fail
  have H2 : Hid (Zr w w.heap.size (W1.alloc (.cells #[.int .i64 0, .int .i64 0] 39))) := H1.step (Go.Joins.below_alloc1 _ _)
  generalize W1.alloc (.cells #[.int .i64 0, .int .i64 0] 39) = W2 at *
  generalize W1.heap.size = q at *
  clear H1
  go_wp2_with fail
  refine (most_no W2 _ H2.out.no 1 t).mono ?_
  rintro e W3 ⟨rfl, hb⟩
  have H3 : Hid (Zr w w.heap.size W3) := H2.out.step hb
  clear hb H2
  go_wp2_with fail
  refine (clear_no W3 _ (HN.out W3)).mono ?_
  rintro e W4 ⟨rfl, rfl⟩
  go_wp2_with fail
  refine (clear_no W4 _ H3.out.no).mono ?_
  rintro e W5 ⟨rfl, rfl⟩
  go_wp2_with fail
  refine (put_no W5 _ (HN.out W5) 1 0 0 t).mono ?_
  rintro e W6 ⟨rfl, hb⟩
  have H6 : Hid (Zr w w.heap.size W6) := H3.out.step hb
  clear hb H3
  go_wp2_with fail
  refine (put_no W6 _ H6.out.no 1 0 0 t).mono ?_
  rintro e W7 ⟨rfl, hb⟩
  have H7 : Hid (Zr w w.heap.size W7) := H6.out.step hb
  clear hb H6
  go_wp2_with fail
  refine (fresh_no W7 _ (HN.out W7) t).mono ?_
  rintro e W8 ⟨⟨a, c, rfl⟩, hb⟩
  have H8 : Hid (Zr w w.heap.size W8) := H7.out.step hb
  clear hb H7
  go_wp2_with fail
  refine (near_no W8 _ H8.out.no t).mono ?_
  rintro e W9 ⟨rfl, hb⟩
  have H9 : Hid (Zr w w.heap.size W9) := H8.out.step hb
  clear hb H8
  go_wp2_with fail
  refine (offs_no W9 _ H9.out.no t).mono ?_
  rintro e Wa ⟨⟨a2, c2, rfl⟩, hb⟩
  have Ha : Hid (Zr w w.heap.size Wa) := H9.out.step hb
  clear hb H9
  go_wp2
  go_ret
  exact ⟨rfl, Ha.out.bel⟩
end Go.Proofs.Ytoibndfiolipbaa
