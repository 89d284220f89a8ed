/-
  The walk of BankZero.
-/
import Derived.Test.YtgnllmcgebonpaaBankA
namespace Go.Proofs.Ytgnllmcgebonpaa
open Go.ChangeShapes Go.WideShapes Go.ChangeAt Go.RowKit

set_option maxHeartbeats 1600000 in
set_option maxRecDepth 20000 in
theorem zero_walk (a : Option Addr) (ca : Nat) (b : List UInt8) (w : World) (_hs : Sees w a ca b) (_hm : ca ≤ 140737488351232) :
    Calls Try.prog 5 #[.slice a b.length ca] w fun e w' => e = .returned (.bool true) ∧ Below w.heap.size w w' := by
  clear _hs _hm
  obtain ⟨W, hW⟩ : ∃ W, W = w.alloc (.cells #[.pointer none, .int .i64 0, .int .i64 0] 54) := ⟨_, rfl⟩
  have hb : Below w.heap.size w W := by rw [hW]; exact (Below.refl _ _).alloc (Nat.le_refl _) _
  have hN : NoB W (.pointer none) := .inl rfl
  have hG : NoB W (.pointer (some ⟨w.heap.size, 0, none⟩)) := .inr ⟨_, rfl, by rw [hW]; exact cell_of_row _ _ 0 _ _ _ (heap_alloc_new w _)⟩
  go_enter Try.func5, Try.ntmps5
  go_wp2_with fail
  rw [← hW]
  clear hW
  refine (load_no W _ hN).mono ?_
  rintro e w1 ⟨rfl, b1⟩
  replace hb := hb.trans (b1.mono hb.size)
  replace hN := hN.below b1
  replace hG := hG.below b1
  clear b1
  go_wp2_with fail
  refine (load_no w1 _ hG).mono ?_
  rintro e w2 ⟨rfl, b1⟩
  replace hb := hb.trans (b1.mono hb.size)
  replace hN := hN.below b1
  replace hG := hG.below b1
  clear b1
  go_wp2_with fail
  refine (bnew_no w2 _ (.inl rfl) 0 4).mono ?_
  rintro e w3 ⟨rfl, rfl⟩
  go_wp2_with fail
  refine (save_no w3 _ hN a b.length ca).mono ?_
  rintro e w4 ⟨rfl, rfl⟩
  go_wp2_with fail
  refine (save_no w4 _ hG a b.length ca).mono ?_
  rintro e w5 ⟨rfl, rfl⟩
  go_wp2_with fail
  refine (number_no w5 _ hN).mono ?_
  rintro e w6 ⟨rfl, b1⟩
  replace hb := hb.trans (b1.mono hb.size)
  replace hN := hN.below b1
  replace hG := hG.below b1
  clear b1
  go_wp2_with fail
  refine (size_no w6 _ hG).mono ?_
  rintro e w7 ⟨rfl, rfl⟩
  go_wp2_with fail
  refine (fresh_no w7 _ hN).mono ?_
  rintro e w8 ⟨rfl, rfl⟩
  go_wp2_with fail
  refine (fresh_no w8 _ hG).mono ?_
  rintro e w9 ⟨rfl, rfl⟩
  go_wp2
  go_ret
  exact ⟨rfl, hb⟩
end Go.Proofs.Ytgnllmcgebonpaa
