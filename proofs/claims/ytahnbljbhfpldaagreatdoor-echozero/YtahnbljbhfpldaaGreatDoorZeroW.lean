/-
  The walk of EchoZero.
-/
import Derived.Test.YtahnbljbhfpldaaGreatDoorPeZ
namespace Go.Proofs.YtahnbljbhfpldaaGreatDoor
open Go.ChangeShapes Go.WideShapes Go.ChangeAt Go.RowKit
set_option maxRecDepth 20000

set_option maxHeartbeats 3200000 in
theorem ezero_walk (a : Option Addr) (ca : Nat) (own : List UInt8) (w : World) (_hTab : FTab w ∧ KTab w) (_ha : Sees w a ca own) (_ : ca ≤ 140737488351232) :
    Calls Tryz.prog 7 #[.slice a own.length ca] w fun e w' => e = .returned (.bool true) ∧ Below w.heap.size w w' := by
  obtain ⟨W, hW⟩ : ∃ W, W = w.alloc (.cells #[.int .i64 0, .int .i64 0, .int .i64 0, .int .i64 0, .int .i64 0, .int .i64 0, .int .i64 0, .int .i64 0, .int .i64 0, .int .i64 0, .slice none 0 0, .int .i64 0, .int .i64 0, .int .u32 0, .int .u64 0, .int .i64 0, .int .u64 0, .int .i64 0, .int .u64 0, .int .i64 0, .int .u64 0, .int .i64 0, .int .u64 0, .int .i64 0, .int .u64 0, .int .i64 0, .int .u64 0, .int .i64 0, .int .u64 0, .int .i64 0] 82) := ⟨_, rfl⟩
  have hb : Below w.heap.size w W := by rw [hW]; exact (Below.refl _ _).alloc (Nat.le_refl _) _
  have hG : NoE W (.pointer (some ⟨w.heap.size, 0, none⟩)) := .inr ⟨_, rfl, by rw [hW]; exact cell_of_row _ _ 10 _ _ _ (heap_alloc_new w _)⟩
  have HW : Hid (W = w.alloc (.cells #[.int .i64 0, .int .i64 0, .int .i64 0, .int .i64 0, .int .i64 0, .int .i64 0, .int .i64 0, .int .i64 0, .int .i64 0, .int .i64 0, .slice none 0 0, .int .i64 0, .int .i64 0, .int .u32 0, .int .u64 0, .int .i64 0, .int .u64 0, .int .i64 0, .int .u64 0, .int .i64 0, .int .u64 0, .int .i64 0, .int .u64 0, .int .i64 0, .int .u64 0, .int .i64 0, .int .u64 0, .int .i64 0, .int .u64 0, .int .i64 0] 82)) := hW
  have H0 : Hid (Below w.heap.size w W) := hb
  have HN : Hid (∀ V : World, NoE V (.pointer none)) := fun _ => .inl rfl
  have HG0 : Hid (NoE W (.pointer (some ⟨w.heap.size, 0, none⟩))) := hG
  obtain ⟨m, hm⟩ : ∃ m, m = own.length := ⟨_, rfl⟩
  rw [← hm]
  clear _ha _hTab hW hb hG hm
  go_enter Tryz.func7, Tryz.ntmps7
  go_wp2_with fail
  rw [← HW.out]
  refine (peask_zero W _ (HN.out _) 1 1).mono ?_
  rintro e w1 ⟨rfl, hw1⟩
  rw [hw1]
  clear hw1 w1
  go_wp2_with fail
  refine (peopen_zero W _ HG0.out a m ca).mono ?_
  rintro e w2 ⟨A1, rfl, hs2, hb2⟩
  obtain ⟨W2, hst2, _, _, hb3⟩ := pfr_laid hs2
  have HST2 : Hid ((Instr.storeAt 40 (.pointer (some ⟨w2.heap.size, 0, none⟩)) (.agg (frC Fr.zero A1))).run Tryz.prog (w2.alloc (.cells (frC Fr.zero At.zero) 40)) = .ok () W2) := hst2
  have H2 : Hid (Below W.heap.size W W2) := hb2.trans (hb3.mono hb2.size)
  have HB2 : Hid ((Instr.build 40 #[]).run Tryz.prog W2 = .ok (.agg (frC Fr.zero At.zero)) W2) := build_zero _
  clear hs2 hb2 hst2 hb3
  go_wp2_with (first | (refine wpList_build_run rfl 40 _ rfl [] _ rfl HB2.out ?_) | (refine wpList_store_run rfl 40 _ _ rfl _ _ rfl rfl HST2.out ?_) | fail)
  refine (pereply_zero W2 _ (HN.out _) Fr.zero At.zero 0 0 0 0 a m ca).mono ?_
  rintro e w3 ⟨rfl, hb3⟩
  have H3 : Hid (Below W.heap.size W w3) := H2.out.trans (hb3.mono H2.out.size)
  have HB3 : Hid ((Instr.build 40 #[]).run Tryz.prog w3 = .ok (.agg (frC Fr.zero At.zero)) w3) := build_zero _
  clear hb3 HB2 HST2
  go_wp2_with (first | (refine wpList_build_run rfl 40 _ rfl [] _ rfl HB3.out ?_) | fail)
  refine (pehear_zero w3 _ (HG0.out.below H3.out) Fr.zero At.zero 0).mono ?_
  rintro e w4 ⟨d, cd, rfl, hs4, hb4⟩
  obtain ⟨W4, hst4, _, _, hb5⟩ := pn_laid hs4
  have HST4 : Hid ((Instr.storeAt 51 (.pointer (some ⟨w4.heap.size, 0, none⟩)) (.agg (anC An.zero d cd))).run Tryz.prog (w4.alloc (.cells (anC An.zero none 0) 51)) = .ok () W4) := hst4
  have H4 : Hid (Below W.heap.size W W4) := H3.out.trans ((hb4.trans (hb5.mono hb4.size)).mono H3.out.size)
  clear hs4 hb4 hst4 hb5 HB3
  go_wp2_with (first | (refine wpList_store_run rfl 51 _ _ rfl _ _ rfl rfl HST4.out ?_) | fail)
  refine (peforget_no W4 _ (emade_no W4 _ (HN.out _))).mono ?_
  rintro e w5 ⟨rfl, hw5⟩
  rw [hw5]
  clear hw5 w5
  go_wp2_with fail
  refine (peforget_no W4 _ (emade_no W4 _ (HG0.out.below H4.out))).mono ?_
  rintro e w5 ⟨rfl, hw5⟩
  rw [hw5]
  clear hw5 w5
  go_wp2_with fail
  refine (peasked_no W4 _ 1 (emade_no W4 _ (HN.out _))).mono ?_
  rintro e w5 ⟨rfl, hw5⟩
  rw [hw5]
  clear hw5 w5
  go_wp2_with fail
  refine (peasked_no W4 _ 1 (emade_no W4 _ (HG0.out.below H4.out))).mono ?_
  rintro e w5 ⟨rfl, hw5⟩
  rw [hw5]
  clear hw5 w5
  have HE : Hid (Below w.heap.size w W4) := H0.out.trans (H4.out.mono H0.out.size)
  go_wp2
  go_ret
  exact ⟨by simp, HE.out⟩
end Go.Proofs.YtahnbljbhfpldaaGreatDoor
