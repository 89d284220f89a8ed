/-
  The walk of RenewZero.
-/
import Derived.Test.YtgncdnejmobjbaaDoorRenX
namespace Go.Proofs.YtgncdnejmobjbaaDoor
open Go.ChangeShapes Go.WideShapes Go.ChangeAt Go.RowKit
set_option maxRecDepth 20000

set_option maxHeartbeats 3200000 in
theorem nzero_walk (a : Option Addr) (ca : Nat) (own : List UInt8) (r : Int) (w : World) (hTab : FTab w ∧ KTab w) (ha : Sees w a ca own) (_ : ca ≤ 140737488351232) (_wr : (Lit.int .i64 r).wf = true) :
    Calls Tryd.prog 5 #[.slice a own.length ca, .int .i64 r] w fun e w' => e = .returned (.bool true) ∧ Below w.heap.size w w' := by
  obtain ⟨W, hW⟩ : ∃ W, W = w.alloc (.cells #[.int .i64 0, .int .i64 0, .int .i64 0, .int .i64 0, .int .i64 0, .int .i64 0, .int .i64 0, .int .i64 0, .int .i64 0, .int .i64 0, .slice none 0 0, .int .i64 0, .int .i64 0, .int .i64 0, .slice none 0 0, .int .i64 0, .int .i64 0, .slice none 0 0, .slice none 0 0] 46) := ⟨_, rfl⟩
  have hb : Below w.heap.size w W := by rw [hW]; exact (Below.refl _ _).alloc (Nat.le_refl _) _
  have hG : NoN W (.pointer (some ⟨w.heap.size, 0, none⟩)) := .inr ⟨_, rfl, by rw [hW]; exact cell_of_row _ _ 10 _ _ _ (heap_alloc_new w _)⟩
  have HW : Hid (W = w.alloc (.cells #[.int .i64 0, .int .i64 0, .int .i64 0, .int .i64 0, .int .i64 0, .int .i64 0, .int .i64 0, .int .i64 0, .int .i64 0, .int .i64 0, .slice none 0 0, .int .i64 0, .int .i64 0, .int .i64 0, .slice none 0 0, .int .i64 0, .int .i64 0, .slice none 0 0, .slice none 0 0] 46)) := hW
  have H0 : Hid (Sees W a ca own ∧ FTab W ∧ KTab W ∧ Below w.heap.size w W) := ⟨ha.below hb, hTab.1.below hb, hTab.2.below hb, hb⟩
  have HN : Hid (∀ V : World, NoN V (.pointer none)) := fun _ => .inl rfl
  have HG0 : Hid (NoN W (.pointer (some ⟨w.heap.size, 0, none⟩))) := hG
  obtain ⟨m, hm⟩ : ∃ m, m = own.length := ⟨_, rfl⟩
  have HM : Hid (m = own.length) := hm
  rw [← hm]
  clear ha hTab hW hb hG hm
  go_enter Tryd.func5, Tryd.ntmps5
  go_wp2_with fail
  rw [← HW.out]
  refine (pmac_no W _ (HN.out _) r).mono ?_
  rintro e w1 ⟨rfl, rfl⟩
  go_wp2_with fail
  refine (ptold_no w1 _ HG0.out r).mono ?_
  rintro e w2 ⟨rfl, rfl⟩
  go_wp2_with fail
  refine (pknown_nil w2 _ (HN.out _) 0).mono ?_
  rintro e w3 ⟨rfl, rfl⟩
  go_wp2_with fail
  refine (usual_ok w3).mono ?_
  rintro e w4 ⟨rfl, hb4⟩
  have H4 : Hid (Sees w4 a ca own ∧ FTab w4 ∧ KTab w4 ∧ Below w.heap.size w w4 ∧ NoN w4 (.pointer (some ⟨w.heap.size, 0, none⟩))) := ⟨H0.out.1.below hb4, H0.out.2.1.below hb4, H0.out.2.2.1.below hb4, H0.out.2.2.2.trans (hb4.mono H0.out.2.2.2.size), HG0.out.below hb4⟩
  clear H0 HG0 hb4
  by_cases h16 : own.length = 16
  · have K := PSolo.new w4 rnC a ca own 0 H4.out.2.1 H4.out.2.2.1 H4.out.1 (rnB_iff.2 ⟨rnC_ok, h16, by decide, by decide⟩)
    rw [← HM.out] at K
    clear h16
    go_wp2_with fail
    refine K.mono ?_
    rintro e w5 ⟨R, rfl, hP⟩
    have HP : Hid (PSolo w4 w5 R (rnNew rnC own 0)) := hP
    clear K hP
    have K1 := HP.out.mac r
    rw [show (rnNew rnC own 0).mac r = (0, [], 5) from if_pos (by show (-1 : Int) < 0; omega)] at K1
    dsimp only at K1
    rw [List.length_nil] at K1
    go_wp2_with fail
    refine K1.mono ?_
    rintro e w6 ⟨d, cd, rfl, _, hP6, _⟩
    have K2 := hP6.epoch
    have K3 := hP6.over r
    rw [show (rnNew rnC own 0).over r = true from by unfold Rn.over; rw [decide_eq_true (show (rnNew rnC own 0).ep < 0 from by show (-1 : Int) < 0; omega)]; rfl] at K3
    rw [show (rnNew rnC own 0).ep = -1 from rfl] at K2
    clear K1 hP6
    go_wp2_with fail
    refine K2.mono ?_
    rintro e w7 ⟨rfl, rfl⟩
    clear K2
    go_wp2_with fail
    refine K3.mono ?_
    rintro e WW ⟨rfl, hP8, _⟩
    have hbl := hP8.at'.2.2.2
    have HG : Hid (NoN WW (.pointer (some ⟨w.heap.size, 0, none⟩))) := H4.out.2.2.2.2.below hbl
    have HBL : Hid (Below w.heap.size w WW) := H4.out.2.2.2.1.trans (hbl.mono H4.out.2.2.2.1.size)
    replace HN : Hid (NoN WW (.pointer none)) := .inl rfl
    clear K3 hP8 hbl
    go_wp2_with fail
    refine (pbegin_no WW _ HN.out 1 1).mono ?_
    rintro e y1 ⟨rfl, rfl⟩
    go_wp2_with fail
    refine (pbegin_no y1 _ HG.out 1 1).mono ?_
    rintro e y2 ⟨rfl, rfl⟩
    go_wp2_with fail
    refine (pover_no y2 _ HN.out r).mono ?_
    rintro e y3 ⟨rfl, hb3⟩
    have HG3 : Hid (NoN y3 (.pointer (some ⟨w.heap.size, 0, none⟩))) := HG.out.below hb3
    have HN3 : Hid (NoN y3 (.pointer none)) := .inl rfl
    have HB3 : Hid (Below w.heap.size w y3) := HBL.out.trans (hb3.mono HBL.out.size)
    clear hb3
    go_wp2_with fail
    refine (pover_no y3 _ HG3.out r).mono ?_
    rintro e y4 ⟨rfl, hb4⟩
    have HG4 : Hid (NoN y4 (.pointer (some ⟨w.heap.size, 0, none⟩))) := HG3.out.below hb4
    have HB4 : Hid (Below w.heap.size w y4) := HB3.out.trans (hb4.mono HB3.out.size)
    clear hb4
    go_wp2_with fail
    refine (nepoch_no y4 _ (.inl rfl)).mono ?_
    rintro e y5 ⟨rfl, rfl⟩
    go_wp2_with fail
    refine (nstart_no y5 _ HG4.out).mono ?_
    rintro e y6 ⟨rfl, rfl⟩
    go_wp2
    go_ret
    exact ⟨rfl, HB4.out⟩
  · have K := pnew_no w4 rnC a ca own 0 (by rw [Bool.eq_false_iff]; intro hh; exact h16 (rnB_iff.1 hh).2.1)
    rw [← HM.out] at K
    clear h16
    go_wp2_with fail
    refine K.mono ?_
    rintro e WW ⟨rfl, hbl⟩
    have HG : Hid (NoN WW (.pointer (some ⟨w.heap.size, 0, none⟩))) := H4.out.2.2.2.2.below hbl
    have HBL : Hid (Below w.heap.size w WW) := H4.out.2.2.2.1.trans (hbl.mono H4.out.2.2.2.1.size)
    replace HN : Hid (NoN WW (.pointer none)) := .inl rfl
    clear K hbl
    go_wp2_with fail
    refine (pbegin_no WW _ HN.out 1 1).mono ?_
    rintro e y1 ⟨rfl, rfl⟩
    go_wp2_with fail
    refine (pbegin_no y1 _ HG.out 1 1).mono ?_
    rintro e y2 ⟨rfl, rfl⟩
    go_wp2_with fail
    refine (pover_no y2 _ HN.out r).mono ?_
    rintro e y3 ⟨rfl, hb3⟩
    have HG3 : Hid (NoN y3 (.pointer (some ⟨w.heap.size, 0, none⟩))) := HG.out.below hb3
    have HN3 : Hid (NoN y3 (.pointer none)) := .inl rfl
    have HB3 : Hid (Below w.heap.size w y3) := HBL.out.trans (hb3.mono HBL.out.size)
    clear hb3
    go_wp2_with fail
    refine (pover_no y3 _ HG3.out r).mono ?_
    rintro e y4 ⟨rfl, hb4⟩
    have HG4 : Hid (NoN y4 (.pointer (some ⟨w.heap.size, 0, none⟩))) := HG3.out.below hb4
    have HB4 : Hid (Below w.heap.size w y4) := HB3.out.trans (hb4.mono HB3.out.size)
    clear hb4
    go_wp2_with fail
    refine (nepoch_no y4 _ (.inl rfl)).mono ?_
    rintro e y5 ⟨rfl, rfl⟩
    go_wp2_with fail
    refine (nstart_no y5 _ HG4.out).mono ?_
    rintro e y6 ⟨rfl, rfl⟩
    go_wp2
    go_ret
    exact ⟨rfl, HB4.out⟩
end Go.Proofs.YtgncdnejmobjbaaDoor
