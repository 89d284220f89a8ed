/-
  The contracts of seal.sealed and Seal; awake.
  The document's Tag, Seal and Holds.
-/
import Derived.Test.YtahnbljbhfpldaaGreatDoorSealA
namespace Go.Proofs.YtahnbljbhfpldaaGreatDoor
open Go.ChangeShapes Go.WideShapes Go.ChangeAt Go.RowKit
set_option maxRecDepth 20000
theorem seal_right (key : List UInt8) (F : Fr) (hb : tagB key F = true) : rightB (sealF key F) = true := by
  have h := ((tagB_iff key F).1 hb).2
  unfold rightB
  rw [show coreB (sealF key F) = coreB F from rfl, h]
  simp [sealF, tagL_length]
theorem seal_told {w w' : World} {key : List UInt8} {F : Fr} {d : Option Addr} {cd : Nat} {r : List UInt8} (hb : tagB key F = true) (hr : r = putL (sealF key F)) (hs : Sees w' d cd r) (hw : Below w.heap.size w w') :
    FTells w w' (.returned (.tuple #[.slice d r.length cd, .int .i64 0])) (sealR key F) (tagE key F) := by
  unfold sealR tagE
  rw [if_pos hb, if_pos hb, ← hr]
  exact ⟨d, cd, rfl, hs, hw⟩
theorem seal_none {w w' : World} {key : List UInt8} {F : Fr} (hb : tagB key F = false) (hw : Below w.heap.size w w') : FTells w w' (.returned (.tuple #[.slice none 0 0, .int .i64 1])) (sealR key F) (tagE key F) := by
  unfold sealR tagE
  rw [if_neg (by rw [hb]; decide), if_neg (by rw [hb]; decide)]
  exact ⟨none, 0, rfl, Sees.nil' _, hw⟩
theorem tag_put {w W : World} {g : Nat} {F : Fr} {A : At} {d : Option Addr} {cd : Nat} {r : List UInt8} (h : FrAt W g F A) (hF : Seen W F A) (hs : Sees W d cd r) (hg : w.heap.size ≤ g) (hb : Below w.heap.size w W)
    (hav : ∀ x c (l : List UInt8), Sees W x c l → Sees (W.setCell ⟨g, 12, none⟩ (.slice d r.length cd)) x c l) :
    FrAt (W.setCell ⟨g, 12, none⟩ (.slice d r.length cd)) g { F with tag := r } { A with ta := d, tc := cd } ∧ Seen (W.setCell ⟨g, 12, none⟩ (.slice d r.length cd)) { F with tag := r } { A with ta := d, tc := cd } ∧
      Below w.heap.size w (W.setCell ⟨g, 12, none⟩ (.slice d r.length cd)) :=
  ⟨h.put 12 _ rfl, ⟨hav _ _ _ hF.key, hav _ _ _ hF.body, hav _ _ _ hs⟩, hb.setCell (p := ⟨g, 12, none⟩) hg _⟩
theorem sees_put {W : World} {g : Nat} {F : Fr} {A : At} (h : FrAt W g F A) (i : Nat) (u : Value) {x : Option Addr} {c : Nat} {l : List UInt8} (hs : Sees W x c l) : Sees (W.setCell ⟨g, i, none⟩ u) x c l :=
  ⟨hs.fits, hs.room, hs.bare, fun hne => by
    obtain ⟨b, off, hx, hc⟩ := hs.at' hne
    refine ⟨b, off, hx, fun j y hy => ?_⟩
    have h1 := hc j y hy
    have hbg : b ≠ g := by
      rintro rfl
      rw [cell_of_row W _ (off + j) _ _ _ h] at h1
      have h2 : (frL F A)[off + j]? = some (cellOf y) := by simpa [frC, cellOf] using h1
      have hm := List.mem_of_getElem? h2
      simp [frL, cellOf] at hm
    rw [World.cell?_setCell_far _ _ _ _ (fun h => hbg h.symm)]
    exact h1⟩
set_option maxHeartbeats 1600000 in
set_option maxRecDepth 20000 in
theorem sealed_no (w : World) (F : Fr) (A : At) (k : Option Addr) (ck : Nat) (key : List UInt8) (hT : Tabs w) (hF : Seen w F A) (hk : Sees w k ck key) (hb : tagB key F = false) :
    Calls Tryz.prog 89 #[.agg (frC F A), .slice k key.length ck] w fun e w' => ∃ s, e = .returned (.tuple #[.slice none 0 0, refV s 1]) ∧ Below w.heap.size w w' := by
  have hb0 : Below w.heap.size w (w.alloc (.cells (frC F A) 40)) := Go.Joins.below_alloc1 _ _
  have H0 : Hid (Below w.heap.size w (w.alloc (.cells (frC F A) 40))) := hb0
  have HL : Hid ((Instr.loadAt 40 (.pointer (some ⟨w.heap.size, 0, none⟩))).run Tryz.prog (w.alloc (.cells (frC F A) 40)) = .ok (.agg (frC F A)) (w.alloc (.cells (frC F A) 40))) := (FrAt.new w F A).loads
  have hm := tagOf_no (w.alloc (.cells (frC F A) 40)) F A k ck key (hT.below hb0) (hF.below hb0) (hk.below hb0) hb
  unfold refV at hm
  clear hb0 hT hF hk hb
  go_enter Tryz.func89, Tryz.ntmps89
  go_upto_region 1 with fail
  generalize w.alloc (Obj.cells (frC F A) 40) = W0 at *
  go_wp2_with (first | (refine wpList_gload_run rfl 40 _ rfl _ _ rfl HL.out ?_) | fail)
  refine hm.mono ?_
  rintro e w1 ⟨s, rfl, hb1⟩
  have H1 : Hid (Below w.heap.size w w1) := H0.out.trans (hb1.mono H0.out.size)
  clear hm hb1 H0 HL
  go_wp2
  go_ret2
  exact ⟨s, rfl, H1.out⟩
set_option maxHeartbeats 1600000 in
set_option maxRecDepth 20000 in
theorem sealed_yes (w : World) (F : Fr) (A : At) (k : Option Addr) (ck : Nat) (key : List UInt8) (hT : Tabs w) (hF : Seen w F A) (hn : F.n < 18446744073709551616) (hk : Sees w k ck key) (hb : tagB key F = true) :
    Calls Tryz.prog 89 #[.agg (frC F A), .slice k key.length ck] w fun e w' => ∃ d cd r, Hid (r = putL (sealF key F)) ∧ e = .returned (.tuple #[.slice d r.length cd, .nilIface]) ∧ Sees w' d cd r ∧ Below w.heap.size w w' := by
  have hb0 : Below w.heap.size w (w.alloc (.cells (frC F A) 40)) := Go.Joins.below_alloc1 _ _
  have H0 : Hid (FrAt (w.alloc (.cells (frC F A) 40)) w.heap.size F A ∧ Seen (w.alloc (.cells (frC F A) 40)) F A ∧ Below w.heap.size w (w.alloc (.cells (frC F A) 40))) := ⟨FrAt.new w F A, hF.below hb0, hb0⟩
  have HL : Hid ((Instr.loadAt 40 (.pointer (some ⟨w.heap.size, 0, none⟩))).run Tryz.prog (w.alloc (.cells (frC F A) 40)) = .ok (.agg (frC F A)) (w.alloc (.cells (frC F A) 40))) := (FrAt.new w F A).loads
  have h2 := (tagB_iff key F).1 hb
  have hm := tagOf_yes (w.alloc (.cells (frC F A) 40)) F A k ck key (hT.below hb0) (hF.below hb0) hn (hk.below hb0) h2.1 h2.2
  have HN : Hid (F.n < 18446744073709551616 ∧ rightB (sealF key F) = true) := ⟨hn, seal_right key F hb⟩
  clear hb0 hT hF hk hn hb h2
  go_enter Tryz.func89, Tryz.ntmps89
  go_upto_region 1 with fail
  generalize w.alloc (Obj.cells (frC F A) 40) = W0 at *
  go_wp2_with (first | (refine wpList_gload_run rfl 40 _ rfl _ _ rfl HL.out ?_) | fail)
  refine hm.mono ?_
  rintro e w1 ⟨d1, c1, r1, hr1, rfl, hl1, hs1, hb1⟩
  have hb1w : Below w.heap.size w w1 := H0.out.2.2.trans (hb1.mono H0.out.2.2.size)
  have h1 := H0.out.1.below hb1
  have c12 := h1.c12
  have z12 := h1.fz 12
  obtain ⟨k1, k2, k3⟩ := tag_put (w := w) h1 (H0.out.2.1.below hb1) hs1 (Nat.le_refl _) hb1w (fun _ _ _ hs => sees_put h1 12 _ hs)
  rw [hl1] at k1 k2 k3
  obtain ⟨V, hV⟩ : ∃ V, V = w1.setCell ⟨w.heap.size, 12, none⟩ (.slice d1 8 c1) := ⟨_, rfl⟩
  rw [← hV] at k1 k2 k3
  have eG : ({ F with tag := r1 } : Fr) = sealF key F := by unfold sealF; rw [hr1.out]
  rw [eG] at k1 k2
  obtain ⟨A2, hA2⟩ : ∃ A2 : At, A2 = { A with ta := d1, tc := c1 } := ⟨_, rfl⟩
  rw [← hA2] at k1 k2
  have hp := put_yes V (sealF key F) A2 k2 HN.out.1 HN.out.2
  obtain ⟨G, hG⟩ : ∃ G, sealF key F = G := ⟨_, rfl⟩
  rw [hG] at hp k1
  have HG : Hid (sealF key F = G) := hG
  have HLV : Hid ((Instr.loadAt 40 (.pointer (some ⟨w.heap.size, 0, none⟩))).run Tryz.prog V = .ok (.agg (frC G A2)) V) := k1.loads
  have HV : Hid (V = w1.setCell ⟨w.heap.size, 12, none⟩ (.slice d1 8 c1)) := hV
  have HB : Hid (Below w.heap.size w V) := k3
  obtain ⟨tn, htn⟩ : ∃ tn, tn = F.tag.length := ⟨_, rfl⟩
  rw [← htn] at c12
  clear hm hr1 hl1 hs1 hb1 hb1w h1 H0 HL k1 k2 k3 hV hA2 eG HN htn hG
  go_upto_region 5 with fail
  clear c12 z12
  rw [← HV.out]
  clear HV
  go_wp2_with (first | (refine wpList_gload_run rfl 40 _ rfl _ _ rfl HLV.out ?_) | fail)
  refine hp.mono ?_
  rintro e w2 ⟨d2, c2, r2, hr2, rfl, hs2, hb2, _⟩
  have H2 : Hid (Hid (r2 = putL (sealF key F)) ∧ Sees w2 d2 c2 r2 ∧ Below w.heap.size w w2) := ⟨by rw [HG.out]; exact hr2, hs2, HB.out.trans (hb2.mono HB.out.size)⟩
  clear hp hr2 hs2 hb2 HB HLV
  go_wp2_with fail
  refine (refuse_none _ w2).mono ?_
  rintro e w4 ⟨rfl, rfl⟩
  go_wp2
  go_ret2
  exact ⟨d2, c2, r2, H2.out.1, rfl, H2.out.2⟩
set_option maxHeartbeats 1600000 in
set_option maxRecDepth 20000 in
theorem seal_any (w : World) (F : Fr) (A : At) (k : Option Addr) (ck : Nat) (key : List UInt8) (hT : Tabs w) (hF : Seen w F A) (hn : F.n < 18446744073709551616) (hk : Sees w k ck key) :
    Calls Tryz.prog 61 #[.agg (frC F A), .slice k key.length ck] w fun e w' => FTells w w' e (sealR key F) (tagE key F) := by
  have hb0 : Below w.heap.size w (w.alloc (.cells (frC F A) 40)) := Go.Joins.below_alloc1 _ _
  have H0 : Hid (Below w.heap.size w (w.alloc (.cells (frC F A) 40))) := hb0
  have HL : Hid ((Instr.loadAt 40 (.pointer (some ⟨w.heap.size, 0, none⟩))).run Tryz.prog (w.alloc (.cells (frC F A) 40)) = .ok (.agg (frC F A)) (w.alloc (.cells (frC F A) 40))) := (FrAt.new w F A).loads
  obtain ⟨b, hb⟩ : ∃ b, tagB key F = b := ⟨_, rfl⟩
  cases b
  · have hm := sealed_no (w.alloc (.cells (frC F A) 40)) F A k ck key (hT.below hb0) (hF.below hb0) (hk.below hb0) hb
    have HB : Hid (tagB key F = false) := hb
    clear hb0 hT hF hn hk hb
    go_enter Tryz.func61, Tryz.ntmps61
    go_upto_region 1 with fail
    generalize w.alloc (Obj.cells (frC F A) 40) = W0 at *
    go_wp2_with (first | (refine wpList_gload_run rfl 40 _ rfl _ _ rfl HL.out ?_) | fail)
    refine hm.mono ?_
    rintro e w1 ⟨s, rfl, hb1⟩
    have H1 : Hid (Below w.heap.size w w1) := H0.out.trans (hb1.mono H0.out.size)
    have hnu : Calls Tryz.prog 90 #[refV s 1] w1 _ := number_some s 1 (by decide) (by decide) w1
    clear hm hb1 H0 HL
    go_wp2_with fail
    refine hnu.mono ?_
    rintro e w2 ⟨rfl, hb2⟩
    have H2 : Hid (Below w.heap.size w w2) := H1.out.trans (hb2.mono H1.out.size)
    clear hnu hb2 H1
    go_wp2
    go_ret2
    exact seal_none HB.out H2.out
  · have hm := sealed_yes (w.alloc (.cells (frC F A) 40)) F A k ck key (hT.below hb0) (hF.below hb0) hn (hk.below hb0) hb
    have HB : Hid (tagB key F = true) := hb
    clear hb0 hT hF hn hk hb
    go_enter Tryz.func61, Tryz.ntmps61
    go_upto_region 1 with fail
    generalize w.alloc (Obj.cells (frC F A) 40) = W0 at *
    go_wp2_with (first | (refine wpList_gload_run rfl 40 _ rfl _ _ rfl HL.out ?_) | fail)
    refine hm.mono ?_
    rintro e w1 ⟨d1, c1, r1, hr1, rfl, hs1, hb1⟩
    have H1 : Hid (r1 = putL (sealF key F) ∧ Sees w1 d1 c1 r1 ∧ Below w.heap.size w w1) := ⟨hr1.out, hs1, H0.out.trans (hb1.mono H0.out.size)⟩
    clear hm hr1 hs1 hb1 H0 HL
    go_wp2_with fail
    refine (number_none w1).mono ?_
    rintro e w2 ⟨rfl, rfl⟩
    go_wp2
    go_ret2
    exact seal_told HB.out H1.out.1 H1.out.2.1 H1.out.2.2
end Go.Proofs.YtahnbljbhfpldaaGreatDoor
