/-
  The contracts of seal.Tag, held, Holds, sealed and Seal.
-/
import Derived.Test.YtaihjnaggmmiiaaGreatDoorSealTag
import Derived.Test.YtaihjnaggmmiiaaGreatDoorSame
namespace Go.Proofs.YtaihjnaggmmiiaaGreatDoor
open Go.ChangeShapes Go.WideShapes Go.ChangeAt Go.RowKit

theorem tag_told {w w' : World} {key : List UInt8} {F : Fr} {d : Option Addr} {cd : Nat} {r : List UInt8} (hb : tagB key F = true) (hr : r = tagL key F) (hs : Sees w' d cd r) (hw : Below w.heap.size w w') :
    FTells w w' (.returned (.tuple #[.slice d 8 cd, .int .i64 0])) (tagR key F) (tagE key F) := by
  unfold tagR tagE
  rw [if_pos hb, if_pos hb, ← hr]
  exact ⟨d, cd, by rw [hr, tagL_length], hs, hw⟩
theorem tag_none {w w' : World} {key : List UInt8} {F : Fr} (hb : tagB key F = false) (hw : Below w.heap.size w w') : FTells w w' (.returned (.tuple #[.slice none 0 0, .int .i64 1])) (tagR key F) (tagE key F) := by
  unfold tagR tagE
  rw [if_neg (by rw [hb]; decide), if_neg (by rw [hb]; decide)]
  exact ⟨none, 0, rfl, Sees.nil' _, hw⟩

set_option maxHeartbeats 1600000 in
set_option maxRecDepth 20000 in
theorem stag_any (w : World) (F : Fr) (A : At) (k : Option Addr) (ck : Nat) (key : List UInt8) (hT : Tabs w) (hF : Seen w F A) (hn : F.n < 18446744073709551616) (hk : Sees w k ck key) :
    Calls Tryz.prog 7 #[.agg (frC F A), .slice k key.length ck] w fun e w' => FTells w w' e (tagR key F) (tagE key F) := by
  have hb0 : Below w.heap.size w (w.alloc (.cells (frC F A) 25)) := Go.Joins.below_alloc1 _ _
  have H0 : Hid (Below w.heap.size w (w.alloc (.cells (frC F A) 25))) := hb0
  have HL : Hid ((Instr.loadAt 25 (.pointer (some ⟨w.heap.size, 0, none⟩))).run Tryz.prog (w.alloc (.cells (frC F A) 25)) = .ok (.agg (frC F A)) (w.alloc (.cells (frC F A) 25))) := (FrAt.new w F A).loads
  obtain ⟨b, hb⟩ : ∃ b, tagB key F = b := ⟨_, rfl⟩
  cases b
  · have hm := tagOf_no (w.alloc (.cells (frC F A) 25)) F A k ck key (hT.below hb0) (hF.below hb0) (hk.below hb0) hb
    have HB : Hid (tagB key F = false) := hb
    clear hb0 hT hF hn hk hb
    go_enter Tryz.func7, Tryz.ntmps7
    go_upto_region 1 with fail
    generalize w.alloc (Obj.cells (frC F A) 25) = W0 at *
    go_wp2_with (first | (refine wpList_gload_run rfl 25 _ rfl _ _ rfl HL.out ?_) | fail)
    refine hm.mono ?_
    rintro e w1 ⟨s, rfl, hb1⟩
    have H1 : Hid (Below w.heap.size w w1) := H0.out.trans (hb1.mono H0.out.size)
    have hnu : Calls Tryz.prog 20 #[refV s 1] w1 _ := number_some s 1 (by decide) (by decide) w1
    clear hm hb1 H0 HL
    go_wp2_with fail
    refine hnu.mono ?_
    rintro e w2 ⟨rfl, hb2⟩
    have H2 : Hid (Below w.heap.size w w2) := H1.out.trans (hb2.mono H1.out.size)
    clear hnu hb2 H1
    go_wp2
    go_ret2
    exact tag_none HB.out H2.out
  · have h2 := (tagB_iff key F).1 hb
    have hm := tagOf_yes (w.alloc (.cells (frC F A) 25)) F A k ck key (hT.below hb0) (hF.below hb0) hn (hk.below hb0) h2.1 h2.2
    have HB : Hid (tagB key F = true) := hb
    clear hb0 hT hF hn hk hb h2
    go_enter Tryz.func7, Tryz.ntmps7
    go_upto_region 1 with fail
    generalize w.alloc (Obj.cells (frC F A) 25) = W0 at *
    go_wp2_with (first | (refine wpList_gload_run rfl 25 _ rfl _ _ rfl HL.out ?_) | fail)
    refine hm.mono ?_
    rintro e w1 ⟨d1, c1, r1, hr1, rfl, hl1, hs1, hb1⟩
    have H1 : Hid (r1 = tagL key F ∧ Sees w1 d1 c1 r1 ∧ Below w.heap.size w w1) := ⟨hr1.out, hs1, H0.out.trans (hb1.mono H0.out.size)⟩
    clear hm hr1 hl1 hs1 hb1 H0 HL
    go_wp2_with fail
    refine (number_none w1).mono ?_
    rintro e w2 ⟨rfl, rfl⟩
    go_wp2
    go_ret2
    exact tag_told HB.out H1.out.1 H1.out.2.1 H1.out.2.2

/-- What held tells. -/
def HeldIs (b : Bool) (e : Ending) : Prop := (b = true → e = .returned .nilIface) ∧ (b = false → ∃ s, e = .returned (refV s 13))

set_option maxHeartbeats 1600000 in
set_option maxRecDepth 20000 in
theorem held_none (w : World) (F : Fr) (A : At) (k : Option Addr) (ck : Nat) (key : List UInt8) (hT : Tabs w) (hF : Seen w F A) (hk : Sees w k ck key) (hb : tagB key F = false) :
    Calls Tryz.prog 26 #[.agg (frC F A), .slice k key.length ck] w fun e w' => ∃ s, e = .returned (refV s 13) ∧ Below w.heap.size w w' := by
  have hb0 : Below w.heap.size w (w.alloc (.cells (frC F A) 25)) := Go.Joins.below_alloc1 _ _
  have H0 : Hid (Below w.heap.size w (w.alloc (.cells (frC F A) 25))) := hb0
  have HL : Hid ((Instr.loadAt 25 (.pointer (some ⟨w.heap.size, 0, none⟩))).run Tryz.prog (w.alloc (.cells (frC F A) 25)) = .ok (.agg (frC F A)) (w.alloc (.cells (frC F A) 25))) := (FrAt.new w F A).loads
  have hm := tagOf_no (w.alloc (.cells (frC F A) 25)) F A k ck key (hT.below hb0) (hF.below hb0) (hk.below hb0) hb
  unfold refV at hm
  clear hb0 hT hF hk hb
  go_enter Tryz.func26, Tryz.ntmps26
  go_upto_region 1 with fail
  generalize w.alloc (Obj.cells (frC F A) 25) = W0 at *
  go_wp2_with (first | (refine wpList_gload_run rfl 25 _ rfl _ _ rfl HL.out ?_) | fail)
  refine hm.mono ?_
  rintro e w1 ⟨s, rfl, hb1⟩
  have H1 : Hid (Below w.heap.size w w1) := H0.out.trans (hb1.mono H0.out.size)
  clear hm hb1 H0 HL
  go_wp2_with fail
  refine (refuse_some _ 13 (by decide) w1).mono ?_
  rintro e w2 ⟨rfl, rfl⟩
  go_wp2
  go_ret
  exact ⟨_, rfl, H1.out⟩

set_option maxHeartbeats 1600000 in
set_option maxRecDepth 20000 in
theorem held_some (w : World) (F : Fr) (A : At) (k : Option Addr) (ck : Nat) (key : List UInt8) (hT : Tabs w) (hF : Seen w F A) (hn : F.n < 18446744073709551616) (hk : Sees w k ck key) (h16 : key.length = 16) (hc : coreB F = true) (b : Bool) (hb : decide (tagL key F = F.tag) = b) :
    Calls Tryz.prog 26 #[.agg (frC F A), .slice k key.length ck] w fun e w' => HeldIs b e ∧ Below w.heap.size w w' := by
  have hb0 : Below w.heap.size w (w.alloc (.cells (frC F A) 25)) := Go.Joins.below_alloc1 _ _
  have H0 : Hid (FrAt (w.alloc (.cells (frC F A) 25)) w.heap.size F A ∧ Seen (w.alloc (.cells (frC F A) 25)) F A ∧ Below w.heap.size w (w.alloc (.cells (frC F A) 25))) := ⟨FrAt.new w F A, hF.below hb0, hb0⟩
  have HL : Hid ((Instr.loadAt 25 (.pointer (some ⟨w.heap.size, 0, none⟩))).run Tryz.prog (w.alloc (.cells (frC F A) 25)) = .ok (.agg (frC F A)) (w.alloc (.cells (frC F A) 25))) := (FrAt.new w F A).loads
  have hm := tagOf_yes (w.alloc (.cells (frC F A) 25)) F A k ck key (hT.below hb0) (hF.below hb0) hn (hk.below hb0) h16 hc
  have HB : Hid (decide (tagL key F = F.tag) = b) := hb
  clear hb0 hT hF hk hn hc h16 hb
  go_enter Tryz.func26, Tryz.ntmps26
  go_upto_region 1 with fail
  generalize w.alloc (Obj.cells (frC F A) 25) = W0 at *
  go_wp2_with (first | (refine wpList_gload_run rfl 25 _ rfl _ _ rfl HL.out ?_) | fail)
  refine hm.mono ?_
  rintro e w1 ⟨d1, c1, r1, hr1, rfl, hl1, hs1, hb1⟩
  have H1 : Hid (Below w.heap.size w w1) := H0.out.2.2.trans (hb1.mono H0.out.2.2.size)
  have c12 := (H0.out.1.below hb1).c12
  have hsm := same_any w1 d1 A.ta c1 A.tc r1 F.tag hs1 (H0.out.2.1.below hb1).tag
  rw [hl1, hr1.out, HB.out] at hsm
  obtain ⟨tn, htn⟩ : ∃ tn, tn = F.tag.length := ⟨_, rfl⟩
  rw [← htn] at hsm c12
  clear hm hr1 hl1 hs1 hb1 H0 HL HB htn
  go_wp2_with fail
  refine hsm.mono ?_
  rintro e w2 ⟨rfl, rfl⟩
  clear hsm c12
  cases b
  · go_wp2_with fail
    refine (refuse_some _ 13 (by decide) _).mono ?_
    rintro e w2 ⟨rfl, rfl⟩
    go_wp2
    go_ret
    exact ⟨⟨(fun h => by cases h), (fun _ => ⟨_, rfl⟩)⟩, H1.out⟩
  · go_wp2
    go_ret
    exact ⟨⟨(fun _ => rfl), (fun h => by cases h)⟩, H1.out⟩

theorem held_any (w : World) (F : Fr) (A : At) (k : Option Addr) (ck : Nat) (key : List UInt8) (hT : Tabs w) (hF : Seen w F A) (hn : F.n < 18446744073709551616) (hk : Sees w k ck key) (b : Bool) (hb : holdsB key F = b) :
    Calls Tryz.prog 26 #[.agg (frC F A), .slice k key.length ck] w fun e w' => HeldIs b e ∧ Below w.heap.size w w' := by
  obtain ⟨t, ht⟩ : ∃ t, tagB key F = t := ⟨_, rfl⟩
  unfold holdsB at hb
  rw [ht] at hb
  cases t
  · refine (held_none w F A k ck key hT hF hk ht).mono ?_
    rintro e w' ⟨s, he, hw⟩
    have : b = false := by rw [← hb]; rfl
    subst this
    exact ⟨⟨(fun h => by cases h), (fun _ => ⟨s, he⟩)⟩, hw⟩
  · have h2 := (tagB_iff key F).1 ht
    exact held_some w F A k ck key hT hF hn hk h2.1 h2.2 b (by simpa using hb)

set_option maxHeartbeats 1600000 in
set_option maxRecDepth 20000 in
theorem holds_any (w : World) (F : Fr) (A : At) (k : Option Addr) (ck : Nat) (key : List UInt8) (hT : Tabs w) (hF : Seen w F A) (hn : F.n < 18446744073709551616) (hk : Sees w k ck key) (b : Bool) (hb : holdsB key F = b) :
    Calls Tryz.prog 11 #[.agg (frC F A), .slice k key.length ck] w fun e w' => e = .returned (.bool b) ∧ Below w.heap.size w w' := by
  have hb0 : Below w.heap.size w (w.alloc (.cells (frC F A) 25)) := Go.Joins.below_alloc1 _ _
  have H0 : Hid (Below w.heap.size w (w.alloc (.cells (frC F A) 25))) := hb0
  have HL : Hid ((Instr.loadAt 25 (.pointer (some ⟨w.heap.size, 0, none⟩))).run Tryz.prog (w.alloc (.cells (frC F A) 25)) = .ok (.agg (frC F A)) (w.alloc (.cells (frC F A) 25))) := (FrAt.new w F A).loads
  have hm := held_any (w.alloc (.cells (frC F A) 25)) F A k ck key (hT.below hb0) (hF.below hb0) hn (hk.below hb0) b hb
  clear hb0 hT hF hk hn hb
  go_enter Tryz.func11, Tryz.ntmps11
  go_upto_region 1 with fail
  generalize w.alloc (Obj.cells (frC F A) 25) = W0 at *
  go_wp2_with (first | (refine wpList_gload_run rfl 25 _ rfl _ _ rfl HL.out ?_) | fail)
  refine hm.mono ?_
  rintro e w1 ⟨⟨h1, h2⟩, hb1⟩
  have H1 : Hid (Below w.heap.size w w1) := H0.out.trans (hb1.mono H0.out.size)
  clear hm hb1 H0 HL
  cases b
  · obtain ⟨s, rfl⟩ := h2 rfl
    clear h1 h2
    unfold refV
    go_wp2
    go_ret
    exact ⟨rfl, H1.out⟩
  · obtain rfl := h1 rfl
    clear h1 h2
    go_wp2
    go_ret
    exact ⟨rfl, H1.out⟩
end Go.Proofs.YtaihjnaggmmiiaaGreatDoor
