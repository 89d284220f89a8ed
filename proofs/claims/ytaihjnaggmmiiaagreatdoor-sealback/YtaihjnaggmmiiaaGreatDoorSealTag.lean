/-
  The tag of a frame under a key: what seal.tagOf tells.
-/
import Derived.Test.YtaihjnaggmmiiaaGreatDoorSealErr
import Derived.Test.YtaihjnaggmmiiaaGreatDoorKdfB
import Derived.Test.YtaihjnaggmmiiaaGreatDoorHmacShort
import Derived.Test.YtaihjnaggmmiiaaGreatDoorFrameE
namespace Go.Proofs.YtaihjnaggmmiiaaGreatDoor
open Go.ChangeShapes Go.WideShapes Go.ChangeAt Go.RowKit

/-- The tag of a frame under a key; is there one? -/
def tagL (key : List UInt8) (F : Fr) : List UInt8 := (hmacL (keyOf key macN []) (coreL F)).take 8
def tagB (key : List UInt8) (F : Fr) : Bool := decide (key.length = 16) && coreB F
def tagR (key : List UInt8) (F : Fr) : List UInt8 := if tagB key F = true then tagL key F else []
def tagE (key : List UInt8) (F : Fr) : Int := if tagB key F = true then 0 else 1
/-- The frame with its tag. -/
def sealF (key : List UInt8) (F : Fr) : Fr := { F with tag := tagL key F }
def sealR (key : List UInt8) (F : Fr) : List UInt8 := if tagB key F = true then putL (sealF key F) else []
def holdsB (key : List UInt8) (F : Fr) : Bool := tagB key F && decide (tagL key F = F.tag)

theorem tagL_length (key : List UInt8) (F : Fr) : (tagL key F).length = 8 := by
  unfold tagL; rw [List.length_take, hmacL_length]; rfl
theorem tagB_iff (key : List UInt8) (F : Fr) : tagB key F = true ↔ key.length = 16 ∧ coreB F = true := by unfold tagB; simp
theorem tagB_other (key : List UInt8) (F : Fr) (t : List UInt8) : tagB key { F with tag := t } = tagB key F := rfl
theorem tagL_other (key : List UInt8) (F : Fr) (t : List UInt8) : tagL key { F with tag := t } = tagL key F := rfl
theorem coreL_len (F : Fr) (hn : F.n < 18446744073709551616) (hr : coreB F = true) : (coreL F).length ≤ 43 := by
  have := core_len F hn hr
  unfold coreL; rw [packL_length]; omega
theorem macP_yes (key : List UInt8) (h : key.length = 16) : macP key = (keyOf key macN [], 0) := by
  unfold macP; rw [if_pos h]; exact keyP_ok _ _ _ labels.2.2.2 (by simp) (by omega)
theorem macP_no (key : List UInt8) (h : ¬ key.length = 16) : macP key = ([], 1) := by unfold macP; rw [if_neg h]

/-- Both tables of sha. -/
def Tabs (w : World) : Prop := FTab w ∧ KTab w
theorem Tabs.below {w w' : World} (h : Tabs w) (hb : Below w.heap.size w w') : Tabs w' := ⟨h.1.below hb, h.2.below hb⟩

theorem kmac_yes (w : World) (a : Option Addr) (ca : Nat) (key : List UInt8) (hT : Tabs w) (ha : Sees w a ca key) (h16 : key.length = 16) :
    Calls Tryz.prog 36 #[.slice a key.length ca] w fun e w' => ∃ d cd r, Hid (r = keyOf key macN []) ∧ e = .returned (.tuple #[.slice d r.length cd, .int .i64 0]) ∧ Sees w' d cd r ∧ Below w.heap.size w w' := by
  have h := mac_ok w a ca key hT.1 hT.2 ha
  rw [macP_yes key h16] at h
  exact h.mono fun e w' ⟨d, cd, r, h1, h2, h3, h4⟩ => ⟨d, cd, r, h1, h2, h3, h4⟩
theorem kmac_no (w : World) (a : Option Addr) (ca : Nat) (key : List UInt8) (hT : Tabs w) (ha : Sees w a ca key) (h16 : ¬ key.length = 16) :
    Calls Tryz.prog 36 #[.slice a key.length ca] w fun e w' => ∃ d cd, e = .returned (.tuple #[.slice d 0 cd, .int .i64 1]) ∧ Below w.heap.size w w' := by
  have h := mac_ok w a ca key hT.1 hT.2 ha
  rw [macP_no key h16] at h
  refine h.mono fun e w' ⟨d, cd, r, h1, h2, h3, h4⟩ => ?_
  have hr : r = [] := h1.out
  subst hr
  exact ⟨d, cd, h2, h4⟩
theorem krmac_yes (w : World) (a : Option Addr) (ca : Nat) (key : List UInt8) (ha : Sees w a ca key) (h16 : key.length = 16) :
    Calls Tryz.prog 21 #[.slice a key.length ca] w fun e w' => ∃ d cd r, Hid (r = keyOf key macN []) ∧ e = .returned (.tuple #[.slice d r.length cd, .int .i64 0]) ∧ Sees w' d cd r ∧ Below w.heap.size w w' := by
  have h := rmac_any w a ca key ha
  rw [macP_yes key h16] at h
  exact h.mono fun e w' ⟨d, cd, r, h1, h2, h3, h4⟩ => ⟨d, cd, r, h1, h2, h3, h4⟩
theorem krmac_no (w : World) (a : Option Addr) (ca : Nat) (key : List UInt8) (ha : Sees w a ca key) (h16 : ¬ key.length = 16) :
    Calls Tryz.prog 21 #[.slice a key.length ca] w fun e w' => ∃ d cd, e = .returned (.tuple #[.slice d 0 cd, .int .i64 1]) ∧ Below w.heap.size w w' := by
  have h := rmac_any w a ca key ha
  rw [macP_no key h16] at h
  refine h.mono fun e w' ⟨d, cd, r, h1, h2, h3, h4⟩ => ?_
  have hr : r = [] := h1.out
  subst hr
  exact ⟨d, cd, h2, h4⟩

/-- A tag that was told. -/
def TagIs (w w' : World) (e : Ending) (key : List UInt8) (F : Fr) (v : Value) : Prop := ∃ d cd r, Hid (r = tagL key F) ∧ e = .returned (.tuple #[.slice d 8 cd, v]) ∧ r.length = 8 ∧ Sees w' d cd r ∧ Below w.heap.size w w'

set_option maxHeartbeats 1600000 in
set_option maxRecDepth 20000 in
theorem tagOf_yes (w : World) (F : Fr) (A : At) (k : Option Addr) (ck : Nat) (key : List UInt8) (hT : Tabs w) (hF : Seen w F A) (hn : F.n < 18446744073709551616) (hk : Sees w k ck key) (h16 : key.length = 16) (hc : coreB F = true) :
    Calls Tryz.prog 19 #[.agg (frC F A), .slice k key.length ck] w fun e w' => TagIs w w' e key F .nilIface := by
  have hb0 : Below w.heap.size w (w.alloc (.cells (frC F A) 25)) := Go.Joins.below_alloc1 _ _
  have hm := kmac_yes (w.alloc (.cells (frC F A) 25)) k ck key (hT.below hb0) (hk.below hb0) h16
  have H0 : Hid (FrAt (w.alloc (.cells (frC F A) 25)) w.heap.size F A ∧ Below w.heap.size w (w.alloc (.cells (frC F A) 25))) := ⟨FrAt.new w F A, hb0⟩
  have HT : Hid (Tabs w ∧ Seen w F A ∧ F.n < 18446744073709551616 ∧ coreB F = true) := ⟨hT, hF, hn, hc⟩
  clear hb0 hT hF hn hk h16 hc
  go_enter Tryz.func19, Tryz.ntmps19
  go_upto_region 1 with fail
  generalize w.alloc (Obj.cells (frC F A) 25) = W0 at *
  go_wp2_with fail
  refine hm.mono ?_
  rintro e w1 ⟨d1, c1, r1, hr1, rfl, hs1, hb1⟩
  have hb1w : Below w.heap.size w w1 := H0.out.2.trans (hb1.mono H0.out.2.size)
  have hL := (H0.out.1.below hb1).loads
  have hco := core_yes w1 F A (HT.out.2.1.below hb1w) HT.out.2.2.1 HT.out.2.2.2
  have HL : Hid ((Instr.loadAt 25 (.pointer (some ⟨w.heap.size, 0, none⟩))).run Tryz.prog w1 = .ok (.agg (frC F A)) w1) := hL
  have H1 : Hid (Below w.heap.size w w1 ∧ Sees w1 d1 c1 r1 ∧ r1 = keyOf key macN []) := ⟨hb1w, hs1, hr1.out⟩
  clear hm hr1 hs1 hb1 hb1w hL H0
  go_wp2_with (first | (refine wpList_gload_run rfl 25 _ rfl _ _ rfl HL.out ?_) | fail)
  refine hco.mono ?_
  rintro e w2 ⟨d2, c2, r2, hr2, rfl, hs2, hb2⟩
  have hb2w : Below w.heap.size w w2 := H1.out.1.trans (hb2.mono H1.out.1.size)
  have hT2 := HT.out.1.below hb2w
  have hsh : Calls Tryz.prog 39 #[.slice d1 r1.length c1, .slice d2 r2.length c2, .int .i64 8] w2 _ := hshort_ok w2 d1 c1 r1 d2 c2 r2 8 hT2.1 hT2.2 (H1.out.2.1.below hb2) hs2 (by rw [H1.out.2.2, keyOf_length]; decide) (by rw [hr2.out]; have := coreL_len F HT.out.2.2.1 HT.out.2.2.2; omega) (by decide) (by decide)
  have H2 : Hid (Below w.heap.size w w2 ∧ r1 = keyOf key macN [] ∧ r2 = coreL F) := ⟨hb2w, H1.out.2.2, hr2.out⟩
  clear hco hr2 hs2 hb2 hb2w hT2 HL H1
  go_wp2_with fail
  refine hsh.mono ?_
  rintro e w3 ⟨d3, c3, r3, hr3, rfl, hl3, hs3, hb3, _⟩
  have H3 : Hid (Hid (r3 = tagL key F) ∧ r3.length = 8 ∧ Sees w3 d3 c3 r3 ∧ Below w.heap.size w w3) := ⟨by show r3 = tagL key F; rw [hr3.out, H2.out.2.1, H2.out.2.2]; rfl, hl3, hs3, H2.out.1.trans (hb3.mono H2.out.1.size)⟩
  clear hsh hr3 hl3 hs3 hb3 H2
  go_wp2_with fail
  refine (refuse_none _ w3).mono ?_
  rintro e w4 ⟨rfl, rfl⟩
  go_wp2
  go_ret2
  exact ⟨d3, c3, r3, H3.out.1, rfl, H3.out.2⟩

set_option maxHeartbeats 1600000 in
set_option maxRecDepth 20000 in
theorem tagOf_key (w : World) (F : Fr) (A : At) (k : Option Addr) (ck : Nat) (key : List UInt8) (hT : Tabs w) (hk : Sees w k ck key) (h16 : ¬ key.length = 16) :
    Calls Tryz.prog 19 #[.agg (frC F A), .slice k key.length ck] w fun e w' => ∃ s, e = .returned (.tuple #[.slice none 0 0, refV s 1]) ∧ Below w.heap.size w w' := by
  have hb0 : Below w.heap.size w (w.alloc (.cells (frC F A) 25)) := Go.Joins.below_alloc1 _ _
  have hm := kmac_no (w.alloc (.cells (frC F A) 25)) k ck key (hT.below hb0) (hk.below hb0) h16
  have H0 : Hid (Below w.heap.size w (w.alloc (.cells (frC F A) 25))) := hb0
  clear hb0 hT hk h16
  go_enter Tryz.func19, Tryz.ntmps19
  go_upto_region 1 with fail
  generalize w.alloc (Obj.cells (frC F A) 25) = W0 at *
  go_wp2_with fail
  refine hm.mono ?_
  rintro e w1 ⟨d1, c1, rfl, hb1⟩
  have H1 : Hid (Below w.heap.size w w1) := H0.out.trans (hb1.mono H0.out.size)
  clear hm hb1 H0
  go_wp2_with fail
  refine (refuse_some _ 1 (by decide) w1).mono ?_
  rintro e w4 ⟨rfl, rfl⟩
  go_wp2
  go_ret2
  exact ⟨_, rfl, H1.out⟩

set_option maxHeartbeats 1600000 in
set_option maxRecDepth 20000 in
theorem tagOf_core (w : World) (F : Fr) (A : At) (k : Option Addr) (ck : Nat) (key : List UInt8) (hT : Tabs w) (hF : Seen w F A) (hk : Sees w k ck key) (h16 : key.length = 16) (hc : coreB F = false) :
    Calls Tryz.prog 19 #[.agg (frC F A), .slice k key.length ck] w fun e w' => ∃ s, e = .returned (.tuple #[.slice none 0 0, refV s 1]) ∧ Below w.heap.size w w' := by
  have hb0 : Below w.heap.size w (w.alloc (.cells (frC F A) 25)) := Go.Joins.below_alloc1 _ _
  have hm := kmac_yes (w.alloc (.cells (frC F A) 25)) k ck key (hT.below hb0) (hk.below hb0) h16
  have H0 : Hid (FrAt (w.alloc (.cells (frC F A) 25)) w.heap.size F A ∧ Below w.heap.size w (w.alloc (.cells (frC F A) 25))) := ⟨FrAt.new w F A, hb0⟩
  have HT : Hid (Seen w F A ∧ coreB F = false) := ⟨hF, hc⟩
  clear hb0 hT hF hk h16 hc
  go_enter Tryz.func19, Tryz.ntmps19
  go_upto_region 1 with fail
  generalize w.alloc (Obj.cells (frC F A) 25) = W0 at *
  go_wp2_with fail
  refine hm.mono ?_
  rintro e w1 ⟨d1, c1, r1, hr1, rfl, hs1, hb1⟩
  have hb1w : Below w.heap.size w w1 := H0.out.2.trans (hb1.mono H0.out.2.size)
  have hL := (H0.out.1.below hb1).loads
  have hco := core_no w1 F A (HT.out.1.below hb1w) HT.out.2
  have HL : Hid ((Instr.loadAt 25 (.pointer (some ⟨w.heap.size, 0, none⟩))).run Tryz.prog w1 = .ok (.agg (frC F A)) w1) := hL
  have H1 : Hid (Below w.heap.size w w1) := hb1w
  clear hm hr1 hs1 hb1 hb1w hL H0
  go_wp2_with (first | (refine wpList_gload_run rfl 25 _ rfl _ _ rfl HL.out ?_) | fail)
  refine hco.mono ?_
  rintro e w2 ⟨rfl, hb2⟩
  have H2 : Hid (Below w.heap.size w w2) := H1.out.trans (hb2.mono H1.out.size)
  clear hco hb2 HL H1
  go_wp2_with fail
  refine (refuse_some _ 1 (by decide) w2).mono ?_
  rintro e w4 ⟨rfl, rfl⟩
  go_wp2
  go_ret2
  exact ⟨_, rfl, H2.out⟩

theorem tagOf_no (w : World) (F : Fr) (A : At) (k : Option Addr) (ck : Nat) (key : List UInt8) (hT : Tabs w) (hF : Seen w F A) (hk : Sees w k ck key) (hb : tagB key F = false) :
    Calls Tryz.prog 19 #[.agg (frC F A), .slice k key.length ck] w fun e w' => ∃ s, e = .returned (.tuple #[.slice none 0 0, refV s 1]) ∧ Below w.heap.size w w' := by
  by_cases h16 : key.length = 16
  · have hc : coreB F = false := by
      cases h : coreB F
      · rfl
      · have := (tagB_iff key F).2 ⟨h16, h⟩
        rw [hb] at this; cases this
    exact tagOf_core w F A k ck key hT hF hk h16 hc
  · exact tagOf_key w F A k ck key hT hk h16
end Go.Proofs.YtaihjnaggmmiiaaGreatDoor
