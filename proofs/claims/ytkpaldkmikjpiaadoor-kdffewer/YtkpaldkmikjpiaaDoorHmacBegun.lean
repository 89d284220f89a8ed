/-
  The contract of the closure that begins a digest with a pad.
-/
import Derived.Test.YtkpaldkmikjpiaaDoorHmacFit
namespace Go.Proofs.YtkpaldkmikjpiaaDoor
open Go.ChangeShapes Go.WideShapes Go.ChangeAt Go.RowKit

/-- The row of the result, and the pad under way. -/
structure Pd (w wr : World) (l : List UInt8) : Prop where
  res : wr.heap[w.heap.size]? = some (.cells #[.bool false, .int .i64 0, .int .u32 0, .int .u32 0, .int .u32 0, .int .u32 0, .int .u32 0, .int .u32 0, .int .u32 0, .int .u32 0, .slice none 0 0] 76 (0, 0))
  row : wr.heap[w.heap.size + 1]? = some (.cells (brow l) 71 (0, 0))
  bel : Below w.heap.size w wr
theorem Pd.store {w wr : World} {l : List UInt8} (h : Pd w wr l) (k : Nat) (x : UInt8) : Pd w (wr.setCell ⟨w.heap.size + 1, k, none⟩ (.int .u8 (x.toNat : Int))) (l.set k x) :=
  ⟨by rw [heap_setCell_other _ _ _ _ (by simp)]; exact h.res, setCell_bytes h.row k x, h.bel.setCell (p := ⟨w.heap.size + 1, k, none⟩) (by simp) _⟩

/-- k bytes of l xor c, the others as they are. -/
def padTo (l : List UInt8) (c : UInt8) (k : Nat) : List UInt8 := (l.take k).map (· ^^^ c) ++ l.drop k
theorem padTo_at (l : List UInt8) (c : UInt8) (k : Nat) (x : UInt8) (h : l[k]? = some x) : (padTo l c k)[k]? = some x := by
  have hk : k < l.length := (List.getElem?_eq_some_iff.1 h).1
  unfold padTo
  rw [List.getElem?_append_right (by simp; omega)]
  simp [show min k l.length = k by omega, h]
theorem padTo_set (l : List UInt8) (c : UInt8) (k : Nat) (x : UInt8) (h : l[k]? = some x) : (padTo l c k).set k (x ^^^ c) = padTo l c (k + 1) := by
  have hk : k < l.length := (List.getElem?_eq_some_iff.1 h).1
  unfold padTo
  have e : l.drop k = x :: l.drop (k + 1) := by
    rw [List.drop_eq_getElem_cons hk]
    congr 1
    exact (List.getElem?_eq_some_iff.1 h).2
  rw [take_snoc l k x h, e, List.set_append_right _ _ (by simp; omega)]
  simp [show min k l.length = k by omega]
theorem padTo_all (l : List UInt8) (c : UInt8) : padTo l c l.length = l.map (· ^^^ c) := by simp [padTo]

theorem leftOf_64 (l : List UInt8) (h : l.length = 64) : leftOf l = [] := List.eq_nil_of_length_eq_zero (by rw [leftOf_length, h])

set_option maxHeartbeats 3200000 in
set_option maxRecDepth 20000 in
theorem begun_any (w : World) (g : Nat) (l : List UInt8) (c : UInt8) (hl : l.length = 64) (hg : w.heap[g]? = some (.cells (brow l) 71 (0, 0))) (hF : FTab w) (hT : KTab w) :
    Calls Tryd.prog 49 #[.int .u8 (c.toNat : Int), .pointer (some ⟨g, 0, none⟩)] w fun e w' => ∃ a, e = .returned (.agg (digL [] 64 (stOf (l.map (· ^^^ c))) (.slice a 0 0)).toArray) ∧ Below w.heap.size w w' := by
  have HL : Hid (l.length = 64) := hl
  have HF : Hid (FTab w) := hF
  have HT : Hid (KTab w) := hT
  have hsz : (brow l).size = 64 := by rw [brow_size, hl]
  obtain ⟨W, hW⟩ : ∃ W, W = (w.alloc (.cells #[.bool false, .int .i64 0, .int .u32 0, .int .u32 0, .int .u32 0, .int .u32 0, .int .u32 0, .int .u32 0, .int .u32 0, .int .u32 0, .slice none 0 0] 76)) := ⟨_, rfl⟩
  have hgl : g < w.heap.size := (Array.getElem?_eq_some_iff.1 hg).1
  have hbW : Below w.heap.size w W := by rw [hW]; exact (Below.refl _ _).alloc (Nat.le_refl _) _
  have hgW : W.heap[g]? = some (.cells (brow l) 71 (0, 0)) := by rw [hbW.block g hgl]; exact hg
  have hWs : W.heap.size = w.heap.size + 1 := by rw [hW]; simp
  obtain ⟨C, hC⟩ : ∃ C, C = brow l := ⟨_, rfl⟩
  have hld := loadAt_row (P := Tryd.prog) W g 71 71 C (0, 0) _ (by rw [hC]; exact hgW) Tryd.underlying71 rfl (by rw [hC, hsz]; kernel_rfl)
  have hst := storeAt_row (P := Tryd.prog) (W.alloc (.cells (brow z64) 71)) (w.heap.size + 1) 71 71 _ C (by rw [← hWs]; exact heap_alloc_new W _) (by rw [hC, hsz]; kernel_rfl) (by rw [hC, hsz, brow_size]; rfl) (by rw [hC]; exact brow_one _)
  have hP0 : Pd w ((W.alloc (.cells (brow z64) 71)).setRow (w.heap.size + 1) C) (padTo l c 0) := by
    have hbb : Below W.heap.size W (W.alloc (.cells (brow z64) 71)) := (Below.refl _ _).alloc (Nat.le_refl _) _
    refine ⟨?_, ?_, below_setRow (hbW.alloc (by omega) _) (g := w.heap.size + 1) (by omega) C⟩
    · have h1 : ((W.alloc (.cells (brow z64) 71)).setRow (w.heap.size + 1) C).heap[w.heap.size]? = (W.alloc (.cells (brow z64) 71)).heap[w.heap.size]? := by simp [World.setRow, Array.getElem?_modify]
      rw [h1, hbb.block _ (by omega), hW]
      exact heap_alloc_new w _
    · have h2 := setRow_heap (W.alloc (.cells (brow z64) 71)) (w.heap.size + 1) _ C 71 _ (by rw [← hWs]; exact heap_alloc_new W _)
      rw [h2, hC]; rfl
  have HLD : Hid ((Instr.loadAt 71 (.pointer (some ⟨g, 0, none⟩))).run Tryd.prog (w.alloc (.cells #[.bool false, .int .i64 0, .int .u32 0, .int .u32 0, .int .u32 0, .int .u32 0, .int .u32 0, .int .u32 0, .int .u32 0, .int .u32 0, .slice none 0 0] 76)) = .ok (.agg C) (w.alloc (.cells #[.bool false, .int .i64 0, .int .u32 0, .int .u32 0, .int .u32 0, .int .u32 0, .int .u32 0, .int .u32 0, .int .u32 0, .int .u32 0, .slice none 0 0] 76))) := by rw [← hW]; exact hld
  obtain ⟨W2, hW2⟩ : ∃ W2, W2 = ((W.alloc (.cells (brow z64) 71)).setRow (w.heap.size + 1) C) := ⟨_, rfl⟩
  rw [← hW2] at hP0 hst
  have HST : Hid ((Instr.storeAt 71 (.pointer (some ⟨w.heap.size + 1, 0, none⟩)) (.agg C)).run Tryd.prog ((w.alloc (.cells #[.bool false, .int .i64 0, .int .u32 0, .int .u32 0, .int .u32 0, .int .u32 0, .int .u32 0, .int .u32 0, .int .u32 0, .int .u32 0, .slice none 0 0] 76)).alloc (.cells (brow z64) 71)) = .ok () W2) := by rw [← hW]; exact hst
  clear hl hF hT hsz hgl hbW hgW hWs hC hld hst hW hW2 hg
  go_enter Tryd.func49, Tryd.ntmps49
  go_wp2_with (first | refine wpList_load_run rfl 71 _ rfl _ _ rfl HLD.out ?_ | refine wpList_store_run rfl 71 _ _ rfl _ _ rfl rfl HST.out ?_)
  go_loopw [8] (fun i wr => ∃ k : Nat, k ≤ 64 ∧ i = .int .i64 k ∧ Pd w wr (padTo l c k)) (fun i _ => 64 - (intOf i).toNat)
  case atStart => exact ⟨0, by omega, rfl, hP0⟩
  case round =>
    obtain ⟨k, hk, rfl, hP⟩ := hrel
    clear hP0 HLD HST
    by_cases hlt : k < 64
    · obtain ⟨x, hx⟩ : ∃ x, l[k]? = some x := ⟨l[k]'(by rw [HL.out]; exact hlt), by simp [HL.out, hlt]⟩
      have hc := cell_bytes hP.row (padTo_at l c k x hx)
      have hf := frozen_of_row wr (w.heap.size + 1) k _ _ hP.row
      obtain ⟨z, hz⟩ : ∃ z, z = x ^^^ c := ⟨_, rfl⟩
      have e1 : bits .xor .u8 (x.toNat : Int) (c.toNat : Int) = (z.toNat : Int) := by rw [hz]; exact bxor x c
      have hst := hP.store k z
      rw [hz, padTo_set l c k x hx, ← hz] at hst
      have HS : Hid (Pd w (wr.setCell ⟨w.heap.size + 1, k, none⟩ (.int .u8 (z.toNat : Int))) (padTo l c (k + 1))) := hst
      have hki : (k : Int) < 64 := by omega
      clear hst hP hx hz
      go_wp2
      go_roundw
      case rel => exact ⟨k + 1, by omega, by go_num, HS.out⟩
      case measure => simp [intOf]; omega
    · obtain rfl : k = 64 := by omega
      obtain ⟨p, hp⟩ : ∃ p, p = l.map (· ^^^ c) := ⟨_, rfl⟩
      have hpl : p.length = 64 := by rw [hp, List.length_map, HL.out]
      have hrow : wr.heap[w.heap.size + 1]? = some (.cells (brow p) 71 (0, 0)) := by rw [hP.row, hp, ← padTo_all, HL.out]
      have hres := hP.res
      have hb := hP.bel
      have HPP : Hid (p = l.map (· ^^^ c)) := hp
      have HP : Hid (p.length = 64) := hpl
      have HRW : Hid (wr.heap[w.heap.size + 1]? = some (.cells (brow p) 71 (0, 0))) := hrow
      have HRS : Hid (wr.heap[w.heap.size]? = some (.cells #[.bool false, .int .i64 0, .int .u32 0, .int .u32 0, .int .u32 0, .int .u32 0, .int .u32 0, .int .u32 0, .int .u32 0, .int .u32 0, .slice none 0 0] 76 (0, 0))) := hres
      have hnew := new_any wr (HF.out.below hb)
      clear hP hp hpl hrow hres
      go_wp2_with fail
      refine hnew.mono ?_
      rintro e w1 ⟨rfl, hD1, hb1⟩
      have hs1 : Sees w1 (some ⟨w.heap.size + 1, 0, none⟩) 64 p := by
        have hlt2 : w.heap.size + 1 < wr.heap.size := (Array.getElem?_eq_some_iff.1 HRW.out).1
        have h1 : w1.heap[w.heap.size + 1]? = some (.cells (brow p) 71 (0, 0)) := by rw [hb1.block _ hlt2]; exact HRW.out
        exact ⟨by rw [HP.out]; exact Nat.le_refl _, by unfold maxLen; omega, by simp, fun _ => ⟨_, 0, rfl, fun i x hx => by rw [Nat.zero_add]; exact cell_bytes h1 hx⟩⟩
      have bel1 : Below w.heap.size w w1 := hb.trans (hb1.mono hb.size)
      have hw := write_any w1 wr.heap.size [] hD1 _ 64 p hs1 (HT.out.below bel1) (by rw [HP.out]; simp)
      rw [List.nil_append, HP.out] at hw
      clear hnew hs1
      go_wp2_with fail
      refine hw.mono ?_
      rintro e w2 ⟨rfl, hD2, hbt2⟩
      have hwl : w.heap.size < wr.heap.size := (Array.getElem?_eq_some_iff.1 HRS.out).1
      obtain ⟨a, ho, hsl⟩ := hD2.obj
      have bel2 : Below w.heap.size w w2 := hbt2.below bel1 hb.size
      rw [leftOf_64 p HP.out, HP.out] at ho
      have hr2 : w2.heap[w.heap.size]? = some (.cells #[.bool false, .int .i64 0, .int .u32 0, .int .u32 0, .int .u32 0, .int .u32 0, .int .u32 0, .int .u32 0, .int .u32 0, .int .u32 0, .slice none 0 0] 76 (0, 0)) := by
        rw [hbt2.block _ (Nat.lt_of_lt_of_le hwl hb1.size) (by omega), hb1.block _ hwl]; exact HRS.out
      obtain ⟨D, hD⟩ : ∃ D, D = (digL [] 64 (stOf p) (.slice a 0 0)).toArray := ⟨_, rfl⟩
      have hDs : D.size = 11 := by rw [hD]; rfl
      have hrow2 : w2.heap[wr.heap.size]? = some (.cells D 76 (0, 0)) := by rw [hD]; exact ho.1
      have hD1' : D.all (·.oneCell') = true := by rw [hD]; simp [digL, Value.oneCell']
      have HLD : Hid ((Instr.loadAt 76 (.pointer (some ⟨wr.heap.size, 0, none⟩))).run Tryd.prog w2 = .ok (.agg D) w2) := loadAt_row (P := Tryd.prog) w2 _ 76 76 D (0, 0) _ hrow2 Tryd.underlying76 rfl (by rw [hDs]; kernel_rfl)
      have HST : Hid ((Instr.storeAt 76 (.pointer (some ⟨w.heap.size, 0, none⟩)) (.agg D)).run Tryd.prog w2 = .ok () (w2.setRow w.heap.size D)) := storeAt_row (P := Tryd.prog) w2 w.heap.size 76 76 _ D hr2 (by rw [hDs]; kernel_rfl) (by rw [hDs]; rfl) hD1'
      have hres := setRow_heap w2 w.heap.size _ D 76 _ hr2
      have hbel := below_setRow bel2 (Nat.le_refl _) D
      have HD : Hid (D = (digL [] 64 (stOf p) (.slice a 0 0)).toArray) := hD
      have HDS : Hid (D.size = 11) := hDs
      clear hw hD1 hD2 hbt2 ho hsl hr2 hD hDs hrow2 hD1' HRW HRS
      go_wp2_with (first | refine wpList_load_run rfl 76 _ rfl _ _ rfl HLD.out ?_ | refine wpList_store_run rfl 76 _ _ rfl _ _ rfl rfl HST.out ?_)
      (try simp only [Exit.inBlock, Exit.then])
      refine bodyPost_ret (results_cell_row rfl _ _ w.heap.size 76 D (0, 0) _ rfl hres Tryd.underlying76 rfl (by rw [HDS.out]; kernel_rfl)) rfl ?_
      exact ⟨a, by rw [HD.out, HPP.out], hbel⟩
end Go.Proofs.YtkpaldkmikjpiaaDoor
