/-
  The contract of hmac.fit: the key as a block of 64 bytes.

  The contract of the closure that begins a digest with a pad.
-/
import Derived.Test.YtleedppcandbkaaDoorShaE
import Derived.Test.YtleedppcandbkaaDoorPure
import Derived.Laws.CopyRow
import Derived.Test.YtleedppcandbkaaDoorGround
namespace Go.Proofs.YtleedppcandbkaaDoor
open Go.ChangeShapes Go.WideShapes Go.ChangeAt Go.RowKit

/-- A row of bytes. -/
def brow (l : List UInt8) : Array Value := (l.map cellOf).toArray
theorem brow_size (l : List UInt8) : (brow l).size = l.length := by simp [brow]
theorem brow_one (l : List UInt8) : (brow l).all (·.oneCell') = true := all_oneCell_toArray (bytes_oneCell l)
theorem cell_bytes {w : World} {g : Nat} {l : List UInt8} {t : TypeId} {fr : Nat × Nat} (h : w.heap[g]? = some (.cells (brow l) t fr)) {k : Nat} {x : UInt8} (hx : l[k]? = some x) : w.cell? ⟨g, k, none⟩ = some (.int .u8 (x.toNat : Int)) := by
  rw [cell_of_row w _ k _ _ _ h]
  simp [brow, hx, cellOf]
theorem setCell_bytes {w : World} {g : Nat} {l : List UInt8} {t : TypeId} (h : w.heap[g]? = some (.cells (brow l) t (0, 0))) (k : Nat) (x : UInt8) :
    (w.setCell ⟨g, k, none⟩ (.int .u8 (x.toNat : Int))).heap[g]? = some (.cells (brow (l.set k x)) t (0, 0)) := by
  rw [heap_setCell_same _ _ _ _ _ _ h]
  congr 2
  unfold brow
  rw [List.setIfInBounds_toArray, List.map_set]; rfl

/-- 64 noughts. -/
def z64 : List UInt8 := List.replicate 64 0

/-- 'copy' of at most 64 bytes to the head of 64 noughts. -/
theorem copy_64 (w : World) (g : Nat) (hg : w.heap[g]? = some (.cells (brow z64) 98 (0, 0))) (a : Option Addr) (ca : Nat) (l : List UInt8) (ha : Sees w a ca l) (hl : l.length ≤ 64) :
    ∃ w', (Builtin.copy_ #[22, 22] 3 #[.slice (some ⟨g, 0, none⟩) 64 64, .slice a l.length ca]).run Tryd.prog w = .ok (.int .i64 (l.length : Int)) w' ∧ w'.heap[g]? = some (.cells (brow (l ++ List.replicate (64 - l.length) 0)) 98 (0, 0)) ∧ But g w w' := by
  by_cases h0 : l = []
  · subst h0
    refine ⟨w, run_copy_none (P := Tryd.prog) w 22 22 3 5 _ _ 64 64 0 ca Tryd.underlying22 (by kernel_rfl) (by simp), ?_, But.refl _ _⟩
    rw [hg]; rfl
  · obtain ⟨b, off, rfl, _⟩ := ha.at' h0
    have h1 := run_copy_row Tryd.prog w 22 22 3 5 g 0 64 64 ⟨b, off, none⟩ l.length ca (brow z64) 98 (l.map cellOf) Tryd.underlying22 (by kernel_rfl) hg (by simp [Nat.min_eq_left hl]) (ha.news _ rfl) (by rw [brow_size]; simp [z64]; omega) (bytes_oneCell l)
    rw [List.length_map] at h1
    have h2 : ((brow z64).toList.take 0 ++ l.map cellOf ++ (brow z64).toList.drop (0 + l.length)).toArray = brow (l ++ List.replicate (64 - l.length) 0) := by
      have hz : (brow z64).toList = List.replicate 64 (cellOf 0) := by unfold brow z64; rw [List.map_replicate]
      rw [hz, List.drop_replicate]
      simp [brow]
    rw [h2] at h1
    exact ⟨_, h1, setRow_heap w g _ _ 98 _ hg, ⟨rfl, rfl, rfl, by simp [World.setRow], fun k hk hn => by simp [World.setRow, Array.getElem?_modify, Ne.symm hn]⟩⟩

set_option maxHeartbeats 1600000 in
set_option maxRecDepth 20000 in
theorem fit_ok (w : World) (a : Option Addr) (ca : Nat) (key : List UInt8) (ha : Sees w a ca key) (hF : FTab w) (hT : KTab w) (hl : key.length ≤ 1048576) :
    Calls Tryd.prog 68 #[.slice a key.length ca] w fun e w' => e = .returned (.tuple #[.agg (brow (fillK key)), .int .i64 0]) ∧ Below w.heap.size w w' := by
  obtain ⟨W, hW⟩ : ∃ W, W = (w.alloc (.cells (brow z64) 98)).alloc (.cells (brow z64) 98) := ⟨_, rfl⟩
  have hbW : Below w.heap.size w W := by rw [hW]; exact ((Below.refl _ _).alloc (Nat.le_refl _) _).alloc (by simp) _
  have hres : W.heap[w.heap.size]? = some (.cells (brow z64) 98 (0, 0)) := by rw [hW]; exact heap_alloc2_old w _ _
  have hblk : W.heap[w.heap.size + 1]? = some (.cells (brow z64) 98 (0, 0)) := by rw [hW]; exact heap_alloc2_new w _ _
  have hszW : W.heap.size = w.heap.size + 2 := by rw [hW]; simp
  -- what is copied, and what comes behind
  have hend : ∀ (W2 : World) (x : Option Addr) (cx : Nat) (k : List UInt8), Below W.heap.size W W2 → Sees W2 x cx k → k = keyL key →
      ∃ W3, (Builtin.copy_ #[22, 22] 3 #[.slice (some ⟨w.heap.size + 1, 0, none⟩) 64 64, .slice x k.length cx]).run Tryd.prog W2 = .ok (.int .i64 (k.length : Int)) W3 ∧
        (Instr.loadAt 98 (.pointer (some ⟨w.heap.size + 1, 0, none⟩))).run Tryd.prog W3 = .ok (.agg (brow (fillK key))) W3 ∧
        (Instr.storeAt 98 (.pointer (some ⟨w.heap.size, 0, none⟩)) (.agg (brow (fillK key)))).run Tryd.prog W3 = .ok () (W3.setRow w.heap.size (brow (fillK key))) ∧
        (W3.setRow w.heap.size (brow (fillK key))).heap[w.heap.size]? = some (.cells (brow (fillK key)) 98 (0, 0)) ∧ Below w.heap.size w (W3.setRow w.heap.size (brow (fillK key))) := by
    intro W2 x cx k hb hs hk
    have hk64 := keyL_le key
    have hr2 : W2.heap[w.heap.size]? = some (.cells (brow z64) 98 (0, 0)) := by rw [hb.block _ (by omega)]; exact hres
    have hb2 : W2.heap[w.heap.size + 1]? = some (.cells (brow z64) 98 (0, 0)) := by rw [hb.block _ (by omega)]; exact hblk
    obtain ⟨W3, h1, h2, h3⟩ := copy_64 W2 (w.heap.size + 1) hb2 x cx k hs (by rw [hk]; exact hk64)
    have hfill : k ++ List.replicate (64 - k.length) 0 = fillK key := by rw [hk]; rfl
    rw [hfill] at h2
    have hsz : (brow (fillK key)).size = 64 := by rw [brow_size, fillK_length]
    have hr3 : W3.heap[w.heap.size]? = some (.cells (brow z64) 98 (0, 0)) := by rw [h3.block _ (by have := hb.size; omega) (by omega)]; exact hr2
    have hB3 : Below w.heap.size w W3 := h3.below (hbW.trans (hb.mono hbW.size)) (by omega)
    exact ⟨W3, h1, loadAt_row (P := Tryd.prog) W3 _ 98 98 _ (0, 0) _ h2 Tryd.underlying98 rfl (by rw [hsz]; kernel_rfl),
      storeAt_row (P := Tryd.prog) W3 w.heap.size 98 98 _ _ hr3 (by rw [hsz]; kernel_rfl) (by rw [hsz, brow_size]; rfl) (brow_one _), setRow_heap W3 _ _ _ 98 _ hr3, below_setRow hB3 (Nat.le_refl _) _⟩
  have HE : Hid (∀ (W2 : World) (x : Option Addr) (cx : Nat) (k : List UInt8), Below W.heap.size W W2 → Sees W2 x cx k → k = keyL key →
      ∃ W3, (Builtin.copy_ #[22, 22] 3 #[.slice (some ⟨w.heap.size + 1, 0, none⟩) 64 64, .slice x k.length cx]).run Tryd.prog W2 = .ok (.int .i64 (k.length : Int)) W3 ∧
        (Instr.loadAt 98 (.pointer (some ⟨w.heap.size + 1, 0, none⟩))).run Tryd.prog W3 = .ok (.agg (brow (fillK key))) W3 ∧
        (Instr.storeAt 98 (.pointer (some ⟨w.heap.size, 0, none⟩)) (.agg (brow (fillK key)))).run Tryd.prog W3 = .ok () (W3.setRow w.heap.size (brow (fillK key))) ∧
        (W3.setRow w.heap.size (brow (fillK key))).heap[w.heap.size]? = some (.cells (brow (fillK key)) 98 (0, 0)) ∧ Below w.heap.size w (W3.setRow w.heap.size (brow (fillK key)))) := hend
  have hsz : (brow (fillK key)).size = 64 := by rw [brow_size, fillK_length]
  have HSZ : Hid ((brow (fillK key)).size = 64) := hsz
  obtain ⟨C, hC⟩ : ∃ C, C = brow (fillK key) := ⟨_, rfl⟩
  rw [← hC] at HE HSZ ⊢
  clear hC hend hres hblk hszW hsz
  by_cases hbig : 64 < key.length
  · have hd : decide ((64 : Int) < (key.length : Int)) = true := by simp; omega
    have hof := of_ok W a ca key (ha.below hbW) (hF.below hbW) (hT.below hbW) hl
    have hkl0 : shaL key = keyL key := by unfold keyL; rw [if_pos hbig]
    have hkl : Hid (shaL key = keyL key) := hkl0
    rw [hW] at hof
    clear ha hF hT hbig hkl0
    go_enter Tryd.func68, Tryd.ntmps68
    go_wp2_with fail
    refine hof.mono ?_
    rintro e w2 ⟨d, cd, r, hr, rfl, hs2, hb2⟩
    obtain ⟨W3, h1, h2, h3, h4, h5⟩ := HE.out w2 d cd r (by rw [hW]; exact hb2) hs2 (by rw [hr.out]; exact hkl.out)
    have HCP : Hid ((Builtin.copy_ #[22, 22] 3 #[.slice (some ⟨w.heap.size + 1, 0, none⟩) 64 64, .slice d r.length cd]).run Tryd.prog w2 = .ok (.int .i64 (r.length : Int)) W3) := h1
    have HLD : Hid ((Instr.loadAt 98 (.pointer (some ⟨w.heap.size + 1, 0, none⟩))).run Tryd.prog W3 = .ok (.agg C) W3) := h2
    have HST : Hid ((Instr.storeAt 98 (.pointer (some ⟨w.heap.size, 0, none⟩)) (.agg C)).run Tryd.prog W3 = .ok () (W3.setRow w.heap.size C)) := h3
    clear hof HE hr hs2 hb2 h1 h2 h3 hW hbW
    go_wp2_with (first | refine wpList_copy_run rfl _ _ 22 rfl _ _ _ rfl rfl HCP.out ?_ | refine wpList_load_run rfl 98 _ rfl _ _ rfl HLD.out ?_ | refine wpList_store_run rfl 98 _ _ rfl _ _ rfl rfl HST.out ?_)
    (try simp only [Exit.inBlock, Exit.then])
    refine bodyPost_ret (results_cell_tmp rfl _ _ w.heap.size 98 C (0, 0) _ rfl h4 Tryd.underlying98 rfl (by rw [HSZ.out]; kernel_rfl)) rfl ?_
    exact ⟨rfl, h5⟩
  · have hd : decide ((64 : Int) < (key.length : Int)) = false := by simp; omega
    have hkl : keyL key = key := by unfold keyL; rw [if_neg hbig]
    obtain ⟨W3, h1, h2, h3, h4, h5⟩ := HE.out W a ca key (Below.refl _ _) (ha.below hbW) hkl.symm
    rw [hW] at h1
    have HCP : Hid ((Builtin.copy_ #[22, 22] 3 #[.slice (some ⟨w.heap.size + 1, 0, none⟩) 64 64, .slice a key.length ca]).run Tryd.prog ((w.alloc (.cells (brow z64) 98)).alloc (.cells (brow z64) 98)) = .ok (.int .i64 (key.length : Int)) W3) := h1
    have HLD : Hid ((Instr.loadAt 98 (.pointer (some ⟨w.heap.size + 1, 0, none⟩))).run Tryd.prog W3 = .ok (.agg C) W3) := h2
    have HST : Hid ((Instr.storeAt 98 (.pointer (some ⟨w.heap.size, 0, none⟩)) (.agg C)).run Tryd.prog W3 = .ok () (W3.setRow w.heap.size C)) := h3
    clear HE h1 h2 h3 hW hbW ha hF hT hkl
    go_enter Tryd.func68, Tryd.ntmps68
    go_wp2_with (first | refine wpList_copy_run rfl _ _ 22 rfl _ _ _ rfl rfl HCP.out ?_ | refine wpList_load_run rfl 98 _ rfl _ _ rfl HLD.out ?_ | refine wpList_store_run rfl 98 _ _ rfl _ _ rfl rfl HST.out ?_)
    (try simp only [Exit.inBlock, Exit.then])
    refine bodyPost_ret (results_cell_tmp rfl _ _ w.heap.size 98 C (0, 0) _ rfl h4 Tryd.underlying98 rfl (by rw [HSZ.out]; kernel_rfl)) rfl ?_
    exact ⟨rfl, h5⟩
end Go.Proofs.YtleedppcandbkaaDoor

namespace Go.Proofs.YtleedppcandbkaaDoor
open Go.ChangeShapes Go.WideShapes Go.ChangeAt Go.RowKit

/-- The row of the result, and the pad under way. -/
structure Pd (w wr : World) (l : List UInt8) : Prop where
  res : wr.heap[w.heap.size]? = some (.cells #[.bool false, .int .i64 0, .int .u32 0, .int .u32 0, .int .u32 0, .int .u32 0, .int .u32 0, .int .u32 0, .int .u32 0, .int .u32 0, .slice none 0 0] 103 (0, 0))
  row : wr.heap[w.heap.size + 1]? = some (.cells (brow l) 98 (0, 0))
  bel : Below w.heap.size w wr
theorem Pd.store {w wr : World} {l : List UInt8} (h : Pd w wr l) (k : Nat) (x : UInt8) : Pd w (wr.setCell ⟨w.heap.size + 1, k, none⟩ (.int .u8 (x.toNat : Int))) (l.set k x) :=
  ⟨by rw [heap_setCell_other _ _ _ _ (by simp)]; exact h.res, setCell_bytes h.row k x, h.bel.setCell (p := ⟨w.heap.size + 1, k, none⟩) (by simp) _⟩

/-- k bytes of l xor c, the others as they are. -/
def padTo (l : List UInt8) (c : UInt8) (k : Nat) : List UInt8 := (l.take k).map (· ^^^ c) ++ l.drop k
theorem padTo_at (l : List UInt8) (c : UInt8) (k : Nat) (x : UInt8) (h : l[k]? = some x) : (padTo l c k)[k]? = some x := by
  have hk : k < l.length := (List.getElem?_eq_some_iff.1 h).1
  unfold padTo
  rw [List.getElem?_append_right (by simp; omega)]
  simp [show min k l.length = k by omega, h]
theorem padTo_set (l : List UInt8) (c : UInt8) (k : Nat) (x : UInt8) (h : l[k]? = some x) : (padTo l c k).set k (x ^^^ c) = padTo l c (k + 1) := by
  have hk : k < l.length := (List.getElem?_eq_some_iff.1 h).1
  unfold padTo
  have e : l.drop k = x :: l.drop (k + 1) := by
    rw [List.drop_eq_getElem_cons hk]
    congr 1
    exact (List.getElem?_eq_some_iff.1 h).2
  rw [take_snoc l k x h, e, List.set_append_right _ _ (by simp; omega)]
  simp [show min k l.length = k by omega]
theorem padTo_all (l : List UInt8) (c : UInt8) : padTo l c l.length = l.map (· ^^^ c) := by simp [padTo]

theorem leftOf_64 (l : List UInt8) (h : l.length = 64) : leftOf l = [] := List.eq_nil_of_length_eq_zero (by rw [leftOf_length, h])

set_option maxHeartbeats 3200000 in
set_option maxRecDepth 20000 in
theorem begun_any (w : World) (g : Nat) (l : List UInt8) (c : UInt8) (hl : l.length = 64) (hg : w.heap[g]? = some (.cells (brow l) 98 (0, 0))) (hF : FTab w) (hT : KTab w) :
    Calls Tryd.prog 69 #[.int .u8 (c.toNat : Int), .pointer (some ⟨g, 0, none⟩)] w fun e w' => ∃ a, e = .returned (.agg (digL [] 64 (stOf (l.map (· ^^^ c))) (.slice a 0 0)).toArray) ∧ Below w.heap.size w w' := by
  have HL : Hid (l.length = 64) := hl
  have HF : Hid (FTab w) := hF
  have HT : Hid (KTab w) := hT
  have hsz : (brow l).size = 64 := by rw [brow_size, hl]
  obtain ⟨W, hW⟩ : ∃ W, W = (w.alloc (.cells #[.bool false, .int .i64 0, .int .u32 0, .int .u32 0, .int .u32 0, .int .u32 0, .int .u32 0, .int .u32 0, .int .u32 0, .int .u32 0, .slice none 0 0] 103)) := ⟨_, rfl⟩
  have hgl : g < w.heap.size := (Array.getElem?_eq_some_iff.1 hg).1
  have hbW : Below w.heap.size w W := by rw [hW]; exact (Below.refl _ _).alloc (Nat.le_refl _) _
  have hgW : W.heap[g]? = some (.cells (brow l) 98 (0, 0)) := by rw [hbW.block g hgl]; exact hg
  have hWs : W.heap.size = w.heap.size + 1 := by rw [hW]; simp
  obtain ⟨C, hC⟩ : ∃ C, C = brow l := ⟨_, rfl⟩
  have hld := loadAt_row (P := Tryd.prog) W g 98 98 C (0, 0) _ (by rw [hC]; exact hgW) Tryd.underlying98 rfl (by rw [hC, hsz]; kernel_rfl)
  have hst := storeAt_row (P := Tryd.prog) (W.alloc (.cells (brow z64) 98)) (w.heap.size + 1) 98 98 _ C (by rw [← hWs]; exact heap_alloc_new W _) (by rw [hC, hsz]; kernel_rfl) (by rw [hC, hsz, brow_size]; rfl) (by rw [hC]; exact brow_one _)
  have hP0 : Pd w ((W.alloc (.cells (brow z64) 98)).setRow (w.heap.size + 1) C) (padTo l c 0) := by
    have hbb : Below W.heap.size W (W.alloc (.cells (brow z64) 98)) := (Below.refl _ _).alloc (Nat.le_refl _) _
    refine ⟨?_, ?_, below_setRow (hbW.alloc (by omega) _) (g := w.heap.size + 1) (by omega) C⟩
    · have h1 : ((W.alloc (.cells (brow z64) 98)).setRow (w.heap.size + 1) C).heap[w.heap.size]? = (W.alloc (.cells (brow z64) 98)).heap[w.heap.size]? := by simp [World.setRow, Array.getElem?_modify]
      rw [h1, hbb.block _ (by omega), hW]
      exact heap_alloc_new w _
    · have h2 := setRow_heap (W.alloc (.cells (brow z64) 98)) (w.heap.size + 1) _ C 98 _ (by rw [← hWs]; exact heap_alloc_new W _)
      rw [h2, hC]; rfl
  have HLD : Hid ((Instr.loadAt 98 (.pointer (some ⟨g, 0, none⟩))).run Tryd.prog (w.alloc (.cells #[.bool false, .int .i64 0, .int .u32 0, .int .u32 0, .int .u32 0, .int .u32 0, .int .u32 0, .int .u32 0, .int .u32 0, .int .u32 0, .slice none 0 0] 103)) = .ok (.agg C) (w.alloc (.cells #[.bool false, .int .i64 0, .int .u32 0, .int .u32 0, .int .u32 0, .int .u32 0, .int .u32 0, .int .u32 0, .int .u32 0, .int .u32 0, .slice none 0 0] 103))) := by rw [← hW]; exact hld
  obtain ⟨W2, hW2⟩ : ∃ W2, W2 = ((W.alloc (.cells (brow z64) 98)).setRow (w.heap.size + 1) C) := ⟨_, rfl⟩
  rw [← hW2] at hP0 hst
  have HST : Hid ((Instr.storeAt 98 (.pointer (some ⟨w.heap.size + 1, 0, none⟩)) (.agg C)).run Tryd.prog ((w.alloc (.cells #[.bool false, .int .i64 0, .int .u32 0, .int .u32 0, .int .u32 0, .int .u32 0, .int .u32 0, .int .u32 0, .int .u32 0, .int .u32 0, .slice none 0 0] 103)).alloc (.cells (brow z64) 98)) = .ok () W2) := by rw [← hW]; exact hst
  clear hl hF hT hsz hgl hbW hgW hWs hC hld hst hW hW2 hg
  go_enter Tryd.func69, Tryd.ntmps69
  go_wp2_with (first | refine wpList_load_run rfl 98 _ rfl _ _ rfl HLD.out ?_ | refine wpList_store_run rfl 98 _ _ rfl _ _ rfl rfl HST.out ?_)
  go_loopw [8] (fun i wr => ∃ k : Nat, k ≤ 64 ∧ i = .int .i64 k ∧ Pd w wr (padTo l c k)) (fun i _ => 64 - (intOf i).toNat)
  case atStart => exact ⟨0, by omega, rfl, hP0⟩
  case round =>
    obtain ⟨k, hk, rfl, hP⟩ := hrel
    clear hP0 HLD HST
    by_cases hlt : k < 64
    · obtain ⟨x, hx⟩ : ∃ x, l[k]? = some x := ⟨l[k]'(by rw [HL.out]; exact hlt), by simp [HL.out, hlt]⟩
      have hc := cell_bytes hP.row (padTo_at l c k x hx)
      have hf := frozen_of_row wr (w.heap.size + 1) k _ _ hP.row
      obtain ⟨z, hz⟩ : ∃ z, z = x ^^^ c := ⟨_, rfl⟩
      have e1 : bits .xor .u8 (x.toNat : Int) (c.toNat : Int) = (z.toNat : Int) := by rw [hz]; exact bxor x c
      have hst := hP.store k z
      rw [hz, padTo_set l c k x hx, ← hz] at hst
      have HS : Hid (Pd w (wr.setCell ⟨w.heap.size + 1, k, none⟩ (.int .u8 (z.toNat : Int))) (padTo l c (k + 1))) := hst
      have hki : (k : Int) < 64 := by omega
      clear hst hP hx hz
      go_wp2
      go_roundw
      case rel => exact ⟨k + 1, by omega, by go_num, HS.out⟩
      case measure => simp [intOf]; omega
    · obtain rfl : k = 64 := by omega
      obtain ⟨p, hp⟩ : ∃ p, p = l.map (· ^^^ c) := ⟨_, rfl⟩
      have hpl : p.length = 64 := by rw [hp, List.length_map, HL.out]
      have hrow : wr.heap[w.heap.size + 1]? = some (.cells (brow p) 98 (0, 0)) := by rw [hP.row, hp, ← padTo_all, HL.out]
      have hres := hP.res
      have hb := hP.bel
      have HPP : Hid (p = l.map (· ^^^ c)) := hp
      have HP : Hid (p.length = 64) := hpl
      have HRW : Hid (wr.heap[w.heap.size + 1]? = some (.cells (brow p) 98 (0, 0))) := hrow
      have HRS : Hid (wr.heap[w.heap.size]? = some (.cells #[.bool false, .int .i64 0, .int .u32 0, .int .u32 0, .int .u32 0, .int .u32 0, .int .u32 0, .int .u32 0, .int .u32 0, .int .u32 0, .slice none 0 0] 103 (0, 0))) := hres
      have hnew := new_any wr (HF.out.below hb)
      clear hP hp hpl hrow hres
      go_wp2_with fail
      refine hnew.mono ?_
      rintro e w1 ⟨rfl, hD1, hb1⟩
      have hs1 : Sees w1 (some ⟨w.heap.size + 1, 0, none⟩) 64 p := by
        have hlt2 : w.heap.size + 1 < wr.heap.size := (Array.getElem?_eq_some_iff.1 HRW.out).1
        have h1 : w1.heap[w.heap.size + 1]? = some (.cells (brow p) 98 (0, 0)) := by rw [hb1.block _ hlt2]; exact HRW.out
        exact ⟨by rw [HP.out]; exact Nat.le_refl _, by unfold maxLen; omega, by simp, fun _ => ⟨_, 0, rfl, fun i x hx => by rw [Nat.zero_add]; exact cell_bytes h1 hx⟩⟩
      have bel1 : Below w.heap.size w w1 := hb.trans (hb1.mono hb.size)
      have hw := write_any w1 wr.heap.size [] hD1 _ 64 p hs1 (HT.out.below bel1) (by rw [HP.out]; simp)
      rw [List.nil_append, HP.out] at hw
      clear hnew hs1
      go_wp2_with fail
      refine hw.mono ?_
      rintro e w2 ⟨rfl, hD2, hbt2⟩
      have hwl : w.heap.size < wr.heap.size := (Array.getElem?_eq_some_iff.1 HRS.out).1
      obtain ⟨a, ho, hsl⟩ := hD2.obj
      have bel2 : Below w.heap.size w w2 := hbt2.below bel1 hb.size
      rw [leftOf_64 p HP.out, HP.out] at ho
      have hr2 : w2.heap[w.heap.size]? = some (.cells #[.bool false, .int .i64 0, .int .u32 0, .int .u32 0, .int .u32 0, .int .u32 0, .int .u32 0, .int .u32 0, .int .u32 0, .int .u32 0, .slice none 0 0] 103 (0, 0)) := by
        rw [hbt2.block _ (Nat.lt_of_lt_of_le hwl hb1.size) (by omega), hb1.block _ hwl]; exact HRS.out
      obtain ⟨D, hD⟩ : ∃ D, D = (digL [] 64 (stOf p) (.slice a 0 0)).toArray := ⟨_, rfl⟩
      have hDs : D.size = 11 := by rw [hD]; rfl
      have hrow2 : w2.heap[wr.heap.size]? = some (.cells D 103 (0, 0)) := by rw [hD]; exact ho.1
      have hD1' : D.all (·.oneCell') = true := by rw [hD]; simp [digL, Value.oneCell']
      have HLD : Hid ((Instr.loadAt 103 (.pointer (some ⟨wr.heap.size, 0, none⟩))).run Tryd.prog w2 = .ok (.agg D) w2) := loadAt_row (P := Tryd.prog) w2 _ 103 103 D (0, 0) _ hrow2 Tryd.underlying103 rfl (by rw [hDs]; kernel_rfl)
      have HST : Hid ((Instr.storeAt 103 (.pointer (some ⟨w.heap.size, 0, none⟩)) (.agg D)).run Tryd.prog w2 = .ok () (w2.setRow w.heap.size D)) := storeAt_row (P := Tryd.prog) w2 w.heap.size 103 103 _ D hr2 (by rw [hDs]; kernel_rfl) (by rw [hDs]; rfl) hD1'
      have hres := setRow_heap w2 w.heap.size _ D 103 _ hr2
      have hbel := below_setRow bel2 (Nat.le_refl _) D
      have HD : Hid (D = (digL [] 64 (stOf p) (.slice a 0 0)).toArray) := hD
      have HDS : Hid (D.size = 11) := hDs
      clear hw hD1 hD2 hbt2 ho hsl hr2 hD hDs hrow2 hD1' HRW HRS
      go_wp2_with (first | refine wpList_load_run rfl 103 _ rfl _ _ rfl HLD.out ?_ | refine wpList_store_run rfl 103 _ _ rfl _ _ rfl rfl HST.out ?_)
      (try simp only [Exit.inBlock, Exit.then])
      refine bodyPost_ret (results_cell_row rfl _ _ w.heap.size 103 D (0, 0) _ rfl hres Tryd.underlying103 rfl (by rw [HDS.out]; kernel_rfl)) rfl ?_
      exact ⟨a, by rw [HD.out, HPP.out], hbel⟩
end Go.Proofs.YtleedppcandbkaaDoor
