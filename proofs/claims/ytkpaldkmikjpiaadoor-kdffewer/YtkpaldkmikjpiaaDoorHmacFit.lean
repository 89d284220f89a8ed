/-
  The contract of hmac.fit: the key as a block of 64 bytes.
-/
import Derived.Test.YtkpaldkmikjpiaaDoorOf
import Derived.Test.YtkpaldkmikjpiaaDoorHmacMath
import Derived.Laws.CopyRow
namespace Go.Proofs.YtkpaldkmikjpiaaDoor
open Go.ChangeShapes Go.WideShapes Go.ChangeAt Go.RowKit

/-- A 'copy' whose run is known. -/
theorem wpList_copy_run {P : Program} {w w' : World} {ops : Array Oper} {rest : List Oper} {o : Oper} {a : Act} {Q : Exit → Act → World → Prop} (hgd : o.guard = none) (s x : Operand) (t : TypeId)
    (ho : o.op = .call { callee := .builtin .copy, args := #[s, x], argTypes := #[t, t] }) (v u r : Value) (hs : a.eval s = v) (hx : a.eval x = u)
    (hrun : (Builtin.copy_ #[t, t] o.type #[v, u]).run P w = .ok r w') (h : wpList P ops Q rest (a.put o.dst r) w') : wpList P ops Q (o :: rest) a w := by
  refine wpList_plain hgd fun K hK => ?_
  unfold Oper.wp
  simp [execOp, ho, resolve, invoke, builtin, hs, hx, hrun, Result.andThen]
  exact hK _ _ h

/-- A row of bytes. -/
def brow (l : List UInt8) : Array Value := (l.map cellOf).toArray
theorem brow_size (l : List UInt8) : (brow l).size = l.length := by simp [brow]
theorem brow_one (l : List UInt8) : (brow l).all (·.oneCell') = true := all_oneCell_toArray (bytes_oneCell l)
theorem cell_bytes {w : World} {g : Nat} {l : List UInt8} {t : TypeId} {fr : Nat × Nat} (h : w.heap[g]? = some (.cells (brow l) t fr)) {k : Nat} {x : UInt8} (hx : l[k]? = some x) : w.cell? ⟨g, k, none⟩ = some (.int .u8 (x.toNat : Int)) := by
  rw [cell_of_row w _ k _ _ _ h]
  simp [brow, hx, cellOf]
theorem setCell_bytes {w : World} {g : Nat} {l : List UInt8} {t : TypeId} (h : w.heap[g]? = some (.cells (brow l) t (0, 0))) (k : Nat) (x : UInt8) :
    (w.setCell ⟨g, k, none⟩ (.int .u8 (x.toNat : Int))).heap[g]? = some (.cells (brow (l.set k x)) t (0, 0)) := by
  rw [heap_setCell_same _ _ _ _ _ _ h]
  congr 2
  unfold brow
  rw [List.setIfInBounds_toArray, List.map_set]; rfl

/-- 64 noughts. -/
def z64 : List UInt8 := List.replicate 64 0

/-- 'copy' of at most 64 bytes to the head of 64 noughts. -/
theorem copy_64 (w : World) (g : Nat) (hg : w.heap[g]? = some (.cells (brow z64) 71 (0, 0))) (a : Option Addr) (ca : Nat) (l : List UInt8) (ha : Sees w a ca l) (hl : l.length ≤ 64) :
    ∃ w', (Builtin.copy_ #[22, 22] 3 #[.slice (some ⟨g, 0, none⟩) 64 64, .slice a l.length ca]).run Tryd.prog w = .ok (.int .i64 (l.length : Int)) w' ∧ w'.heap[g]? = some (.cells (brow (l ++ List.replicate (64 - l.length) 0)) 71 (0, 0)) ∧ But g w w' := by
  by_cases h0 : l = []
  · subst h0
    refine ⟨w, run_copy_none (P := Tryd.prog) w 22 22 3 5 _ _ 64 64 0 ca Tryd.underlying22 (by kernel_rfl) (by simp), ?_, But.refl _ _⟩
    rw [hg]; rfl
  · obtain ⟨b, off, rfl, _⟩ := ha.at' h0
    have h1 := run_copy_row Tryd.prog w 22 22 3 5 g 0 64 64 ⟨b, off, none⟩ l.length ca (brow z64) 71 (l.map cellOf) Tryd.underlying22 (by kernel_rfl) hg (by simp [Nat.min_eq_left hl]) (ha.news _ rfl) (by rw [brow_size]; simp [z64]; omega) (bytes_oneCell l)
    rw [List.length_map] at h1
    have h2 : ((brow z64).toList.take 0 ++ l.map cellOf ++ (brow z64).toList.drop (0 + l.length)).toArray = brow (l ++ List.replicate (64 - l.length) 0) := by
      have hz : (brow z64).toList = List.replicate 64 (cellOf 0) := by unfold brow z64; rw [List.map_replicate]
      rw [hz, List.drop_replicate]
      simp [brow]
    rw [h2] at h1
    exact ⟨_, h1, setRow_heap w g _ _ 71 _ hg, ⟨rfl, rfl, rfl, by simp [World.setRow], fun k hk hn => by simp [World.setRow, Array.getElem?_modify, Ne.symm hn]⟩⟩

set_option maxHeartbeats 1600000 in
set_option maxRecDepth 20000 in
theorem fit_ok (w : World) (a : Option Addr) (ca : Nat) (key : List UInt8) (ha : Sees w a ca key) (hF : FTab w) (hT : KTab w) (hl : key.length ≤ 1048576) :
    Calls Tryd.prog 48 #[.slice a key.length ca] w fun e w' => e = .returned (.tuple #[.agg (brow (fillK key)), .int .i64 0]) ∧ Below w.heap.size w w' := by
  obtain ⟨W, hW⟩ : ∃ W, W = (w.alloc (.cells (brow z64) 71)).alloc (.cells (brow z64) 71) := ⟨_, rfl⟩
  have hbW : Below w.heap.size w W := by rw [hW]; exact ((Below.refl _ _).alloc (Nat.le_refl _) _).alloc (by simp) _
  have hres : W.heap[w.heap.size]? = some (.cells (brow z64) 71 (0, 0)) := by rw [hW]; exact heap_alloc2_old w _ _
  have hblk : W.heap[w.heap.size + 1]? = some (.cells (brow z64) 71 (0, 0)) := by rw [hW]; exact heap_alloc2_new w _ _
  have hszW : W.heap.size = w.heap.size + 2 := by rw [hW]; simp
  -- what is copied, and what comes behind
  have hend : ∀ (W2 : World) (x : Option Addr) (cx : Nat) (k : List UInt8), Below W.heap.size W W2 → Sees W2 x cx k → k = keyL key →
      ∃ W3, (Builtin.copy_ #[22, 22] 3 #[.slice (some ⟨w.heap.size + 1, 0, none⟩) 64 64, .slice x k.length cx]).run Tryd.prog W2 = .ok (.int .i64 (k.length : Int)) W3 ∧
        (Instr.loadAt 71 (.pointer (some ⟨w.heap.size + 1, 0, none⟩))).run Tryd.prog W3 = .ok (.agg (brow (fillK key))) W3 ∧
        (Instr.storeAt 71 (.pointer (some ⟨w.heap.size, 0, none⟩)) (.agg (brow (fillK key)))).run Tryd.prog W3 = .ok () (W3.setRow w.heap.size (brow (fillK key))) ∧
        (W3.setRow w.heap.size (brow (fillK key))).heap[w.heap.size]? = some (.cells (brow (fillK key)) 71 (0, 0)) ∧ Below w.heap.size w (W3.setRow w.heap.size (brow (fillK key))) := by
    intro W2 x cx k hb hs hk
    have hk64 := keyL_le key
    have hr2 : W2.heap[w.heap.size]? = some (.cells (brow z64) 71 (0, 0)) := by rw [hb.block _ (by omega)]; exact hres
    have hb2 : W2.heap[w.heap.size + 1]? = some (.cells (brow z64) 71 (0, 0)) := by rw [hb.block _ (by omega)]; exact hblk
    obtain ⟨W3, h1, h2, h3⟩ := copy_64 W2 (w.heap.size + 1) hb2 x cx k hs (by rw [hk]; exact hk64)
    have hfill : k ++ List.replicate (64 - k.length) 0 = fillK key := by rw [hk]; rfl
    rw [hfill] at h2
    have hsz : (brow (fillK key)).size = 64 := by rw [brow_size, fillK_length]
    have hr3 : W3.heap[w.heap.size]? = some (.cells (brow z64) 71 (0, 0)) := by rw [h3.block _ (by have := hb.size; omega) (by omega)]; exact hr2
    have hB3 : Below w.heap.size w W3 := h3.below (hbW.trans (hb.mono hbW.size)) (by omega)
    exact ⟨W3, h1, loadAt_row (P := Tryd.prog) W3 _ 71 71 _ (0, 0) _ h2 Tryd.underlying71 rfl (by rw [hsz]; kernel_rfl),
      storeAt_row (P := Tryd.prog) W3 w.heap.size 71 71 _ _ hr3 (by rw [hsz]; kernel_rfl) (by rw [hsz, brow_size]; rfl) (brow_one _), setRow_heap W3 _ _ _ 71 _ hr3, below_setRow hB3 (Nat.le_refl _) _⟩
  have HE : Hid (∀ (W2 : World) (x : Option Addr) (cx : Nat) (k : List UInt8), Below W.heap.size W W2 → Sees W2 x cx k → k = keyL key →
      ∃ W3, (Builtin.copy_ #[22, 22] 3 #[.slice (some ⟨w.heap.size + 1, 0, none⟩) 64 64, .slice x k.length cx]).run Tryd.prog W2 = .ok (.int .i64 (k.length : Int)) W3 ∧
        (Instr.loadAt 71 (.pointer (some ⟨w.heap.size + 1, 0, none⟩))).run Tryd.prog W3 = .ok (.agg (brow (fillK key))) W3 ∧
        (Instr.storeAt 71 (.pointer (some ⟨w.heap.size, 0, none⟩)) (.agg (brow (fillK key)))).run Tryd.prog W3 = .ok () (W3.setRow w.heap.size (brow (fillK key))) ∧
        (W3.setRow w.heap.size (brow (fillK key))).heap[w.heap.size]? = some (.cells (brow (fillK key)) 71 (0, 0)) ∧ Below w.heap.size w (W3.setRow w.heap.size (brow (fillK key)))) := hend
  have hsz : (brow (fillK key)).size = 64 := by rw [brow_size, fillK_length]
  have HSZ : Hid ((brow (fillK key)).size = 64) := hsz
  obtain ⟨C, hC⟩ : ∃ C, C = brow (fillK key) := ⟨_, rfl⟩
  rw [← hC] at HE HSZ ⊢
  clear hC hend hres hblk hszW hsz
  by_cases hbig : 64 < key.length
  · have hd : decide ((64 : Int) < (key.length : Int)) = true := by simp; omega
    have hof := of_ok W a ca key (ha.below hbW) (hF.below hbW) (hT.below hbW) hl
    have hkl0 : shaL key = keyL key := by unfold keyL; rw [if_pos hbig]
    have hkl : Hid (shaL key = keyL key) := hkl0
    rw [hW] at hof
    clear ha hF hT hbig hkl0
    go_enter Tryd.func48, Tryd.ntmps48
    go_wp2_with fail
    refine hof.mono ?_
    rintro e w2 ⟨d, cd, r, hr, rfl, hs2, hb2⟩
    obtain ⟨W3, h1, h2, h3, h4, h5⟩ := HE.out w2 d cd r (by rw [hW]; exact hb2) hs2 (by rw [hr.out]; exact hkl.out)
    have HCP : Hid ((Builtin.copy_ #[22, 22] 3 #[.slice (some ⟨w.heap.size + 1, 0, none⟩) 64 64, .slice d r.length cd]).run Tryd.prog w2 = .ok (.int .i64 (r.length : Int)) W3) := h1
    have HLD : Hid ((Instr.loadAt 71 (.pointer (some ⟨w.heap.size + 1, 0, none⟩))).run Tryd.prog W3 = .ok (.agg C) W3) := h2
    have HST : Hid ((Instr.storeAt 71 (.pointer (some ⟨w.heap.size, 0, none⟩)) (.agg C)).run Tryd.prog W3 = .ok () (W3.setRow w.heap.size C)) := h3
    clear hof HE hr hs2 hb2 h1 h2 h3 hW hbW
    go_wp2_with (first | refine wpList_copy_run rfl _ _ 22 rfl _ _ _ rfl rfl HCP.out ?_ | refine wpList_load_run rfl 71 _ rfl _ _ rfl HLD.out ?_ | refine wpList_store_run rfl 71 _ _ rfl _ _ rfl rfl HST.out ?_)
    (try simp only [Exit.inBlock, Exit.then])
    refine bodyPost_ret (results_cell_tmp rfl _ _ w.heap.size 71 C (0, 0) _ rfl h4 Tryd.underlying71 rfl (by rw [HSZ.out]; kernel_rfl)) rfl ?_
    exact ⟨rfl, h5⟩
  · have hd : decide ((64 : Int) < (key.length : Int)) = false := by simp; omega
    have hkl : keyL key = key := by unfold keyL; rw [if_neg hbig]
    obtain ⟨W3, h1, h2, h3, h4, h5⟩ := HE.out W a ca key (Below.refl _ _) (ha.below hbW) hkl.symm
    rw [hW] at h1
    have HCP : Hid ((Builtin.copy_ #[22, 22] 3 #[.slice (some ⟨w.heap.size + 1, 0, none⟩) 64 64, .slice a key.length ca]).run Tryd.prog ((w.alloc (.cells (brow z64) 71)).alloc (.cells (brow z64) 71)) = .ok (.int .i64 (key.length : Int)) W3) := h1
    have HLD : Hid ((Instr.loadAt 71 (.pointer (some ⟨w.heap.size + 1, 0, none⟩))).run Tryd.prog W3 = .ok (.agg C) W3) := h2
    have HST : Hid ((Instr.storeAt 71 (.pointer (some ⟨w.heap.size, 0, none⟩)) (.agg C)).run Tryd.prog W3 = .ok () (W3.setRow w.heap.size C)) := h3
    clear HE h1 h2 h3 hW hbW ha hF hT hkl
    go_enter Tryd.func48, Tryd.ntmps48
    go_wp2_with (first | refine wpList_copy_run rfl _ _ 22 rfl _ _ _ rfl rfl HCP.out ?_ | refine wpList_load_run rfl 71 _ rfl _ _ rfl HLD.out ?_ | refine wpList_store_run rfl 71 _ _ rfl _ _ rfl rfl HST.out ?_)
    (try simp only [Exit.inBlock, Exit.then])
    refine bodyPost_ret (results_cell_tmp rfl _ _ w.heap.size 71 C (0, 0) _ rfl h4 Tryd.underlying71 rfl (by rw [HSZ.out]; kernel_rfl)) rfl ?_
    exact ⟨rfl, h5⟩
end Go.Proofs.YtkpaldkmikjpiaaDoor
