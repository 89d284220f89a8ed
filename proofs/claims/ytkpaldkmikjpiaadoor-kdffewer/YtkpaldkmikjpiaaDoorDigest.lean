/-
  A digest in memory; the contracts of New, Len, Copy, and of what tells whether one stands.
-/
import Derived.Test.YtkpaldkmikjpiaaDoorFill
import Derived.Test.YtkpaldkmikjpiaaDoorNone
namespace Go.Proofs.YtkpaldkmikjpiaaDoor
open Go.ChangeShapes Go.WideShapes Go.ChangeAt Go.RowKit

/-- An append in a region that draws its order, its run known. -/
theorem step_append_run {P : Program} {w w' : World} {ops : Array Oper} {o : Oper} {a : Act} {K : Act → World → Prop} {Q : Exit → Act → World → Prop} {E : Prop} (hgd : o.guard = none) (s x : Operand) (t : TypeId)
    (ho : o.op = .call { callee := .builtin .append, args := #[s, x], argTypes := #[t, t] }) (v u r : Value) (hs : a.eval s = v) (hx : a.eval x = u)
    (hrun : (Builtin.append_ #[t, t] o.type #[v, u]).run P w = .ok r w') (h : K (a.put o.dst r) w') : if Region.wanted o (yielded ops a.tmps) = true then Oper.wp P o a w K Q else E := by
  have hw : Region.wanted o (yielded ops a.tmps) = true := by simp [Region.wanted, hgd]
  rw [if_pos hw]
  unfold Oper.wp execOp
  simp only [ho, resolve, invoke, builtin, Sem.run_bind, Sem.run_pure, Result.andThen_ok, List.map_toArray, List.map_cons, List.map_nil, hs, hx, hrun]
  exact h

/-- Only block b, and new ones, have changed. -/
structure But (b : Nat) (w w' : World) : Prop where
  os : w'.os = w.os
  tape : w'.tape = w.tape
  output : w'.output = w.output
  size : w.heap.size ≤ w'.heap.size
  block : ∀ k, k < w.heap.size → k ≠ b → w'.heap[k]? = w.heap[k]?

theorem But.refl (b : Nat) (w : World) : But b w w := ⟨rfl, rfl, rfl, Nat.le_refl _, fun _ _ _ => rfl⟩
theorem But.trans {b : Nat} {w w' w'' : World} (h : But b w w') (k : But b w' w'') : But b w w'' :=
  ⟨k.os.trans h.os, k.tape.trans h.tape, k.output.trans h.output, Nat.le_trans h.size k.size, fun i hi hn => (k.block i (Nat.lt_of_lt_of_le hi h.size) hn).trans (h.block i hi hn)⟩
theorem But.of_below {b : Nat} {w w' : World} (h : Below w.heap.size w w') : But b w w' := ⟨h.os, h.tape, h.output, h.size, fun k hk _ => h.block k hk⟩
theorem But.setCell {b : Nat} {w w' : World} (h : But b w w') (i : Nat) (v : Value) : But b w (w'.setCell ⟨b, i, none⟩ v) :=
  ⟨h.os, h.tape, h.output, by simpa using h.size, fun k hk hn => by rw [heap_setCell_other _ _ _ _ hn]; exact h.block k hk hn⟩
theorem But.drewN {b : Nat} {w w' : World} (h : But b w w') (n : Nat) : But b w (w'.drewN n) := ⟨h.os, h.tape, h.output, h.size, h.block⟩
theorem But.below {b : Nat} {w0 w w' : World} (h : But b w w') (hb : Below w0.heap.size w0 w) (hn : w0.heap.size ≤ b) : Below w0.heap.size w0 w' :=
  ⟨h.os.trans hb.os, h.tape.trans hb.tape, h.output.trans hb.output, Nat.le_trans hb.size h.size, fun k hk => (h.block k (Nat.lt_of_lt_of_le hk hb.size) (by omega)).trans (hb.block k hk)⟩

/-- No byte is among them. -/
def NoBytes (R : List Value) : Prop := ∀ u ∈ R, ∀ x : UInt8, u ≠ .int .u8 (x.toNat : Int)
/-- The cells of a digest: n bytes were written, s is the state, v what is left; R behind them. -/
def digL (R : List Value) (n : Nat) (s : S8) (v : Value) : List Value :=
  .bool true :: .int .i64 (n : Int) :: .int .u32 (s.a : Int) :: .int .u32 (s.b : Int) :: .int .u32 (s.c : Int) :: .int .u32 (s.d : Int) :: .int .u32 (s.e : Int) :: .int .u32 (s.f : Int) :: .int .u32 (s.g : Int) :: .int .u32 (s.h : Int) :: v :: R
/-- A digest at the head of block b, R behind it. -/
def ObjAt (R : List Value) (ty : TypeId) (w : World) (b n : Nat) (s : S8) (v : Value) : Prop :=
  w.heap[b]? = some (.cells (digL R n s v).toArray ty (0, 0)) ∧ NoBytes R

theorem ObjAt.lt {R : List Value} {ty : TypeId} {w : World} {b n : Nat} {s : S8} {v : Value} (h : ObjAt R ty w b n s v) : b < w.heap.size := (Array.getElem?_eq_some_iff.1 h.1).1
theorem ObjAt.cellAt {R : List Value} {ty : TypeId} {w : World} {b n : Nat} {s : S8} {v : Value} (h : ObjAt R ty w b n s v) (i : Nat) {u : Value} (hu : (digL R n s v)[i]? = some u) : w.cell? ⟨b, i, none⟩ = some u := by
  rw [cell_of_row _ _ i _ _ _ h.1, List.getElem?_toArray]; exact hu
theorem ObjAt.made {R : List Value} {ty : TypeId} {w : World} {b n : Nat} {s : S8} {v : Value} (h : ObjAt R ty w b n s v) : w.cell? ⟨b, 0, none⟩ = some (.bool true) := h.cellAt 0 rfl
theorem ObjAt.size {R : List Value} {ty : TypeId} {w : World} {b n : Nat} {s : S8} {v : Value} (h : ObjAt R ty w b n s v) : w.cell? ⟨b, 1, none⟩ = some (.int .i64 (n : Int)) := h.cellAt 1 rfl
theorem ObjAt.left {R : List Value} {ty : TypeId} {w : World} {b n : Nat} {s : S8} {v : Value} (h : ObjAt R ty w b n s v) : w.cell? ⟨b, 10, none⟩ = some v := h.cellAt 10 rfl
theorem ObjAt.frozen {R : List Value} {ty : TypeId} {w : World} {b n : Nat} {s : S8} {v : Value} (h : ObjAt R ty w b n s v) (k : Nat) : w.frozen? ⟨b, k, none⟩ = false := frozen_of_row _ _ k _ _ h.1
theorem ObjAt.keep {R : List Value} {ty : TypeId} {w w' : World} {b n : Nat} {s : S8} {v : Value} (h : ObjAt R ty w b n s v) (hb : w'.heap[b]? = w.heap[b]?) : ObjAt R ty w' b n s v := ⟨hb.trans h.1, h.2⟩
theorem ObjAt.below {R : List Value} {ty : TypeId} {w w' : World} {b n : Nat} {s : S8} {v : Value} (h : ObjAt R ty w b n s v) (hb : Below w.heap.size w w') : ObjAt R ty w' b n s v := h.keep (hb.block b h.lt)
theorem ObjAt.drewN {R : List Value} {ty : TypeId} {w : World} {b n : Nat} {s : S8} {v : Value} (h : ObjAt R ty w b n s v) (k : Nat) : ObjAt R ty (w.drewN k) b n s v := h
theorem ObjAt.but {R : List Value} {ty : TypeId} {w w' : World} {b c n : Nat} {s : S8} {v : Value} (h : ObjAt R ty w b n s v) (hb : But c w w') (hn : b ≠ c) : ObjAt R ty w' b n s v := h.keep (hb.block b h.lt hn)

theorem setCell_list {w : World} {b : Nat} {L : List Value} {t : TypeId} (h : w.heap[b]? = some (.cells L.toArray t (0, 0))) (i : Nat) (v : Value) :
    (w.setCell ⟨b, i, none⟩ v).heap[b]? = some (.cells (L.set i v).toArray t (0, 0)) := by
  rw [heap_setCell_same _ _ _ _ _ _ h, List.setIfInBounds_toArray]

theorem ObjAt.setSize {R : List Value} {ty : TypeId} {w : World} {b n : Nat} {s : S8} {v : Value} (h : ObjAt R ty w b n s v) (m : Nat) : ObjAt R ty (w.setCell ⟨b, 1, none⟩ (.int .i64 (m : Int))) b m s v := ⟨setCell_list h.1 1 _, h.2⟩
theorem ObjAt.setLeft {R : List Value} {ty : TypeId} {w : World} {b n : Nat} {s : S8} {v : Value} (h : ObjAt R ty w b n s v) (u : Value) : ObjAt R ty (w.setCell ⟨b, 10, none⟩ u) b n s u := ⟨setCell_list h.1 10 _, h.2⟩

theorem ObjAt.stateAt {R : List Value} {ty : TypeId} {w : World} {b n : Nat} {s : S8} {v : Value} (h : ObjAt R ty w b n s v) : w.rangeAt b 2 (s.list.map wcell) := fun j u hu => by
  have hj : j < 8 := by have := (List.getElem?_eq_some_iff.1 hu).1; simpa [S8.list] using this
  have hc : j = 0 ∨ j = 1 ∨ j = 2 ∨ j = 3 ∨ j = 4 ∨ j = 5 ∨ j = 6 ∨ j = 7 := by omega
  rcases hc with rfl | rfl | rfl | rfl | rfl | rfl | rfl | rfl <;> exact h.cellAt _ hu

/-- The state read. -/
theorem ObjAt.loads {R : List Value} {ty : TypeId} {w : World} {b n : Nat} {s : S8} {v : Value} (h : ObjAt R ty w b n s v) : (Instr.loadAt 74 (.pointer (some ⟨b, 2, none⟩))).run Tryd.prog w = .ok (.agg s.cells) w :=
  run_loadAt_mid w b 2 74 (s.list.map wcell) _ h.stateAt Tryd.underlying74 rfl (by kernel_rfl)

/-- The state written. -/
theorem ObjAt.stores {R : List Value} {ty : TypeId} {w : World} {b n : Nat} {s : S8} {v : Value} (h : ObjAt R ty w b n s v) (T : S8) :
    ∃ w', (Instr.storeAt 74 (.pointer (some ⟨b, 2, none⟩)) (.agg T.cells)).run Tryd.prog w = .ok () w' ∧ ObjAt R ty w' b n T v ∧ But b w w' := by
  have ht : w.there b 2 T.cells.size := fun j hj => by
    refine ⟨?_, h.frozen _⟩
    have hj : j < 8 := hj
    have hc : j = 0 ∨ j = 1 ∨ j = 2 ∨ j = 3 ∨ j = 4 ∨ j = 5 ∨ j = 6 ∨ j = 7 := by omega
    rcases hc with rfl | rfl | rfl | rfl | rfl | rfl | rfl | rfl <;> (rw [h.cellAt _ rfl]; rfl)
  refine ⟨_, run_storeAt_mid w b 2 74 T.cells ht (by kernel_rfl) (by rw [S8.cells_eq]; exact words_one _), ⟨?_, h.2⟩, ?_⟩
  · show ((((((((w.setCell ⟨b, 2, none⟩ (.int .u32 (T.a : Int))).setCell ⟨b, 3, none⟩ (.int .u32 (T.b : Int))).setCell ⟨b, 4, none⟩ (.int .u32 (T.c : Int))).setCell ⟨b, 5, none⟩ (.int .u32 (T.d : Int))).setCell ⟨b, 6, none⟩ (.int .u32 (T.e : Int))).setCell ⟨b, 7, none⟩ (.int .u32 (T.f : Int))).setCell ⟨b, 8, none⟩ (.int .u32 (T.g : Int))).setCell ⟨b, 9, none⟩ (.int .u32 (T.h : Int))).heap[b]? = _
    have h2 := setCell_list h.1 2 (.int .u32 (T.a : Int))
    have h3 := setCell_list h2 3 (.int .u32 (T.b : Int))
    have h4 := setCell_list h3 4 (.int .u32 (T.c : Int))
    have h5 := setCell_list h4 5 (.int .u32 (T.d : Int))
    have h6 := setCell_list h5 6 (.int .u32 (T.e : Int))
    have h7 := setCell_list h6 7 (.int .u32 (T.f : Int))
    have h8 := setCell_list h7 8 (.int .u32 (T.g : Int))
    exact setCell_list h8 9 (.int .u32 (T.h : Int))
  · exact ((((((((But.refl b w).setCell 2 _).setCell 3 _).setCell 4 _).setCell 5 _).setCell 6 _).setCell 7 _).setCell 8 _).setCell 9 _

/-- Bytes do not lie in a digest. -/
theorem Sees.but {R : List Value} {ty : TypeId} {w w' : World} {b n : Nat} {s : S8} {v : Value} {a : Option Addr} {cap : Nat} {l : List UInt8} (h : Sees w a cap l) (ho : ObjAt R ty w b n s v) (hv : ∀ x : UInt8, v ≠ .int .u8 (x.toNat : Int)) (hb : But b w w') : Sees w' a cap l :=
  ⟨h.fits, h.room, h.bare, fun hne => by
    obtain ⟨g, off, ha, hc⟩ := h.at' hne
    refine ⟨g, off, ha, fun i x hx => ?_⟩
    have h1 := hc i x hx
    have hg : g ≠ b := by
      rintro rfl
      rw [cell_of_row _ _ (off + i) _ _ _ ho.1, List.getElem?_toArray] at h1
      generalize off + i = j at h1
      match j, h1 with
      | 0, h1 => simp [digL] at h1
      | 1, h1 => simp [digL] at h1
      | 2, h1 => simp [digL] at h1
      | 3, h1 => simp [digL] at h1
      | 4, h1 => simp [digL] at h1
      | 5, h1 => simp [digL] at h1
      | 6, h1 => simp [digL] at h1
      | 7, h1 => simp [digL] at h1
      | 8, h1 => simp [digL] at h1
      | 9, h1 => simp [digL] at h1
      | 10, h1 => exact hv x (by simpa [digL] using h1)
      | k + 11, h1 =>
        have h2 : R[k]? = some (.int .u8 (x.toNat : Int)) := h1
        exact ho.2 _ (List.mem_of_getElem? h2) x rfl
    rw [World.cell?_of_block (w := w) (hb.block g (World.block_lt_of_cell? w _ h1) hg), h1]⟩

/-- The digest at block b is one of the bytes bs. -/
structure Dig (R : List Value) (ty : TypeId) (w : World) (b : Nat) (bs : List UInt8) : Prop where
  len : bs.length ≤ 1048576
  obj : ∃ a, ObjAt R ty w b bs.length (stOf bs) (.slice a (leftOf bs).length (leftOf bs).length) ∧ Sees w a (leftOf bs).length (leftOf bs)

theorem Dig.lt {R : List Value} {ty : TypeId} {w : World} {b : Nat} {bs : List UInt8} (h : Dig R ty w b bs) : b < w.heap.size := by obtain ⟨a, ho, _⟩ := h.obj; exact ho.lt
theorem Dig.below {R : List Value} {ty : TypeId} {w w' : World} {b : Nat} {bs : List UInt8} (h : Dig R ty w b bs) (hb : Below w.heap.size w w') : Dig R ty w' b bs := by
  obtain ⟨a, ho, hs⟩ := h.obj
  exact ⟨h.len, a, ho.below hb, hs.below hb⟩
theorem Dig.but {R : List Value} {ty : TypeId} {R2 : List Value} {ty2 : TypeId} {w w' : World} {b c : Nat} {bs cs : List UInt8} (h : Dig R ty w b bs) (hc : Dig R2 ty2 w c cs) (hb : But c w w') (hn : b ≠ c) : Dig R ty w' b bs := by
  obtain ⟨a, ho, hs⟩ := h.obj
  obtain ⟨a2, ho2, _⟩ := hc.obj
  exact ⟨h.len, a, ho.but hb hn, hs.but ho2 (by intro x; simp) hb⟩
theorem Dig.sees {R : List Value} {ty : TypeId} {w w' : World} {b : Nat} {bs : List UInt8} (h : Dig R ty w b bs) (hb : But b w w') {a : Option Addr} {cap : Nat} {l : List UInt8} (hs : Sees w a cap l) : Sees w' a cap l := by
  obtain ⟨a2, ho2, _⟩ := h.obj
  exact hs.but ho2 (by intro x; simp) hb

set_option maxHeartbeats 400000 in
set_option maxRecDepth 20000 in
theorem stands_at (w : World) (b o : Nat) (h : w.cell? ⟨b, o, none⟩ = some (.bool true)) : Calls Tryd.prog 54 #[.pointer (some ⟨b, o, none⟩)] w fun e w' => e = .returned (.bool true) ∧ w' = w := by
  go_enter Tryd.func54, Tryd.ntmps54
  go_wp2
  go_ret
  exact ⟨rfl, rfl⟩
theorem stands_yes (w : World) (b : Nat) (h : w.cell? ⟨b, 0, none⟩ = some (.bool true)) : Calls Tryd.prog 54 #[.pointer (some ⟨b, 0, none⟩)] w fun e w' => e = .returned (.bool true) ∧ w' = w := stands_at w b 0 h

/-- The state at first lies in its table. -/
def FTab (w : World) : Prop := ∀ t, t < 8 → w.cell? ⟨0, t, none⟩ = some (.int .u32 ((start.list.getD t 0 : Nat) : Int))
theorem FTab.below {w w' : World} (h : FTab w) (hb : Below w.heap.size w w') : FTab w' := fun t ht => by
  rw [hb.cell (p := ⟨0, t, none⟩) (World.block_lt_of_cell? w _ (h t ht))]; exact h t ht
theorem FTab.loads {w : World} (h : FTab w) : (Instr.loadAt 74 (.pointer (some ⟨0, 0, none⟩))).run Tryd.prog w = .ok (.agg start.cells) w :=
  run_loadAt_mid w 0 0 74 (start.list.map wcell) _ (fun j u hu => by
    have hj : j < 8 := by have := (List.getElem?_eq_some_iff.1 hu).1; simpa [S8.list] using this
    rw [Nat.zero_add, h j hj]
    rw [List.getElem?_map] at hu
    obtain ⟨x, hx, rfl⟩ := Option.map_eq_some_iff.1 hu
    simp [hx, wcell]) Tryd.underlying74 rfl (by kernel_rfl)

set_option maxHeartbeats 400000 in
set_option maxRecDepth 20000 in
theorem new_any (w : World) (hF : FTab w) : Calls Tryd.prog 45 #[] w fun e w' => e = .returned (.pointer (some ⟨w.heap.size, 0, none⟩)) ∧ Dig [] 76 w' w.heap.size [] ∧ Below w.heap.size w w' := by
  have HL : Hid ((Instr.loadAt 74 (.pointer (some ⟨0, 0, none⟩))).run Tryd.prog w = .ok (.agg #[.int .u32 0x6a09e667, .int .u32 0xbb67ae85, .int .u32 0x3c6ef372, .int .u32 0xa54ff53a, .int .u32 0x510e527f, .int .u32 0x9b05688c, .int .u32 0x1f83d9ab, .int .u32 0x5be0cd19]) w) := hF.loads
  clear hF
  go_enter Tryd.func45, Tryd.ntmps45
  go_wp2_with (refine wpList_load_run rfl 74 _ rfl _ _ rfl HL.out ?_)
  go_ret
  have hb : Below w.heap.size w (w.alloc (.cells #[.bool true, .int .i64 0, .int .u32 0x6a09e667, .int .u32 0xbb67ae85, .int .u32 0x3c6ef372, .int .u32 0xa54ff53a, .int .u32 0x510e527f, .int .u32 0x9b05688c, .int .u32 0x1f83d9ab, .int .u32 0x5be0cd19, .slice none 0 0] 76)) := (Below.refl _ _).alloc (Nat.le_refl _) _
  exact ⟨rfl, ⟨by simp, none, ⟨heap_alloc_new w _, fun u hu => by cases hu⟩, Sees.nil' _⟩, hb⟩

set_option maxHeartbeats 800000 in
set_option maxRecDepth 20000 in
theorem copy_at (w : World) (b o : Nat) (bs : List UInt8) (hlen : bs.length ≤ 1048576) (a : Option Addr) (ho : w.rangeAt b o (digL [] bs.length (stOf bs) (.slice a (leftOf bs).length (leftOf bs).length))) (hs : Sees w a (leftOf bs).length (leftOf bs)) : Calls Tryd.prog 50 #[.pointer (some ⟨b, o, none⟩)] w fun e w' => e = .returned (.pointer (some ⟨w.heap.size, 0, none⟩)) ∧ Dig [] 76 w' w.heap.size bs ∧ Below w.heap.size w w' := by
  have h1 : w.cell? ⟨b, o, none⟩ = some (.bool true) := ho 0 _ rfl
  obtain ⟨C, hC⟩ : ∃ C : Array Value, C = #[.bool true, .int .i64 (bs.length : Int), .int .u32 ((stOf bs).a : Int), .int .u32 ((stOf bs).b : Int), .int .u32 ((stOf bs).c : Int), .int .u32 ((stOf bs).d : Int), .int .u32 ((stOf bs).e : Int), .int .u32 ((stOf bs).f : Int), .int .u32 ((stOf bs).g : Int), .int .u32 ((stOf bs).h : Int), .slice a (leftOf bs).length (leftOf bs).length] := ⟨_, rfl⟩
  have hone : C.all (·.oneCell') = true := by rw [hC]; simp [Value.oneCell']
  have hsz : C.size = 11 := by rw [hC]; rfl
  have HLD : Hid ((Instr.loadAt 76 (.pointer (some ⟨b, o, none⟩))).run Tryd.prog w = .ok (.agg C) w) := by
    rw [hC]
    exact run_loadAt_mid (P := Tryd.prog) w b o 76 _ _ ho Tryd.underlying76 rfl (by kernel_rfl)
  have HST : Hid ((Instr.storeAt 76 (.pointer (some ⟨w.heap.size, 0, none⟩)) (.agg C)).run Tryd.prog (w.alloc (.cells #[.bool false, .int .i64 0, .int .u32 0, .int .u32 0, .int .u32 0, .int .u32 0, .int .u32 0, .int .u32 0, .int .u32 0, .int .u32 0, .slice none 0 0] 76)) = .ok () ((w.alloc (.cells #[.bool false, .int .i64 0, .int .u32 0, .int .u32 0, .int .u32 0, .int .u32 0, .int .u32 0, .int .u32 0, .int .u32 0, .int .u32 0, .slice none 0 0] 76)).setRow w.heap.size C)) :=
    storeAt_row (P := Tryd.prog) _ w.heap.size 76 76 _ C (heap_alloc_new w _) (by rw [hsz]; kernel_rfl) (by rw [hsz]; rfl) hone
  have hb : Below w.heap.size w ((w.alloc (.cells #[.bool false, .int .i64 0, .int .u32 0, .int .u32 0, .int .u32 0, .int .u32 0, .int .u32 0, .int .u32 0, .int .u32 0, .int .u32 0, .slice none 0 0] 76)).setRow w.heap.size C) := below_setRow ((Below.refl _ _).alloc (Nat.le_refl _) _) (Nat.le_refl _) C
  have hnew : ((w.alloc (.cells #[.bool false, .int .i64 0, .int .u32 0, .int .u32 0, .int .u32 0, .int .u32 0, .int .u32 0, .int .u32 0, .int .u32 0, .int .u32 0, .slice none 0 0] 76)).setRow w.heap.size C).heap[w.heap.size]? = some (.cells C 76 (0, 0)) := setRow_heap _ _ _ C 76 _ (heap_alloc_new w _)
  have HC : Hid (Dig [] 76 ((w.alloc (.cells #[.bool false, .int .i64 0, .int .u32 0, .int .u32 0, .int .u32 0, .int .u32 0, .int .u32 0, .int .u32 0, .int .u32 0, .int .u32 0, .slice none 0 0] 76)).setRow w.heap.size C) w.heap.size bs) :=
    ⟨hlen, a, ⟨by rw [hnew, hC]; rfl, by intro u hu; cases hu⟩, hs.below hb⟩
  clear hC hone hsz hnew ho hs
  go_enter Tryd.func50, Tryd.ntmps50
  go_wp2_with fail
  refine (stands_at w b o h1).mono ?_
  rintro e w' ⟨rfl, rfl⟩
  go_wp2_with (first | refine wpList_load_run rfl 76 _ rfl _ _ rfl HLD.out ?_ | refine wpList_store_run rfl 76 _ _ rfl _ _ rfl rfl HST.out ?_)
  go_ret
  exact ⟨rfl, HC.out, hb⟩
theorem copy_yes {R : List Value} {ty : TypeId} (w : World) (b : Nat) (bs : List UInt8) (h : Dig R ty w b bs) : Calls Tryd.prog 50 #[.pointer (some ⟨b, 0, none⟩)] w fun e w' => e = .returned (.pointer (some ⟨w.heap.size, 0, none⟩)) ∧ Dig [] 76 w' w.heap.size bs ∧ Below w.heap.size w w' := by
  obtain ⟨a, ho, hs⟩ := h.obj
  refine copy_at w b 0 bs h.len a (fun j v hv => ?_) hs
  rw [Nat.zero_add]
  refine ho.cellAt j ?_
  have : digL R bs.length (stOf bs) (.slice a (leftOf bs).length (leftOf bs).length) = digL [] bs.length (stOf bs) (.slice a (leftOf bs).length (leftOf bs).length) ++ R := rfl
  rw [this, List.getElem?_append_left (List.getElem?_eq_some_iff.1 hv).1]; exact hv
end Go.Proofs.YtkpaldkmikjpiaaDoor
