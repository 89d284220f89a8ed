/-
  A stack of stones in memory; a pebble in memory. No contract of the program's own here.
-/
import Derived.Test.YtgncdnejmobjbaaGreatDoorChainC
import Derived.Test.YtgncdnejmobjbaaGreatDoorPebM
import Derived.Laws.AppendOwn
namespace Go.Proofs.YtgncdnejmobjbaaGreatDoor
open Go.ChangeShapes Go.WideShapes Go.ChangeAt Go.RowKit

/-- A stone: its place, and where its key lies. -/
abbrev Stone := Nat × Loc
def stoneC (x : Stone) : List Value := [.int .i64 (x.1 : Int), .slice x.2.1 16 x.2.2]
/-- The cells of the stones, the top one first in the list and last in memory. -/
def stackC : List Stone → List Value
  | [] => []
  | x :: T => stackC T ++ stoneC x
theorem stackC_len : ∀ T : List Stone, (stackC T).length = T.length * 2
  | [] => rfl
  | x :: T => by rw [stackC, List.length_append, stackC_len T]; simp [stoneC]; omega
theorem stackC_top (x : Stone) (T : List Stone) : (stackC (x :: T))[T.length * 2]? = some (.int .i64 (x.1 : Int)) ∧ (stackC (x :: T))[T.length * 2 + 1]? = some (.slice x.2.1 16 x.2.2) := by
  constructor
  · rw [stackC, List.getElem?_append_right (by rw [stackC_len]; omega), stackC_len]; simp [stoneC]
  · rw [stackC, List.getElem?_append_right (by rw [stackC_len]; omega), stackC_len]; simp [stoneC]
theorem stackC_pop (x : Stone) (T : List Stone) : (stackC (x :: T)).take (T.length * 2) = stackC T := by
  rw [stackC, ← stackC_len T]; exact List.take_left
/-- No cell of it is a byte. -/
def NoByte (cur : Array Value) : Prop := ∀ (j : Nat) (k : IntKind) (y : Int), cur[j]? = some (.int k y) → k = .i64
theorem NoByte.u8 {cur : Array Value} (h : NoByte cur) : ∀ (j : Nat) (y : Int), cur[j]? ≠ some (.int .u8 y) := fun j y e => by cases h j _ y e
theorem noByte_of {cur : Array Value} (h : ∀ v ∈ cur.toList, ∀ k y, v = .int k y → k = .i64) : NoByte cur := by
  intro j k y hj
  rw [← Array.getElem?_toList] at hj
  exact h _ (List.mem_of_getElem? hj) k y rfl
theorem NoByte.mem {cur : Array Value} (h : NoByte cur) : ∀ v ∈ cur.toList, ∀ k y, v = .int k y → k = .i64 := by
  rintro v hv k y rfl
  obtain ⟨j, hj⟩ := List.mem_iff_getElem?.1 hv
  rw [Array.getElem?_toList] at hj
  exact h j k y hj
theorem stoneC_no (x : Stone) : ∀ v ∈ stoneC x, ∀ k y, v = .int k y → k = .i64 := by
  intro v hv k y
  simp only [stoneC, List.mem_cons, List.not_mem_nil, or_false] at hv
  rcases hv with rfl | rfl
  · intro h; cases h; rfl
  · intro h; cases h
theorem stoneC_one (x : Stone) : ∀ u ∈ stoneC x, u.oneCell' = true := by
  intro v hv
  simp only [stoneC, List.mem_cons, List.not_mem_nil, or_false] at hv
  rcases hv with rfl | rfl <;> rfl
theorem stackC_no : ∀ T : List Stone, ∀ v ∈ stackC T, ∀ k y, v = .int k y → k = .i64
  | [], v, hv, _, _ => by simp [stackC] at hv
  | x :: T, v, hv, k, y => by
    rw [stackC, List.mem_append] at hv
    rcases hv with hv | hv
    · exact stackC_no T v hv k y
    · exact stoneC_no x v hv k y

/-- The slice '.slice (some ⟨b, 0, none⟩) T.length cap' is the stack T. -/
structure StackAt (w : World) (b cap : Nat) (T : List Stone) : Prop where
  fits : T.length ≤ cap
  room : cap ≤ maxLen
  row : ∃ cur : Array Value, w.heap[b]? = some (.cells cur 90 (0, 0)) ∧ cap * 2 ≤ cur.size ∧ cur.toList.take (T.length * 2) = stackC T ∧ NoByte cur
theorem StackAt.lt {w : World} {b cap : Nat} {T : List Stone} (h : StackAt w b cap T) : b < w.heap.size := by
  obtain ⟨cur, h1, _⟩ := h.row; exact (Array.getElem?_eq_some_iff.1 h1).1
theorem StackAt.keep {w w' : World} {b cap : Nat} {T : List Stone} (h : StackAt w b cap T) (hb : w'.heap[b]? = w.heap[b]?) : StackAt w' b cap T :=
  ⟨h.fits, h.room, by obtain ⟨cur, h1, h2⟩ := h.row; exact ⟨cur, hb.trans h1, h2⟩⟩
theorem StackAt.cells {w : World} {b cap : Nat} {T : List Stone} (h : StackAt w b cap T) : ∀ j v, (stackC T)[j]? = some v → w.cell? ⟨b, j, none⟩ = some v := by
  intro j v hj
  obtain ⟨cur, h1, _, h3, _⟩ := h.row
  rw [← h3, List.getElem?_take] at hj
  split at hj
  · rw [cell_of_row w b j _ _ _ h1, ← Array.getElem?_toList]; exact hj
  · cases hj
theorem StackAt.top {w : World} {b cap : Nat} {x : Stone} {T : List Stone} (h : StackAt w b cap (x :: T)) : w.cell? ⟨b, T.length * 2, none⟩ = some (.int .i64 (x.1 : Int)) ∧ w.cell? ⟨b, T.length * 2 + 1, none⟩ = some (.slice x.2.1 16 x.2.2) :=
  ⟨h.cells _ _ (stackC_top x T).1, h.cells _ _ (stackC_top x T).2⟩
theorem StackAt.pop {w : World} {b cap : Nat} {x : Stone} {T : List Stone} (h : StackAt w b cap (x :: T)) : StackAt w b T.length T := by
  obtain ⟨cur, h1, h2, h3, h4⟩ := h.row
  have hf := h.fits
  rw [List.length_cons] at hf h3
  refine ⟨Nat.le_refl _, by have := h.room; omega, cur, h1, by omega, ?_, h4⟩
  rw [← stackC_pop x T, ← h3, List.take_take]
  congr 1; omega
theorem Tryz.info90 : (Tryz.prog.info? 90).map (fun i => (i.zero, i.size, i.bytes)) = some (some (.agg #[.int .i64 0, .slice none 0 0]), 2, 32) := by kernel_rfl
/-- A stone is laid. -/
theorem StackAt.push {w : World} {b cap : Nat} {T : List Stone} (h : StackAt w b cap T) (hT : T.length ≤ 1000) (x : Stone) (c : Nat) (h0 : w.cell? ⟨c, 0, none⟩ = some (.int .i64 (x.1 : Int))) (h1 : w.cell? ⟨c, 1, none⟩ = some (.slice x.2.1 16 x.2.2)) :
    ∃ b' cap' w', (Builtin.append_ #[57, 57] 57 #[.slice (some ⟨b, 0, none⟩) T.length cap, .slice (some ⟨c, 0, none⟩) 1 1]).run Tryz.prog w = .ok (.slice (some ⟨b', 0, none⟩) (x :: T).length cap') w' ∧ StackAt w' b' cap' (x :: T) ∧ Apart (fun k => k = b) w w' ∧ (b' = b ∨ w.heap.size ≤ b') := by
  obtain ⟨i, hi, hz0, hz1, hz2⟩ := info_parts Tryz.info90
  obtain ⟨cur, g1, g2, g3, g4⟩ := h.row
  have hnews : ∀ j u, (stoneC x)[j]? = some u → w.cell? ((⟨c, 0, none⟩ : Addr).add j) = some u := by
    intro j u hj
    rw [Addr.add_lit, Nat.zero_add]
    match j, hj with
    | 0, hj => simp [stoneC] at hj; rw [h0, hj]
    | 1, hj => simp [stoneC] at hj; rw [h1, hj]
    | k + 2, hj => simp [stoneC] at hj
  have hu : Tryz.prog.underlying 57 = some (.slice 90) := by kernel_rfl
  have hr := h.room
  have hf := h.fits
  have hm : (1000 : Nat) < maxLen := by decide
  by_cases hroom : T.length + 1 ≤ cap
  · have hrun := run_append_room (P := Tryz.prog) w 57 57 90 i hu hi b T.length cap cur g1 ⟨c, 0, none⟩ 1 1 (stoneC x) (by rw [hz1]; rfl) hnews (stoneC_one x) hroom (by rw [hz1]; simp [stoneC]; omega)
    rw [hz1] at hrun
    refine ⟨b, cap, _, hrun, ⟨by simpa using hroom, h.room, _, setRow_heap w b cur _ 90 _ g1, ?_, ?_, ?_⟩, ⟨rfl, rfl, rfl, by simp, fun k _ hk => setRow_other w b k _ hk⟩, .inl rfl⟩
    · simp [stoneC]; omega
    · rw [g3, List.append_assoc, stackC, ← List.append_assoc]
      have : (stackC T ++ stoneC x).length = (x :: T).length * 2 := by rw [List.length_append, stackC_len]; simp [stoneC]; omega
      rw [← this]; exact List.take_left
    · refine noByte_of fun v hv => ?_
      simp only [List.mem_append] at hv
      rcases hv with (hv | hv) | hv
      · exact g4.mem v (List.mem_of_mem_take hv)
      · exact stoneC_no x v hv
      · exact g4.mem v (List.mem_of_mem_drop hv)
  · have hcap : cap = T.length := by omega
    subst hcap
    have holds : ∀ j v, (stackC T)[j]? = some v → w.cell? ((⟨b, 0, none⟩ : Addr).add j) = some v := by
      intro j v hj; rw [Addr.add_lit, Nat.zero_add]; exact h.cells j v hj
    have hrun := run_append_grow (P := Tryz.prog) w 57 57 90 i _ hu hi hz0 ⟨b, 0, none⟩ T.length T.length (stackC T) (by rw [hz1, stackC_len]) holds ⟨c, 0, none⟩ 1 1 (stoneC x) (by rw [hz1]; rfl) hnews (by omega) (by omega) (growslice_fits (by omega) (by rw [hz2]; omega))
    have hge := grownCap_ge w (T.length + 1) T.length 90
    have hcm : grownCap w (T.length + 1) T.length 90 ≤ maxLen := grownCap_le_maxLen w _ _ 90 (by omega)
    refine ⟨w.heap.size, _, _, hrun, ⟨by simpa using hge, hcm, _, heap_alloc_new w.drew _, ?_, ?_, ?_⟩, ⟨rfl, rfl, rfl, by simp, fun k hk _ => Below.heap_alloc w.drew _ k hk⟩, .inr (Nat.le_refl _)⟩
    · simp only [Array.size_append, List.size_toArray, size_zeroCells, stackC_len]
      simp [stoneC, Value.cells]; omega
    · simp only [Array.toList_append]
      have : (stackC T ++ stoneC x).length = (x :: T).length * 2 := by rw [List.length_append, stackC_len]; simp [stoneC]; omega
      rw [← this, stackC]; exact List.take_left
    · refine noByte_of fun v hv => ?_
      simp only [Array.toList_append, List.mem_append] at hv
      rcases hv with (hv | hv) | hv
      · exact stackC_no T v hv
      · exact stoneC_no x v hv
      · intro k y
        simp only [Builtin.zeroCells, Value.cells] at hv
        simp at hv
        obtain ⟨a, ha, rfl⟩ := hv
        have : a % 2 = 0 ∨ a % 2 = 1 := by omega
        rcases this with h | h
        · simp [h]; intro e _; exact e.symm
        · simp [h]

/-- Where a pebble lies within its block: the cells ahead of it, those behind it, the block's type. -/
structure Nest where
  pre : List Value
  post : List Value
  ty : TypeId
  no : ∀ v ∈ pre ++ post, ∀ k y, v = .int k y → k = .i64
  t3 : ty ≠ 3
  tp : ty ≠ 65
def Nest.cs (Q : Nest) (v0 v1 v2 v3 : Value) : List Value := Q.pre ++ v0 :: v1 :: v2 :: v3 :: Q.post
/-- A block of its own. -/
def Nest.self : Nest := ⟨[], [], 59, by simp, by decide, by decide⟩
theorem Nest.get {Q : Nest} {o : Nat} (h : Q.pre.length = o) (v0 v1 v2 v3 : Value) : (Q.cs v0 v1 v2 v3)[o]? = some v0 ∧ (Q.cs v0 v1 v2 v3)[o + 1]? = some v1 ∧ (Q.cs v0 v1 v2 v3)[o + 2]? = some v2 ∧ (Q.cs v0 v1 v2 v3)[o + 3]? = some v3 := by
  subst h
  unfold Nest.cs
  refine ⟨?_, ?_, ?_, ?_⟩
  · rw [List.getElem?_append_right (by omega)]; simp
  · rw [List.getElem?_append_right (by omega), show Q.pre.length + 1 - Q.pre.length = 1 by omega]; rfl
  · rw [List.getElem?_append_right (by omega), show Q.pre.length + 2 - Q.pre.length = 2 by omega]; rfl
  · rw [List.getElem?_append_right (by omega), show Q.pre.length + 3 - Q.pre.length = 3 by omega]; rfl
theorem Nest.set {Q : Nest} {o : Nat} (h : Q.pre.length = o) (v0 v1 v2 v3 u : Value) : (Q.cs v0 v1 v2 v3).set o u = Q.cs u v1 v2 v3 ∧ (Q.cs v0 v1 v2 v3).set (o + 1) u = Q.cs v0 u v2 v3 ∧ (Q.cs v0 v1 v2 v3).set (o + 2) u = Q.cs v0 v1 u v3 ∧ (Q.cs v0 v1 v2 v3).set (o + 3) u = Q.cs v0 v1 v2 u := by
  subst h
  unfold Nest.cs
  refine ⟨?_, ?_, ?_, ?_⟩
  · rw [List.set_append_right _ _ (by omega), show Q.pre.length - Q.pre.length = 0 by omega]; rfl
  · rw [List.set_append_right _ _ (by omega), show Q.pre.length + 1 - Q.pre.length = 1 by omega]; rfl
  · rw [List.set_append_right _ _ (by omega), show Q.pre.length + 2 - Q.pre.length = 2 by omega]; rfl
  · rw [List.set_append_right _ _ (by omega), show Q.pre.length + 3 - Q.pre.length = 3 by omega]; rfl
theorem Nest.noByte (Q : Nest) {v0 v1 v2 v3 : Value} (h0 : ∀ k y, v0 = .int k y → k = .i64) (h1 : ∀ k y, v1 = .int k y → k = .i64) (h2 : ∀ k y, v2 = .int k y → k = .i64) (h3 : ∀ k y, v3 = .int k y → k = .i64) : NoByte (Q.cs v0 v1 v2 v3).toArray :=
  noByte_of fun v hv => by
    unfold Nest.cs at hv
    simp only [List.mem_append, List.mem_cons] at hv
    rcases hv with hv | rfl | rfl | rfl | rfl | hv
    · exact Q.no v (List.mem_append_left _ hv)
    · exact h0
    · exact h1
    · exact h2
    · exact h3
    · exact Q.no v (List.mem_append_right _ hv)
theorem set_at {w : World} {g i : Nat} {L : List Value} {t : TypeId} (v : Value) (h : w.heap[g]? = some (.cells L.toArray t (0, 0))) : (w.setCell ⟨g, i, none⟩ v).heap[g]? = some (.cells (L.set i v).toArray t (0, 0)) := by
  rw [heap_setCell_same _ _ _ _ _ _ h, List.setIfInBounds_toArray]
theorem at_row {w : World} {g i : Nat} {L : List Value} {t : TypeId} {v : Value} (h : w.heap[g]? = some (.cells L.toArray t (0, 0))) (hv : L[i]? = some v) : w.cell? ⟨g, i, none⟩ = some v := by
  rw [cell_of_row _ _ _ _ _ _ h, List.getElem?_toArray]; exact hv

/-- A pebble in memory, from the cell o of block g on; its stack in block b; v0 where its commitment lies; every stone's key is the chain's. -/
structure Peb (Q : Nest) (o : Nat) (w : World) (g b cap : Nat) (v0 : Value) (key : List UInt8) (n told steps : Nat) (T : List Stone) : Prop where
  obj : w.heap[g]? = some (.cells (Q.cs v0 (.int .i64 (told : Int)) (.int .i64 (steps : Int)) (.slice (some ⟨b, 0, none⟩) T.length cap)).toArray Q.ty (0, 0))
  off : Q.pre.length = o
  nob : ∀ k y, v0 ≠ .int k y
  ne : b ≠ g
  stack : StackAt w b cap T
  keys : ∀ x ∈ T, Sees w x.2.1 x.2.2 (backL (n - x.1) key)
  good : Good n told (T.map Prod.fst)
  len : key.length = 16
  most : n ≤ 256
theorem Peb.lt {Q : Nest} {o : Nat} {w : World} {g b cap : Nat} {v0 : Value} {key : List UInt8} {n told steps : Nat} {T : List Stone} (h : Peb Q o w g b cap v0 key n told steps T) : g < w.heap.size := (Array.getElem?_eq_some_iff.1 h.obj).1
theorem Peb.noObj {Q : Nest} {o : Nat} {w : World} {g b cap : Nat} {v0 : Value} {key : List UInt8} {n told steps : Nat} {T : List Stone} (h : Peb Q o w g b cap v0 key n told steps T) : NoByte (Q.cs v0 (.int .i64 (told : Int)) (.int .i64 (steps : Int)) (.slice (some ⟨b, 0, none⟩) T.length cap)).toArray :=
  Q.noByte (fun k y e => absurd e (h.nob k y)) (fun k y e => by cases e; rfl) (fun k y e => by cases e; rfl) (fun k y e => by cases e)
/-- Bytes elsewhere lie in neither of its blocks. -/
theorem Peb.apart {Q : Nest} {o : Nat} {w : World} {g b cap : Nat} {v0 : Value} {key : List UInt8} {n told steps : Nat} {T : List Stone} (h : Peb Q o w g b cap v0 key n told steps T) {a : Option Addr} {ca : Nat} {l : List UInt8} (hs : Sees w a ca l) :
    ∀ k off, a = some ⟨k, off, none⟩ → l ≠ [] → ¬ (k = g ∨ k = b) := by
  intro k off ha hne
  obtain ⟨k', off', ha', hc⟩ := hs.at' hne
  rw [ha] at ha'
  simp only [Option.some.injEq, Addr.mk.injEq, and_true] at ha'
  obtain ⟨rfl, rfl⟩ := ha'
  obtain ⟨x, l', rfl⟩ := List.exists_cons_of_ne_nil hne
  have h0 := hc 0 x rfl
  obtain ⟨cur, g1, _, _, g4⟩ := h.stack.row
  rintro (rfl | rfl)
  · rw [cell_of_row w _ (off + 0) _ _ _ h.obj] at h0
    exact h.noObj.u8 _ _ h0
  · rw [cell_of_row w _ (off + 0) _ _ _ g1] at h0
    exact g4.u8 _ _ h0
theorem Peb.sees {Q : Nest} {o : Nat} {w : World} {g b cap : Nat} {v0 : Value} {key : List UInt8} {n told steps : Nat} {T : List Stone} (h : Peb Q o w g b cap v0 key n told steps T) {w' : World} (ha : Apart (fun k => k = g ∨ k = b) w w') {a : Option Addr} {ca : Nat} {l : List UInt8} (hs : Sees w a ca l) : Sees w' a ca l :=
  ha.sees hs (h.apart hs)
theorem Peb.keep {Q : Nest} {o : Nat} {w : World} {g b cap : Nat} {v0 : Value} {key : List UInt8} {n told steps : Nat} {T : List Stone} (h : Peb Q o w g b cap v0 key n told steps T) {w' : World} (hb : Below w.heap.size w w') : Peb Q o w' g b cap v0 key n told steps T :=
  ⟨by rw [hb.block _ h.lt]; exact h.obj, h.off, h.nob, h.ne, h.stack.keep (hb.block _ h.stack.lt), fun x hx => (h.keys x hx).below hb, h.good, h.len, h.most⟩
theorem Peb.cells {Q : Nest} {o : Nat} {w : World} {g b cap : Nat} {v0 : Value} {key : List UInt8} {n told steps : Nat} {T : List Stone} (h : Peb Q o w g b cap v0 key n told steps T) :
    w.cell? ⟨g, o, none⟩ = some v0 ∧ w.cell? ⟨g, o + 1, none⟩ = some (.int .i64 (told : Int)) ∧ w.cell? ⟨g, o + 2, none⟩ = some (.int .i64 (steps : Int)) ∧ w.cell? ⟨g, o + 3, none⟩ = some (.slice (some ⟨b, 0, none⟩) T.length cap) :=
  ⟨at_row h.obj (Nest.get h.off _ _ _ _).1, at_row h.obj (Nest.get h.off _ _ _ _).2.1, at_row h.obj (Nest.get h.off _ _ _ _).2.2.1, at_row h.obj (Nest.get h.off _ _ _ _).2.2.2⟩
theorem Peb.fz {Q : Nest} {o : Nat} {w : World} {g b cap : Nat} {v0 : Value} {key : List UInt8} {n told steps : Nat} {T : List Stone} (h : Peb Q o w g b cap v0 key n told steps T) (i : Nat) : w.frozen? ⟨g, i, none⟩ = false := frozen_of_row _ _ i _ _ h.obj
theorem Peb.few {Q : Nest} {o : Nat} {w : World} {g b cap : Nat} {v0 : Value} {key : List UInt8} {n told steps : Nat} {T : List Stone} (h : Peb Q o w g b cap v0 key n told steps T) : told + T.length ≤ n := by
  have := h.good.len; simpa using this
/-- A cell of another kind of number lies in neither of its blocks. -/
theorem Peb.kind {Q : Nest} {o : Nat} {w : World} {g b cap : Nat} {v0 : Value} {key : List UInt8} {n told steps : Nat} {T : List Stone} (h : Peb Q o w g b cap v0 key n told steps T) {k i : Nat} {kd : IntKind} {y : Int} (hc : w.cell? ⟨k, i, none⟩ = some (.int kd y)) (hk : kd ≠ .i64) : ¬ (k = g ∨ k = b) := by
  obtain ⟨cur, g1, _, _, g4⟩ := h.stack.row
  rintro (rfl | rfl)
  · rw [cell_of_row w _ i _ _ _ h.obj] at hc
    exact hk (h.noObj _ _ _ hc)
  · rw [cell_of_row w _ i _ _ _ g1] at hc
    exact hk (g4 _ _ _ hc)
theorem FTab.peb {w w' : World} {Q : Nest} {o g b cap : Nat} {v0 : Value} {key : List UInt8} {n told steps : Nat} {T : List Stone} (hF : FTab w) (h : Peb Q o w g b cap v0 key n told steps T) (ha : Apart (fun k => k = g ∨ k = b) w w') : FTab w' :=
  fun t ht => ha.cell (hF t ht) (h.kind (hF t ht) (by decide))
theorem KTab.peb {w w' : World} {Q : Nest} {o g b cap : Nat} {v0 : Value} {key : List UInt8} {n told steps : Nat} {T : List Stone} (hF : KTab w) (h : Peb Q o w g b cap v0 key n told steps T) (ha : Apart (fun k => k = g ∨ k = b) w w') : KTab w' :=
  fun t ht => ha.cell (hF t ht) (h.kind (hF t ht) (by decide))
end Go.Proofs.YtgncdnejmobjbaaGreatDoor
