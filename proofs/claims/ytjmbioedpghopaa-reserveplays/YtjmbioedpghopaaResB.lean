/-
  A reserve in memory; what it tells; the record from and to three words; the two changes that are saved first.
-/
import Derived.Test.YtjmbioedpghopaaBankG
import Derived.Test.YtjmbioedpghopaaResA
import Derived.BigRegion
namespace Go.Proofs.Ytjmbioedpghopaa
open Go.ChangeShapes Go.WideShapes Go.ChangeAt Go.RowKit

/-- What a reserve holds. -/
structure VS where
  blk : Nat
  inc : Nat
  mark : Nat
  least : Nat
  over : Bool
structure VS.ok (v : VS) : Prop where
  b1 : 1 ≤ v.blk
  b2 : v.blk ≤ 1024
  i1 : v.inc ≤ 65535
  m1 : v.mark ≤ 1048576
  l1 : v.least ≤ v.mark

/-- Block R holds a reserve upon the bank b. -/
def RC (w : World) (R b : Nat) (v : VS) : Prop := w.heap[R]? = some (.cells #[.pointer (some ⟨b, 0, none⟩), .int .i64 (v.blk : Int), .int .u32 (v.inc : Int), .int .u32 (v.mark : Int), .int .u32 0, .int .i64 (v.least : Int), .bool v.over] 60 (0, 0))
theorem RC.c0 {w : World} {R b : Nat} {v : VS} (h : RC w R b v) : w.cell? ⟨R, 0, none⟩ = some (.pointer (some ⟨b, 0, none⟩)) := cell_of_row _ _ 0 _ _ _ h
theorem RC.c1 {w : World} {R b : Nat} {v : VS} (h : RC w R b v) : w.cell? ⟨R, 1, none⟩ = some (.int .i64 (v.blk : Int)) := cell_of_row _ _ 1 _ _ _ h
theorem RC.c2 {w : World} {R b : Nat} {v : VS} (h : RC w R b v) : w.cell? ⟨R, 2, none⟩ = some (.int .u32 (v.inc : Int)) := cell_of_row _ _ 2 _ _ _ h
theorem RC.c3 {w : World} {R b : Nat} {v : VS} (h : RC w R b v) : w.cell? ⟨R, 3, none⟩ = some (.int .u32 (v.mark : Int)) := cell_of_row _ _ 3 _ _ _ h
theorem RC.c4 {w : World} {R b : Nat} {v : VS} (h : RC w R b v) : w.cell? ⟨R, 4, none⟩ = some (.int .u32 0) := cell_of_row _ _ 4 _ _ _ h
theorem RC.c5 {w : World} {R b : Nat} {v : VS} (h : RC w R b v) : w.cell? ⟨R, 5, none⟩ = some (.int .i64 (v.least : Int)) := cell_of_row _ _ 5 _ _ _ h
theorem RC.c6 {w : World} {R b : Nat} {v : VS} (h : RC w R b v) : w.cell? ⟨R, 6, none⟩ = some (.bool v.over) := cell_of_row _ _ 6 _ _ _ h
theorem RC.fz {w : World} {R b : Nat} {v : VS} (h : RC w R b v) (i : Nat) : w.frozen? ⟨R, i, none⟩ = false := frozen_of_row _ _ i _ _ h
theorem RC.lt {w : World} {R b : Nat} {v : VS} (h : RC w R b v) : R < w.heap.size := (Array.getElem?_eq_some_iff.1 h).1
theorem RC.below {w w' : World} {R b : Nat} {v : VS} (h : RC w R b v) (hb : Below w.heap.size w w') : RC w' R b v := by
  show w'.heap[R]? = _
  rw [hb.block R h.lt]; exact h
theorem RC.setOver {w : World} {R b : Nat} {v : VS} (h : RC w R b v) : RC (w.setCell ⟨R, 6, none⟩ (.bool true)) R b { v with over := true } := by
  show (w.setCell ⟨R, 6, none⟩ (.bool true)).heap[R]? = _
  rw [heap_setCell_same _ _ _ _ _ _ h]; rfl
theorem RC.setLeast {w : World} {R b : Nat} {v : VS} (h : RC w R b v) (n : Nat) : RC (w.setCell ⟨R, 5, none⟩ (.int .i64 (n : Int))) R b { v with least := n } := by
  show (w.setCell ⟨R, 5, none⟩ (.int .i64 (n : Int))).heap[R]? = _
  rw [heap_setCell_same _ _ _ _ _ _ h]; rfl
theorem RC.setRec {w : World} {R b : Nat} {v : VS} (h : RC w R b v) (i m : Nat) : RC (((w.setCell ⟨R, 2, none⟩ (.int .u32 (i : Int))).setCell ⟨R, 3, none⟩ (.int .u32 (m : Int))).setCell ⟨R, 4, none⟩ (.int .u32 0)) R b { v with inc := i, mark := m } := by
  have h1 : (w.setCell ⟨R, 2, none⟩ (.int .u32 (i : Int))).heap[R]? = some (.cells #[.pointer (some ⟨b, 0, none⟩), .int .i64 (v.blk : Int), .int .u32 (i : Int), .int .u32 (v.mark : Int), .int .u32 0, .int .i64 (v.least : Int), .bool v.over] 60 (0, 0)) := by rw [heap_setCell_same _ _ _ _ _ _ h]; rfl
  have h2 : ((w.setCell ⟨R, 2, none⟩ (.int .u32 (i : Int))).setCell ⟨R, 3, none⟩ (.int .u32 (m : Int))).heap[R]? = some (.cells #[.pointer (some ⟨b, 0, none⟩), .int .i64 (v.blk : Int), .int .u32 (i : Int), .int .u32 (m : Int), .int .u32 0, .int .i64 (v.least : Int), .bool v.over] 60 (0, 0)) := by rw [heap_setCell_same _ _ _ _ _ _ h1]; rfl
  show (((w.setCell ⟨R, 2, none⟩ (.int .u32 (i : Int))).setCell ⟨R, 3, none⟩ (.int .u32 (m : Int))).setCell ⟨R, 4, none⟩ (.int .u32 0)).heap[R]? = _
  rw [heap_setCell_same _ _ _ _ _ _ h2]; rfl

theorem vstands_ok (w : World) (R b : Nat) (v : VS) (h : RC w R b v) : Calls Try.prog 36 #[.pointer (some ⟨R, 0, none⟩)] w fun e w' => e = .returned (.bool true) ∧ w' = w := by
  have c0 := h.c0
  clear h
  go_enter Try.func36, Try.ntmps36
  go_wp2
  go_ret
  exact ⟨rfl, rfl⟩
theorem mark_ok (w : World) (R b : Nat) (v : VS) (h : RC w R b v) (hm : v.mark ≤ 1048576) : Calls Try.prog 23 #[.pointer (some ⟨R, 0, none⟩)] w fun e w' => e = .returned (.int .i64 (v.mark : Int)) ∧ w' = w := by
  have hs := vstands_ok w R b v h
  have c3 := h.c3
  clear h
  generalize v.mark = m at *
  go_enter Try.func23, Try.ntmps23
  go_wp2_with fail
  refine hs.mono ?_
  rintro e w1 ⟨rfl, rfl⟩
  go_wp2
  go_ret
  exact ⟨rfl, rfl⟩
theorem inc_ok (w : World) (R b : Nat) (v : VS) (h : RC w R b v) (hm : v.inc ≤ 65535) : Calls Try.prog 24 #[.pointer (some ⟨R, 0, none⟩)] w fun e w' => e = .returned (.int .i64 (v.inc : Int)) ∧ w' = w := by
  have hs := vstands_ok w R b v h
  have c3 := h.c2
  clear h
  generalize v.inc = m at *
  go_enter Try.func24, Try.ntmps24
  go_wp2_with fail
  refine hs.mono ?_
  rintro e w1 ⟨rfl, rfl⟩
  go_wp2
  go_ret
  exact ⟨rfl, rfl⟩
theorem least_ok (w : World) (R b : Nat) (v : VS) (h : RC w R b v) : Calls Try.prog 25 #[.pointer (some ⟨R, 0, none⟩)] w fun e w' => e = .returned (.int .i64 (v.least : Int)) ∧ w' = w := by
  have hs := vstands_ok w R b v h
  have c3 := h.c5
  clear h
  generalize v.least = m at *
  go_enter Try.func25, Try.ntmps25
  go_wp2_with fail
  refine hs.mono ?_
  rintro e w1 ⟨rfl, rfl⟩
  go_wp2
  go_ret
  exact ⟨rfl, rfl⟩

/-- A record, or an array of three words, in memory. -/
def Three (T : TypeId) (w : World) (g : Nat) (x y z : Nat) : Prop := w.heap[g]? = some (.cells #[.int .u32 (x : Int), .int .u32 (y : Int), .int .u32 (z : Int)] T (0, 0))
theorem Three.c0 {T : TypeId} {w : World} {g x y z : Nat} (h : Three T w g x y z) : w.cell? ⟨g, 0, none⟩ = some (.int .u32 (x : Int)) := cell_of_row _ _ 0 _ _ _ h
theorem Three.c1 {T : TypeId} {w : World} {g x y z : Nat} (h : Three T w g x y z) : w.cell? ⟨g, 1, none⟩ = some (.int .u32 (y : Int)) := cell_of_row _ _ 1 _ _ _ h
theorem Three.c2 {T : TypeId} {w : World} {g x y z : Nat} (h : Three T w g x y z) : w.cell? ⟨g, 2, none⟩ = some (.int .u32 (z : Int)) := cell_of_row _ _ 2 _ _ _ h
theorem Three.fz {T : TypeId} {w : World} {g x y z : Nat} (h : Three T w g x y z) (i : Nat) : w.frozen? ⟨g, i, none⟩ = false := frozen_of_row _ _ i _ _ h
theorem Three.lt {T : TypeId} {w : World} {g x y z : Nat} (h : Three T w g x y z) : g < w.heap.size := (Array.getElem?_eq_some_iff.1 h).1
theorem Three.below {T : TypeId} {w w' : World} {g x y z : Nat} (h : Three T w g x y z) (hb : Below w.heap.size w w') : Three T w' g x y z := by
  show w'.heap[g]? = _
  rw [hb.block g h.lt]; exact h
theorem Three.alloc {T : TypeId} {w : World} {g x y z : Nat} (h : Three T w g x y z) (o : Obj) : Three T (w.alloc o) g x y z := h.below ((Below.refl _ _).alloc (Nat.le_refl _) _)
theorem Three.new (T : TypeId) (w : World) (x y z : Nat) : Three T (w.alloc (.cells #[.int .u32 (x : Int), .int .u32 (y : Int), .int .u32 (z : Int)] T)) w.heap.size x y z := heap_alloc_new _ _
theorem Three.set {T : TypeId} {w : World} {g x y z : Nat} (h : Three T w g x y z) (a b c : Nat) : Three T (((w.setCell ⟨g, 0, none⟩ (.int .u32 (a : Int))).setCell ⟨g, 1, none⟩ (.int .u32 (b : Int))).setCell ⟨g, 2, none⟩ (.int .u32 (c : Int))) g a b c := by
  have h1 : (w.setCell ⟨g, 0, none⟩ (.int .u32 (a : Int))).heap[g]? = some (.cells #[.int .u32 (a : Int), .int .u32 (y : Int), .int .u32 (z : Int)] T (0, 0)) := by rw [heap_setCell_same _ _ _ _ _ _ h]; rfl
  have h2 : ((w.setCell ⟨g, 0, none⟩ (.int .u32 (a : Int))).setCell ⟨g, 1, none⟩ (.int .u32 (b : Int))).heap[g]? = some (.cells #[.int .u32 (a : Int), .int .u32 (b : Int), .int .u32 (z : Int)] T (0, 0)) := by rw [heap_setCell_same _ _ _ _ _ _ h1]; rfl
  show (((w.setCell ⟨g, 0, none⟩ (.int .u32 (a : Int))).setCell ⟨g, 1, none⟩ (.int .u32 (b : Int))).setCell ⟨g, 2, none⟩ (.int .u32 (c : Int))).heap[g]? = _
  rw [heap_setCell_same _ _ _ _ _ _ h2]; rfl
theorem below_three {W w : World} {B g : Nat} (h : Below B W w) (hg : B ≤ g) (x y z : Value) : Below B W (((w.setCell ⟨g, 0, none⟩ x).setCell ⟨g, 1, none⟩ y).setCell ⟨g, 2, none⟩ z) := ((h.setCell (p := ⟨g, 0, none⟩) hg x).setCell (p := ⟨g, 1, none⟩) hg y).setCell (p := ⟨g, 2, none⟩) hg z
theorem res_rec {fn : Func} {p : Tmp} (h : fn.results = #[.cell p 58]) {tmps : Array Value} {w : World} {g x y z : Nat} (hp : tmps.getD p undef = .pointer (some ⟨g, 0, none⟩)) (hg : Three 58 w g x y z) :
    (results fn tmps).run Try.prog w = .ok (.agg #[.int .u32 (x : Int), .int .u32 (y : Int), .int .u32 (z : Int)]) w :=
  results_cell_row h tmps w g 58 _ (0, 0) _ hp hg Try.underlying58 rfl (by kernel_rfl)
theorem res_arr {fn : Func} {p : Tmp} (h : fn.results = #[.cell p 102]) {tmps : Array Value} {w : World} {g x y z : Nat} (hp : tmps.getD p undef = .pointer (some ⟨g, 0, none⟩)) (hg : Three 102 w g x y z) :
    (results fn tmps).run Try.prog w = .ok (.agg #[.int .u32 (x : Int), .int .u32 (y : Int), .int .u32 (z : Int)]) w :=
  results_cell_row h tmps w g 102 _ (0, 0) _ hp hg Try.underlying102 rfl (by kernel_rfl)
theorem res_rec2 {fn : Func} {p q : Tmp} (h : fn.results = #[.cell p 58, .tmp q]) {tmps : Array Value} {w : World} {g x y z : Nat} (hp : tmps.getD p undef = .pointer (some ⟨g, 0, none⟩)) (hg : Three 58 w g x y z) :
    (results fn tmps).run Try.prog w = .ok (.tuple #[.agg #[.int .u32 (x : Int), .int .u32 (y : Int), .int .u32 (z : Int)], tmps.getD q undef]) w := by
  have hp' : tmps[p]?.getD undef = .pointer (some ⟨g, 0, none⟩) := by simpa using hp
  have h1 := run_loadVar_row (P := Try.prog) w g 58 58 _ (0, 0) _ hg Try.underlying58 rfl (by kernel_rfl)
  simp [results, h, hp', asAddr, h1]
/-- Two records compared. -/
theorem eqRec (a b c d e f : Int) (w : World) : (binOp .eql 58 (.agg #[.int .u32 a, .int .u32 b, .int .u32 c]) (.agg #[.int .u32 d, .int .u32 e, .int .u32 f])).run Try.prog w = .ok (.bool (a == d && b == e && c == f)) w := by
  have u3 := Try.underlying56
  have a3 := Try.isAgg56
  have z3 := Try.sizeOf56
  have hS : Try.prog.underlying 58 = some (.struct (Try.prog.fieldsOf 58)) := by kernel_rfl
  have hp : Try.prog.stoodInHeld 58 = false := by kernel_rfl
  rw [run_eql_struct, show (10000 : Nat) = 9999 + 1 from rfl, run_equalIn_agg w 9999 58 _ _ hS hp]
  simp only [Program.fieldsOf, Try.underlying58]
  go_simp
  by_cases h1 : a = d <;> by_cases h2 : b = e <;> by_cases h3 : c = f <;> simp [h1, h2, h3]
end Go.Proofs.Ytjmbioedpghopaa
