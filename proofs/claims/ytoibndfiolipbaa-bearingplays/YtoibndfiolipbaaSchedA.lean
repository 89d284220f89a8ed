/-
  A config by value, and in memory; two of them compared; an argument that is one.
-/
import Derived.Test.YtoibndfiolipbaaSchedM
import Derived.Test.YtoibndfiolipbaaRows
import Derived.Test.YtoibndfiolipbaaDraws
import Derived.Test.YtoibndfiolipbaaCells
import Derived.Laws.StructEq
import Derived.Lib.SmallJoins
import Derived.Deep.Fields
namespace Go.Proofs.Ytoibndfiolipbaa
open Go.ChangeShapes Go.WideShapes Go.ChangeAt Go.RowKit

def cfL (c : Cf) : List Value := [.int .i64 c.n, .int .i64 c.f, .int .i64 c.s, .int .i64 c.d, .int .i64 c.k, .int .i64 c.e, .int .i64 c.v, .int .i64 c.r, .int .i64 c.l, .int .i64 c.p]
def cfC (c : Cf) : Array Value := (cfL c).toArray
theorem cfC_size (c : Cf) : (cfC c).size = 10 := rfl
theorem cfC_one (c : Cf) : (cfC c).all (·.oneCell') = true := all_oneCell_toArray (by
  intro v hv
  simp only [cfL, List.mem_cons, List.not_mem_nil, or_false] at hv
  rcases hv with rfl | rfl | rfl | rfl | rfl | rfl | rfl | rfl | rfl | rfl <;> rfl)

/-- A config in block g. -/
def CfAt (w : World) (g : Nat) (c : Cf) : Prop := w.heap[g]? = some (.cells (cfC c) 23 (0, 0))
theorem CfAt.cell {w : World} {g : Nat} {c : Cf} (h : CfAt w g c) (i : Nat) {u : Value} (hu : (cfL c)[i]? = some u) : w.cell? ⟨g, i, none⟩ = some u := by
  rw [cell_of_row w _ i _ _ _ h]; simpa [cfC] using hu
theorem CfAt.c0 {w : World} {g : Nat} {c : Cf} (h : CfAt w g c) : w.cell? ⟨g, 0, none⟩ = some (.int .i64 c.n) := h.cell 0 rfl
theorem CfAt.c1 {w : World} {g : Nat} {c : Cf} (h : CfAt w g c) : w.cell? ⟨g, 1, none⟩ = some (.int .i64 c.f) := h.cell 1 rfl
theorem CfAt.c2 {w : World} {g : Nat} {c : Cf} (h : CfAt w g c) : w.cell? ⟨g, 2, none⟩ = some (.int .i64 c.s) := h.cell 2 rfl
theorem CfAt.c3 {w : World} {g : Nat} {c : Cf} (h : CfAt w g c) : w.cell? ⟨g, 3, none⟩ = some (.int .i64 c.d) := h.cell 3 rfl
theorem CfAt.c4 {w : World} {g : Nat} {c : Cf} (h : CfAt w g c) : w.cell? ⟨g, 4, none⟩ = some (.int .i64 c.k) := h.cell 4 rfl
theorem CfAt.c5 {w : World} {g : Nat} {c : Cf} (h : CfAt w g c) : w.cell? ⟨g, 5, none⟩ = some (.int .i64 c.e) := h.cell 5 rfl
theorem CfAt.c6 {w : World} {g : Nat} {c : Cf} (h : CfAt w g c) : w.cell? ⟨g, 6, none⟩ = some (.int .i64 c.v) := h.cell 6 rfl
theorem CfAt.c7 {w : World} {g : Nat} {c : Cf} (h : CfAt w g c) : w.cell? ⟨g, 7, none⟩ = some (.int .i64 c.r) := h.cell 7 rfl
theorem CfAt.c8 {w : World} {g : Nat} {c : Cf} (h : CfAt w g c) : w.cell? ⟨g, 8, none⟩ = some (.int .i64 c.l) := h.cell 8 rfl
theorem CfAt.c9 {w : World} {g : Nat} {c : Cf} (h : CfAt w g c) : w.cell? ⟨g, 9, none⟩ = some (.int .i64 c.p) := h.cell 9 rfl
theorem CfAt.fz {w : World} {g : Nat} {c : Cf} (h : CfAt w g c) (i : Nat) : w.frozen? ⟨g, i, none⟩ = false := frozen_of_row _ _ i _ _ h
theorem CfAt.lt {w : World} {g : Nat} {c : Cf} (h : CfAt w g c) : g < w.heap.size := (Array.getElem?_eq_some_iff.1 h).1
theorem CfAt.keep {w w' : World} {g : Nat} {c : Cf} (h : CfAt w g c) (hb : w'.heap[g]? = w.heap[g]?) : CfAt w' g c := hb.trans h
theorem CfAt.below {w w' : World} {g : Nat} {c : Cf} (h : CfAt w g c) (hb : Below w.heap.size w w') : CfAt w' g c := h.keep (hb.block g h.lt)
theorem CfAt.new (w : World) (c : Cf) : CfAt (w.alloc (.cells (cfC c) 23)) w.heap.size c := heap_alloc_new _ _
theorem CfAt.alloc {w : World} {g : Nat} {c : Cf} (h : CfAt w g c) (o : Obj) : CfAt (w.alloc o) g c := by
  show (w.heap.push o)[g]? = _
  rw [Array.getElem?_push, if_neg (Nat.ne_of_lt h.lt)]; exact h
theorem CfAt.drew {w : World} {g : Nat} {c : Cf} (h : CfAt w g c) : CfAt w.drew g c := h
/-- Loaded whole, stored whole, and as a result. -/
theorem CfAt.loads {w : World} {g : Nat} {c : Cf} (h : CfAt w g c) : (Instr.loadAt 23 (.pointer (some ⟨g, 0, none⟩))).run Try.prog w = .ok (.agg (cfC c)) w :=
  loadAt_row w g 23 23 _ (0, 0) _ h Try.underlying23 rfl (by rw [cfC_size]; kernel_rfl)
theorem CfAt.stores {w : World} {g : Nat} {c : Cf} (h : CfAt w g c) (b : Cf) : (Instr.storeAt 23 (.pointer (some ⟨g, 0, none⟩)) (.agg (cfC b))).run Try.prog w = .ok () (w.setRow g (cfC b)) :=
  storeAt_row w g 23 23 _ _ h (by rw [cfC_size]; kernel_rfl) rfl (cfC_one b)
theorem CfAt.stored {w : World} {g : Nat} {c : Cf} (h : CfAt w g c) (b : Cf) : CfAt (w.setRow g (cfC b)) g b := setRow_heap _ _ _ _ 23 _ h
theorem res_cf {fn : Func} {p : Tmp} (h : fn.results = #[.cell p 23]) {tmps : Array Value} {w : World} {g : Nat} {c : Cf} (hp : tmps.getD p undef = .pointer (some ⟨g, 0, none⟩)) (hg : CfAt w g c) :
    (results fn tmps).run Try.prog w = .ok (.agg (cfC c)) w :=
  results_cell_row h tmps w g 23 _ (0, 0) _ hp hg Try.underlying23 rfl (by rw [cfC_size]; kernel_rfl)
/-- A field stored. -/
theorem CfAt.put {w : World} {g : Nat} {c b : Cf} (h : CfAt w g c) (i : Nat) (u : Value) (hl : (cfL c).set i u = cfL b) : CfAt (w.setCell ⟨g, i, none⟩ u) g b := by
  show (w.setCell ⟨g, i, none⟩ u).heap[g]? = _
  rw [heap_setCell_same _ _ _ _ _ _ h]
  congr 2
  show ((cfL c).toArray).setIfInBounds i u = (cfL b).toArray
  rw [List.setIfInBounds_toArray, hl]

/-- Two configs compared. -/
theorem eqCf (a b : Cf) (w : World) : (binOp .eql 23 (.agg (cfC a)) (.agg (cfC b))).run Try.prog w = .ok (.bool (sameB a b)) w := by
  have u3 := Try.underlying3
  have a3 := Try.isAgg3
  have z3 := Try.sizeOf3
  have hS : Try.prog.underlying 23 = some (.struct (Try.prog.fieldsOf 23)) := by kernel_rfl
  have hp : Try.prog.stoodInHeld 23 = false := by kernel_rfl
  rw [run_eql_struct, show (10000 : Nat) = 9999 + 1 from rfl, run_equalIn_agg w 9999 23 _ _ hS hp]
  simp only [Program.fieldsOf, Try.underlying23]
  obtain ⟨a0, a1, a2, a3', a4, a5, a6, a7, a8, a9⟩ := a
  obtain ⟨b0, b1, b2, b3, b4, b5, b6, b7, b8, b9⟩ := b
  simp only [cfC, cfL, sameB]
  go_simp
  by_cases h0 : a0 = b0
  case neg => simp [h0]
  by_cases h1 : a1 = b1
  case neg => simp [h1]
  by_cases h2 : a2 = b2
  case neg => simp [h2]
  by_cases h3 : a3' = b3
  case neg => simp [h3]
  by_cases h4 : a4 = b4
  case neg => simp [h4]
  by_cases h5 : a5 = b5
  case neg => simp [h5]
  by_cases h6 : a6 = b6
  case neg => simp [h6]
  by_cases h7 : a7 = b7
  case neg => simp [h7]
  by_cases h8 : a8 = b8
  case neg => simp [h8]
  by_cases h9 : a9 = b9
  case neg => simp [h9]
  simp [h0, h1, h2, h3, h4, h5, h6, h7, h8, h9]
theorem neqCf (a b : Cf) (w : World) : (binOp .neq 23 (.agg (cfC a)) (.agg (cfC b))).run Try.prog w = .ok (.bool (!sameB a b)) w := by
  have h := eqCf a b w
  rw [run_eql_struct] at h
  rw [run_neq_struct]
  generalize (Op.equalIn 10000 23 (.agg (cfC a)) (.agg (cfC b))).run Try.prog w = r at h ⊢
  cases r <;> simp_all [Result.andThen]

theorem below_tri {W w : World} {B g : Nat} (h : Below B W w) (hg : B ≤ g) (x y z : Value) : Below B W (((w.setCell ⟨g, 0, none⟩ x).setCell ⟨g, 1, none⟩ y).setCell ⟨g, 2, none⟩ z) :=
  ((h.setCell (p := ⟨g, 0, none⟩) hg x).setCell (p := ⟨g, 1, none⟩) hg y).setCell (p := ⟨g, 2, none⟩) hg z
/-- An argument that is a config. -/
theorem array10 {α : Type} {cs : Array α} (h : cs.size = 10) : ∃ c0 c1 c2 c3 c4 c5 c6 c7 c8 c9, cs = #[c0, c1, c2, c3, c4, c5, c6, c7, c8, c9] := by
  obtain ⟨l⟩ := cs
  match l, h with
  | [c0, c1, c2, c3, c4, c5, c6, c7, c8, c9], _ => exact ⟨c0, c1, c2, c3, c4, c5, c6, c7, c8, c9, rfl⟩
set_option maxRecDepth 100000 in
theorem cells23 : Try.prog.cellsOf 23 = 10 := by kernel_rfl
theorem field_within {P : Program} {H : Type} {enc : TypeId × Value → H} {W : World} {fs : Array Field} {cs : List Value} {n : Nat} {xs : List (DataW H × List MemPlace)} (hone : Go.Deep.oneCellFields P fs = true) (hl : xs.length = fs.size)
    (hf : ∀ (i : Nat) (f : Field), fs[i]? = some f → DataW.trod enc P W 0 (fun _ => true) true n f.type ((cs.drop f.offset).take (P.cellsOf f.type)) = xs[i]?) (i : Nat) (f : Field) (hi : fs[i]? = some f) (c : Value) (hc : cs[i]? = some c) :
    ∃ y, DataW.trod enc P W 0 (fun _ => true) true n f.type [c] = some y := by
  obtain ⟨h1, h2⟩ := Go.Deep.hone_of hone i f hi
  have h3 := hf i f hi
  have hlt : i < fs.size := (Array.getElem?_eq_some_iff.1 hi).1
  rw [h1, h2] at h3
  have h4 : (cs.drop i).take 1 = [c] := by
    rw [List.take_one, List.head?_drop, hc]; rfl
  rw [h4] at h3
  exact ⟨xs[i]'(by omega), by rw [h3]; simp⟩
set_option maxRecDepth 100000 in
theorem cf_of_arg {H : Type} {enc : TypeId × Value → H} {W : World} {r : Reach} {base : Nat} {v : Value} {d : DataW H} {p : List MemPlace} (hv : Value.okWide Try.prog W r base 23 v) (h : DataW.Trod enc Try.prog W 0 (fun _ => true) true 23 v d p) :
    ∃ c, v = .agg (cfC c) := by
  obtain ⟨cs, rfl, hsz⟩ := okWide_struct Try.underlying23 hv
  obtain ⟨c0, c1, c2, c3, c4, c5, c6, c7, c8, c9, rfl⟩ := array10 (hsz.trans cells23)
  obtain ⟨fuel, hf⟩ := h
  obtain ⟨xs, n, _, _, _, hlen, hfs⟩ := DataW.trod_struct Try.underlying23 hf
  have hcs : (Value.agg #[c0, c1, c2, c3, c4, c5, c6, c7, c8, c9]).cells.toList = [c0, c1, c2, c3, c4, c5, c6, c7, c8, c9] := by simp [Value.cells]
  rw [hcs] at hfs
  obtain ⟨y0, h0⟩ := field_within (by kernel_rfl) hlen hfs 0 _ rfl c0 rfl
  obtain ⟨y1, h1⟩ := field_within (by kernel_rfl) hlen hfs 1 _ rfl c1 rfl
  obtain ⟨y2, h2⟩ := field_within (by kernel_rfl) hlen hfs 2 _ rfl c2 rfl
  obtain ⟨y3, h3⟩ := field_within (by kernel_rfl) hlen hfs 3 _ rfl c3 rfl
  obtain ⟨y4, h4⟩ := field_within (by kernel_rfl) hlen hfs 4 _ rfl c4 rfl
  obtain ⟨y5, h5⟩ := field_within (by kernel_rfl) hlen hfs 5 _ rfl c5 rfl
  obtain ⟨y6, h6⟩ := field_within (by kernel_rfl) hlen hfs 6 _ rfl c6 rfl
  obtain ⟨y7, h7⟩ := field_within (by kernel_rfl) hlen hfs 7 _ rfl c7 rfl
  obtain ⟨y8, h8⟩ := field_within (by kernel_rfl) hlen hfs 8 _ rfl c8 rfl
  obtain ⟨y9, h9⟩ := field_within (by kernel_rfl) hlen hfs 9 _ rfl c9 rfl
  obtain ⟨x0, e0, _, _⟩ := DataW.trod_int Try.underlying3 h0
  obtain ⟨x1, e1, _, _⟩ := DataW.trod_int Try.underlying3 h1
  obtain ⟨x2, e2, _, _⟩ := DataW.trod_int Try.underlying3 h2
  obtain ⟨x3, e3, _, _⟩ := DataW.trod_int Try.underlying3 h3
  obtain ⟨x4, e4, _, _⟩ := DataW.trod_int Try.underlying3 h4
  obtain ⟨x5, e5, _, _⟩ := DataW.trod_int Try.underlying3 h5
  obtain ⟨x6, e6, _, _⟩ := DataW.trod_int Try.underlying3 h6
  obtain ⟨x7, e7, _, _⟩ := DataW.trod_int Try.underlying3 h7
  obtain ⟨x8, e8, _, _⟩ := DataW.trod_int Try.underlying3 h8
  obtain ⟨x9, e9, _, _⟩ := DataW.trod_int Try.underlying3 h9
  simp only [List.cons.injEq, and_true] at e0 e1 e2 e3 e4 e5 e6 e7 e8 e9
  subst e0 e1 e2 e3 e4 e5 e6 e7 e8 e9
  exact ⟨⟨x0, x1, x2, x3, x4, x5, x6, x7, x8, x9⟩, rfl⟩
end Go.Proofs.Ytoibndfiolipbaa
