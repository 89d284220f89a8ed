/-
  A map of intervals; a table of the program in memory.
-/
import Derived.Test.YtoibndfiolipbaaBrgM
import Derived.Test.YtoibndfiolipbaaFoot
import Derived.Test.YtoibndfiolipbaaSchedC
import Derived.Maps.OwnSet
namespace Go.Proofs.Ytoibndfiolipbaa
open Go.ChangeShapes Go.WideShapes Go.ChangeAt Go.RowKit

theorem law3 : Maps.Keyed Try.prog 3 := Maps.int_keyed Try.underlying3
theorem uMp : Try.prog.underlying 62 = some (.map 3 74) := by kernel_rfl
theorem inI_wf {x : Int} (h0 : -9223372036854775808 ≤ x) (h1 : x ≤ 9223372036854775807) : (Lit.int .i64 x).wf = true := WalkArith.wf_i64 (by omega)

/-- What is known of a node, as a value, and as it reads. -/
def knV (k : Kw) : Value := .agg #[.int .i64 k.a, .int .i64 k.b, .int .i64 k.t]
def knD (k : Kw) : DataW Unit := .agg [.lit (.int .i64 k.a), .lit (.int .i64 k.b), .lit (.int .i64 k.t)]
def knR : Value → Option (DataW Unit × List MemPlace)
  | .agg cs => match cs.toList with
    | [.int .i64 a, .int .i64 b, .int .i64 t] => some (knD ⟨a, b, t⟩, [])
    | _ => none
  | _ => none
theorem knR_mk (k : Kw) : knR (knV k) = some (knD k, []) := rfl
theorem knD_inj {k l : Kw} (h : knD k = knD l) : k = l := by
  obtain ⟨a, b, t⟩ := k
  obtain ⟨a', b', t'⟩ := l
  simp [knD] at h
  obtain ⟨rfl, rfl, rfl⟩ := h
  rfl
theorem knR_inv {v : Value} {k : Kw} {ps : List MemPlace} (h : knR v = some (knD k, ps)) : v = knV k := by
  unfold knR at h
  split at h
  · rename_i cs
    split at h
    · rename_i a b t hc
      simp only [Option.some.injEq, Prod.mk.injEq] at h
      have := knD_inj h.1
      subst this
      obtain ⟨l⟩ := cs
      simp only [] at hc
      subst hc
      rfl
    · cases h
  · cases h
def kn0 : Kw := ⟨0, 0, 0⟩
theorem zeroBr (w : World) : (zeroValue 74).run Try.prog w = .ok (knV kn0) w := by kernel_rfl

/-- Block m is a map of at most n entries: what is known of the nodes. -/
def MapAt (w : World) (m n : Nat) (K : Int → Option Kw) : Prop :=
  ∃ D : DataW Unit, w.ownsMap Try.prog 3 knR m n D ∧ ∀ x : Int, (Lit.int .i64 x).wf = true → ∀ d, D.atKey (.int .i64 x) d = (match K x with | none => d | some k => knD k)
theorem MapAt.lt {w : World} {m n : Nat} {K : Int → Option Kw} (h : MapAt w m n K) : m < w.heap.size := by
  obtain ⟨D, h1, _⟩ := h; exact h1.lt
theorem MapAt.keep {w w' : World} {m n : Nat} {K : Int → Option Kw} (h : MapAt w m n K) (hb : w'.heap[m]? = w.heap[m]?) : MapAt w' m n K := by
  obtain ⟨D, ⟨es, clock, h1, h2⟩, h3⟩ := h
  exact ⟨D, ⟨es, clock, hb.trans h1, h2⟩, h3⟩
theorem MapAt.isMap {w : World} {m n : Nat} {K : Int → Option Kw} (h : MapAt w m n K) : ∃ es clock, w.heap[m]? = some (.map es clock) := by
  obtain ⟨D, ⟨es, clock, h1, _⟩, _⟩ := h; exact ⟨es, clock, h1⟩
theorem MapAt.new (w : World) : MapAt (w.alloc (.map #[] 0)) w.heap.size 0 (fun _ => none) :=
  ⟨.map [], World.ownsMap_made w _ _ _, fun x _ d => by simp [DataW.atKey]⟩
theorem MapAt.look {w : World} {m n : Nat} {K : Int → Option Kw} (h : MapAt w m n K) {x : Int} (hx : (Lit.int .i64 x).wf = true) :
    (Instr.lookup 62 (.map (some m)) (.int .i64 x) false).run Try.prog w = .ok (knV ((K x).getD kn0)) w := by
  obtain ⟨D, h1, h2⟩ := h
  obtain ⟨v, ps, hrun, hv⟩ := h1.lookup law3 uMp (zeroBr w) (knR_mk kn0) (Maps.keyOf_int_mk Try.underlying3 hx)
  rw [h2 x hx] at hv
  cases hk : K x with
  | none => rw [hk] at hv; rw [hrun, knR_inv hv]; rfl
  | some k => rw [hk] at hv; rw [hrun, knR_inv hv]; rfl
theorem MapAt.look_ok {w : World} {m n : Nat} {K : Int → Option Kw} (h : MapAt w m n K) {x : Int} (hx : (Lit.int .i64 x).wf = true) :
    (Instr.lookup 62 (.map (some m)) (.int .i64 x) true).run Try.prog w = .ok (.tuple #[knV ((K x).getD kn0), .bool (K x).isSome]) w := by
  obtain ⟨D, h1, h2⟩ := h
  obtain ⟨v, ps, hrun, hv⟩ := h1.look_ok law3 uMp (zeroBr w) (knR_mk kn0) (Maps.keyOf_int_mk Try.underlying3 hx)
  have h3 := h2 x hx
  rw [h3] at hv
  rw [hrun]
  cases hk : K x with
  | none =>
    rw [hk] at hv h3
    rw [knR_inv hv, Maps.has_false_of_atKey h3]; rfl
  | some k =>
    rw [hk] at hv h3
    rw [knR_inv hv, Maps.has_true_of_atKey h3]; rfl
theorem lit_ne {x y : Int} (h : x ≠ y) : Lit.int .i64 x ≠ Lit.int .i64 y := fun e => h (by cases e; rfl)
theorem MapAt.put {w : World} {m n : Nat} {K : Int → Option Kw} (h : MapAt w m n K) (hn : n < maxLen) {x : Int} (hx : (Lit.int .i64 x).wf = true) (k : Kw) :
    ∃ w', (Instr.mapUpdate 62 (.map (some m)) (.int .i64 x) (knV k)).run Try.prog w = .ok () w' ∧ MapAt w' m (n + 1) (fun y => if y = x then some k else K y) ∧ Apart (fun k => k = m) w w' ∧ w'.heap.size = w.heap.size := by
  obtain ⟨D, h1, h2⟩ := h
  obtain ⟨w', hrun, hown, hturn⟩ := h1.store law3 uMp hn (Maps.keyOf_int_mk Try.underlying3 hx) (knR_mk k)
  refine ⟨w', hrun, ⟨_, hown, fun y hy d => ?_⟩, (Apart.refl _ w).grown hturn.grown (fun k e => .inl (by cases e; rfl)), ?_⟩
  · dsimp only
    by_cases e : y = x
    · subst e; rw [Maps.atKey_put_same h1.isMap (law3.key (Maps.keyOf_int_mk Try.underlying3 hx)), if_pos rfl]
    · rw [Maps.atKey_put_other (lit_ne e), h2 y hy, if_neg e]
  · obtain ⟨es, clock, es', clock', _, rfl⟩ := hturn
    simp [ChangeMaps.setBlock]
theorem MapAt.clear {w : World} {m n : Nat} {K : Int → Option Kw} (h : MapAt w m n K) (ty : TypeId) :
    ∃ w', (Builtin.clear_ #[62] ty #[.map (some m)]).run Try.prog w = .ok (.tuple #[]) w' ∧ MapAt w' m n (fun _ => none) ∧ Apart (fun k => k = m) w w' ∧ w'.heap.size = w.heap.size := by
  obtain ⟨es, clock, hb⟩ := h.isMap
  refine ⟨ChangeMaps.setBlock w m (.map #[] clock), by simp [Builtin.clear_, run_underlying uMp, MapKept.run_getObj_map hb, MapKept.run_setObj_map _ hb, Result.andThen, ChangeMaps.setBlock], ⟨.map [], ⟨#[], clock, ?_, ⟨by simp, MapKept.stamped_empty clock, by simp⟩, Nat.zero_le _, rfl⟩, fun x _ d => by simp [DataW.atKey]⟩, ⟨rfl, rfl, rfl, ?_, ?_⟩, ?_⟩
  · exact ChangeMaps.heap_setBlock_same hb _
  · simp [ChangeMaps.setBlock]
  · intro k _ hk
    exact ChangeMaps.heap_setBlock_other hb _ hk
  · simp [ChangeMaps.setBlock]

def brL (v : Bt) (m : Nat) : List Value := [.int .i64 v.c.n, .int .i64 v.c.f, .int .i64 v.c.s, .int .i64 v.c.d, .int .i64 v.c.k, .int .i64 v.c.e, .int .i64 v.c.v, .int .i64 v.c.r, .int .i64 v.c.l, .int .i64 v.c.p, .int .i64 v.i, .map (some m)]
/-- Block g holds a table of the program: its map in block m. -/
def BA (w : World) (g : Nat) (v : Bt) (m : Nat) : Prop := w.heap[g]? = some (.cells (brL v m).toArray 64 (0, 0))
theorem BA.lt {w : World} {g : Nat} {v : Bt} {m : Nat} (h : BA w g v m) : g < w.heap.size := (Array.getElem?_eq_some_iff.1 h).1
theorem BA.keep {w w' : World} {g : Nat} {v : Bt} {m : Nat} (h : BA w g v m) (hb : w'.heap[g]? = w.heap[g]?) : BA w' g v m := hb.trans h
theorem BA.cell {w : World} {g : Nat} {v : Bt} {m : Nat} (h : BA w g v m) (i : Nat) {u : Value} (hu : (brL v m)[i]? = some u) : w.cell? ⟨g, i, none⟩ = some u := by
  rw [cell_of_row w _ i _ _ _ h]; simpa using hu
theorem BA.cfg {w : World} {g : Nat} {v : Bt} {m : Nat} (h : BA w g v m) : w.cell? ⟨g, 0, none⟩ = some (.int .i64 v.c.n) ∧ w.cell? ⟨g, 1, none⟩ = some (.int .i64 v.c.f) ∧ w.cell? ⟨g, 2, none⟩ = some (.int .i64 v.c.s) ∧ w.cell? ⟨g, 3, none⟩ = some (.int .i64 v.c.d) ∧ w.cell? ⟨g, 4, none⟩ = some (.int .i64 v.c.k) ∧ w.cell? ⟨g, 5, none⟩ = some (.int .i64 v.c.e) ∧ w.cell? ⟨g, 6, none⟩ = some (.int .i64 v.c.v) ∧ w.cell? ⟨g, 7, none⟩ = some (.int .i64 v.c.r) ∧ w.cell? ⟨g, 8, none⟩ = some (.int .i64 v.c.l) ∧ w.cell? ⟨g, 9, none⟩ = some (.int .i64 v.c.p) :=
  ⟨h.cell 0 rfl, h.cell 1 rfl, h.cell 2 rfl, h.cell 3 rfl, h.cell 4 rfl, h.cell 5 rfl, h.cell 6 rfl, h.cell 7 rfl, h.cell 8 rfl, h.cell 9 rfl⟩
theorem BA.node {w : World} {g : Nat} {v : Bt} {m : Nat} (h : BA w g v m) : w.cell? ⟨g, 10, none⟩ = some (.int .i64 v.i) := h.cell 10 rfl
theorem BA.known {w : World} {g : Nat} {v : Bt} {m : Nat} (h : BA w g v m) : w.cell? ⟨g, 11, none⟩ = some (.map (some m)) := h.cell 11 rfl

/-- A table as it lies in memory: its block g, its map. -/
structure Bd (w : World) (g m : Nat) (v : Bt) (n : Nat) : Prop where
  at' : BA w g v m
  map : MapAt w m n v.K
theorem Bd.gm {w : World} {g m : Nat} {v : Bt} {n : Nat} (h : Bd w g m v n) : g ≠ m := by
  rintro rfl
  obtain ⟨es, clock, h1⟩ := h.map.isMap
  have h2 := h.at'
  unfold BA at h2
  rw [h1] at h2; cases h2
def Own (g m : Nat) : Nat → Prop := fun k => k = g ∨ k = m
theorem Bd.lt {w : World} {g m : Nat} {v : Bt} {n : Nat} (h : Bd w g m v n) {k : Nat} (hk : Own g m k) : k < w.heap.size := by
  rcases hk with rfl | rfl
  · exact h.at'.lt
  · exact h.map.lt
theorem Bd.keep {w w' : World} {g m : Nat} {v : Bt} {n : Nat} (h : Bd w g m v n) (hb : ∀ k, Own g m k → w'.heap[k]? = w.heap[k]?) : Bd w' g m v n :=
  ⟨h.at'.keep (hb g (.inl rfl)), h.map.keep (hb m (.inr rfl))⟩
theorem Bd.drew {w : World} {g m : Nat} {v : Bt} {n : Nat} (h : Bd w g m v n) : Bd w.drew g m v n := h.keep (w' := w.drew) fun _ _ => rfl
theorem Bd.below {w w' : World} {g m : Nat} {v : Bt} {n : Nat} (h : Bd w g m v n) (hb : Below w.heap.size w w') : Bd w' g m v n := h.keep fun k hk => hb.block k (h.lt hk)
theorem Bd.alloc {w : World} {g m : Nat} {v : Bt} {n : Nat} (h : Bd w g m v n) (o : Obj) : Bd (w.alloc o) g m v n := h.below (Go.Joins.below_alloc1 _ _)
theorem Bd.apart {F : Nat → Prop} {w w' : World} {g m : Nat} {v : Bt} {n : Nat} (h : Bd w g m v n) (ha : Apart F w w') (hn : ∀ k, Own g m k → ¬ F k) : Bd w' g m v n := h.keep fun k hk => ha.block k (h.lt hk) (hn k hk)
end Go.Proofs.Ytoibndfiolipbaa
