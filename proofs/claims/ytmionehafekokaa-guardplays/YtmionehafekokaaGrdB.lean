/-
  A guard of the program in memory; what it strikes of old rounds.
-/
import Derived.Test.YtmionehafekokaaGrdK
import Derived.Maps.OwnSet
namespace Go.Proofs.Ytmionehafekokaa
open Go.ChangeShapes Go.WideShapes Go.ChangeAt Go.RowKit

def gdL (v : Gs) (m : Nat) (s : Value) : List Value := [.int .i64 v.c.n, .int .i64 v.c.f, .int .i64 v.c.s, .int .i64 v.c.d, .int .i64 v.c.k, .int .i64 v.c.e, .int .i64 v.c.v, .int .i64 v.c.r, .int .i64 v.c.l, .int .i64 v.c.p, .int .i64 v.i, .int .i64 v.last, .int .i64 v.least, .map (some m), s]
/-- Block g holds a guard of the program: its map in block m, its rounds the slice s. -/
def GA (w : World) (g : Nat) (v : Gs) (m : Nat) (s : Value) : Prop := w.heap[g]? = some (.cells (gdL v m s).toArray 54 (0, 0))
theorem GA.lt {w : World} {g : Nat} {v : Gs} {m : Nat} {s : Value} (h : GA w g v m s) : g < w.heap.size := (Array.getElem?_eq_some_iff.1 h).1
theorem GA.keep {w w' : World} {g : Nat} {v : Gs} {m : Nat} {s : Value} (h : GA w g v m s) (hb : w'.heap[g]? = w.heap[g]?) : GA w' g v m s := hb.trans h
theorem GA.cell {w : World} {g : Nat} {v : Gs} {m : Nat} {s : Value} (h : GA w g v m s) (i : Nat) {u : Value} (hu : (gdL v m s)[i]? = some u) : w.cell? ⟨g, i, none⟩ = some u := by
  rw [cell_of_row w _ i _ _ _ h]; simpa using hu
theorem GA.fz {w : World} {g : Nat} {v : Gs} {m : Nat} {s : Value} (h : GA w g v m s) (i : Nat) : w.frozen? ⟨g, i, none⟩ = false := frozen_of_row _ _ i _ _ h
theorem GA.cfg {w : World} {g : Nat} {v : Gs} {m : Nat} {s : Value} (h : GA w g v m s) : (w.cell? ⟨g, 0, none⟩ = some (.int .i64 v.c.n) ∧ w.cell? ⟨g, 1, none⟩ = some (.int .i64 v.c.f) ∧ w.cell? ⟨g, 2, none⟩ = some (.int .i64 v.c.s) ∧ w.cell? ⟨g, 3, none⟩ = some (.int .i64 v.c.d) ∧ w.cell? ⟨g, 4, none⟩ = some (.int .i64 v.c.k) ∧ w.cell? ⟨g, 5, none⟩ = some (.int .i64 v.c.e) ∧ w.cell? ⟨g, 6, none⟩ = some (.int .i64 v.c.v) ∧ w.cell? ⟨g, 7, none⟩ = some (.int .i64 v.c.r) ∧ w.cell? ⟨g, 8, none⟩ = some (.int .i64 v.c.l) ∧ w.cell? ⟨g, 9, none⟩ = some (.int .i64 v.c.p)) :=
  ⟨h.cell 0 rfl, h.cell 1 rfl, h.cell 2 rfl, h.cell 3 rfl, h.cell 4 rfl, h.cell 5 rfl, h.cell 6 rfl, h.cell 7 rfl, h.cell 8 rfl, h.cell 9 rfl⟩
theorem GA.node {w : World} {g : Nat} {v : Gs} {m : Nat} {s : Value} (h : GA w g v m s) : w.cell? ⟨g, 10, none⟩ = some (.int .i64 v.i) := h.cell 10 rfl
theorem GA.last {w : World} {g : Nat} {v : Gs} {m : Nat} {s : Value} (h : GA w g v m s) : w.cell? ⟨g, 11, none⟩ = some (.int .i64 v.last) := h.cell 11 rfl
theorem GA.least {w : World} {g : Nat} {v : Gs} {m : Nat} {s : Value} (h : GA w g v m s) : w.cell? ⟨g, 12, none⟩ = some (.int .i64 v.least) := h.cell 12 rfl
theorem GA.others {w : World} {g : Nat} {v : Gs} {m : Nat} {s : Value} (h : GA w g v m s) : w.cell? ⟨g, 13, none⟩ = some (.map (some m)) := h.cell 13 rfl
theorem GA.rounds {w : World} {g : Nat} {v : Gs} {m : Nat} {s : Value} (h : GA w g v m s) : w.cell? ⟨g, 14, none⟩ = some s := h.cell 14 rfl
theorem GA.put {w : World} {g : Nat} {v v' : Gs} {m m' : Nat} {s s' : Value} (h : GA w g v m s) (i : Nat) (u : Value) (hl : (gdL v m s).set i u = gdL v' m' s') : GA (w.setCell ⟨g, i, none⟩ u) g v' m' s' := by
  show (w.setCell ⟨g, i, none⟩ u).heap[g]? = _
  rw [heap_setCell_same _ _ _ _ _ _ h]
  congr 2
  rw [List.setIfInBounds_toArray, hl]

/-- A guard as it lies in memory: its block g, its map, its rounds. -/
structure Gd (w : World) (g m : Nat) (s : Value) (v : Gs) (rs : List Int) (n : Nat) : Prop where
  at' : GA w g v m s
  map : MapAt w m n v.os
  row : RsAt w s rs
  tie : Ties rs v.os
  len : rs.length ≤ n
theorem Gd.gm {w : World} {g m : Nat} {s : Value} {v : Gs} {rs : List Int} {n : Nat} (h : Gd w g m s v rs n) : g ≠ m := by
  rintro rfl
  obtain ⟨es, clock, h1⟩ := h.map.isMap
  have h2 := h.at'
  unfold GA at h2
  rw [h1] at h2; cases h2
theorem Gd.sg {w : World} {g m : Nat} {s : Value} {v : Gs} {rs : List Int} {n : Nat} (h : Gd w g m s v rs n) : s.ownBlock ≠ some g := by
  intro e
  obtain ⟨cur, h1⟩ := h.row.isRow e
  have h2 := h.at'
  unfold GA at h2
  rw [h1] at h2; cases h2
theorem Gd.sm {w : World} {g m : Nat} {s : Value} {v : Gs} {rs : List Int} {n : Nat} (h : Gd w g m s v rs n) : s.ownBlock ≠ some m := by
  intro e
  obtain ⟨cur, h1⟩ := h.row.isRow e
  obtain ⟨es, clock, h2⟩ := h.map.isMap
  rw [h1] at h2; cases h2
def Own (g m : Nat) (s : Value) : Nat → Prop := fun k => k = g ∨ k = m ∨ s.ownBlock = some k
theorem Gd.lt {w : World} {g m : Nat} {s : Value} {v : Gs} {rs : List Int} {n : Nat} (h : Gd w g m s v rs n) {k : Nat} (hk : Own g m s k) : k < w.heap.size := by
  rcases hk with rfl | rfl | hk
  · exact h.at'.lt
  · exact h.map.lt
  · exact h.row.lt hk
theorem Gd.keep {w w' : World} {g m : Nat} {s : Value} {v : Gs} {rs : List Int} {n : Nat} (h : Gd w g m s v rs n) (hb : ∀ k, Own g m s k → w'.heap[k]? = w.heap[k]?) : Gd w' g m s v rs n :=
  ⟨h.at'.keep (hb g (.inl rfl)), h.map.keep (hb m (.inr (.inl rfl))), h.row.keep fun k hk => hb k (.inr (.inr hk)), h.tie, h.len⟩
theorem Gd.drew {w : World} {g m : Nat} {s : Value} {v : Gs} {rs : List Int} {n : Nat} (h : Gd w g m s v rs n) : Gd w.drew g m s v rs n := h.keep (w' := w.drew) fun _ _ => rfl
theorem Gd.below {w w' : World} {g m : Nat} {s : Value} {v : Gs} {rs : List Int} {n : Nat} (h : Gd w g m s v rs n) (hb : Below w.heap.size w w') : Gd w' g m s v rs n := h.keep fun k hk => hb.block k (h.lt hk)

/-- delete(m, k), its run known, as one step of a region that draws. -/
theorem step_delete_run {P : Program} {w w' : World} {ops : Array Oper} {o : Oper} {a : Act} {K : Act → World → Prop} {Q : Exit → Act → World → Prop} {E : Prop} (hgd : o.guard = none) (s x : Operand) (t u : TypeId)
    (ho : o.op = .call { callee := .builtin .delete, args := #[s, x], argTypes := #[t, u] }) (vs vx r : Value) (hs : a.eval s = vs) (hx : a.eval x = vx)
    (hrun : (Builtin.delete_ #[t, u] o.type #[vs, vx]).run P w = .ok r w') (h : K (a.put o.dst r) w') : if Region.wanted o (yielded ops a.tmps) = true then Oper.wp P o a w K Q else E := by
  have hw : Region.wanted o (yielded ops a.tmps) = true := by simp [Region.wanted, hgd]
  rw [if_pos hw]
  unfold Oper.wp execOp
  simp only [ho, resolve, invoke, builtin, Sem.run_bind, Sem.run_pure, Result.andThen_ok, List.map_toArray, List.map_cons, List.map_nil, hs, hx, hrun]
  exact h
/-- m[k] = v, its run known. -/
theorem wpList_mapUpdate_run {P : Program} {w w' : World} {ops : Array Oper} {rest : List Oper} {o : Oper} {a : Act} {Q : Exit → Act → World → Prop} (hgd : o.guard = none) (t : TypeId) (m x v : Operand) (ho : o.op = .mapUpdate t m x v)
    (vm vx vv : Value) (hm : a.eval m = vm) (hx : a.eval x = vx) (hv : a.eval v = vv) (hrun : (Instr.mapUpdate t vm vx vv).run P w = .ok () w') (h : wpList P ops Q rest (a.put o.dst undef) w') : wpList P ops Q (o :: rest) a w := by
  refine wpList_plain hgd fun K hK => ?_
  unfold Oper.wp execOp
  simp only [ho, hm, hx, hv, Sem.run_bind, hrun, Result.andThen_ok, Sem.run_pure]
  exact hK _ _ h

theorem own_same (a : Option Addr) (n c n' c' : Nat) : (Value.slice a n c).ownBlock = (Value.slice a n' c').ownBlock := by cases a <;> rfl
/-- The lowest round is struck of all. -/
theorem Gd.strike {w : World} {g m : Nat} {a : Option Addr} {k cap : Nat} {v : Gs} {rs : List Int} {y : Int} {n : Nat} (h : Gd w g m (.slice a k cap) v (rs ++ [y]) n) (hy : (Lit.int .i64 y).wf = true) (ty : TypeId) :
    ∃ w', (Builtin.delete_ #[52, 3] ty #[.map (some m), .int .i64 y]).run Try.prog w = .ok (.tuple #[]) w' ∧ GA w' g v m (.slice a k cap) ∧ Gd (w'.setCell ⟨g, 14, none⟩ (.slice a rs.length cap)) g m (.slice a rs.length cap) { v with os := v.os.filter fun x => decide (x ≠ y) } rs n ∧
      Apart (fun k => k = g ∨ k = m) w (w'.setCell ⟨g, 14, none⟩ (.slice a rs.length cap)) := by
  obtain ⟨w', hrun, h1, h2, h3⟩ := h.map.del hy ty
  have hgm := h.gm
  have hsg := h.sg
  have hsm := h.sm
  have hA : GA w' g v m (.slice a k cap) := h.at'.keep (h2.block g h.at'.lt hgm)
  refine ⟨w', hrun, hA, ⟨hA.put 14 _ rfl, h1.keep (heap_setCell_other _ _ _ _ (fun e => hgm e.symm)), ?_, h.tie.strike, by have := h.len; simp at this; omega⟩, ?_⟩
  · refine h.row.pop.keep fun j hj => ?_
    have hj1 : j ≠ g := fun e => hsg (by subst e; exact (own_same _ _ _ _ _).trans hj)
    have hj2 : j ≠ m := fun e => hsm (by subst e; exact (own_same _ _ _ _ _).trans hj)
    rw [heap_setCell_other _ _ _ _ hj1]
    exact h2.block j (h.row.pop.lt hj) hj2
  · exact (h2.mono fun _ e => .inr e).setCell (.inl (.inl rfl)) 14 _
end Go.Proofs.Ytmionehafekokaa
