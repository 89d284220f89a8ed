/-
  The contract of Put: what it refuses; what it keeps ready; the last steps.
-/
import Derived.Test.YteehkekmaikeiaaBufN
namespace Go.Proofs.Yteehkekmaikeiaa
open Go.ChangeShapes Go.WideShapes Go.ChangeAt Go.RowKit

/-- An append whose run is known. -/
theorem op_append_run {P : Program} {w w' : World} {o : Oper} {a : Act} {K : Act → World → Prop} {Q : Exit → Act → World → Prop} (s x : Operand) (t : TypeId)
    (ho : o.op = .call { callee := .builtin .append, args := #[s, x], argTypes := #[t, t] }) (v u r : Value) (hs : a.eval s = v) (hx : a.eval x = u)
    (hrun : (Builtin.append_ #[t, t] o.type #[v, u]).run P w = .ok r w') (h : K (a.put o.dst r) w') : Oper.wp P o a w K Q := by
  unfold Oper.wp execOp
  simp only [ho, resolve, invoke, builtin, Sem.run_bind, Sem.run_pure, Result.andThen_ok, List.map_toArray, List.map_cons, List.map_nil, hs, hx, hrun]
  exact h

/-- Room is there: the buffer, and the box of the cell. -/
def Ready (w : World) (g m : Nat) (v0 : Value) (s1 : Bs) (n1 B : Nat) (k : Key) (W : World) : Prop :=
  ∃ v' ss', Pb W g m v' s1 ss' n1 ∧ KBox W B k ∧ Apart (Own g m v0) w W ∧ (∀ j, v'.ownBlock = some j → v0.ownBlock = some j ∨ w.heap.size ≤ j)
/-- It waits, but is not counted yet. -/
def Half (w : World) (g m : Nat) (v0 : Value) (s1 : Bs) (n1 B : Nat) (k : Key) (x : List UInt8) (W : World) : Prop :=
  ∃ v' ss', PA W g s1.most s1.lost v' m ∧ MapAt W m n1 (cnt s1.L) ∧ Row E57 W v' ss' ∧ ss'.map Prod.fst = s1.L ++ [⟨k.1, k.2, x⟩] ∧ Seen W ss' ∧ KBox W B k ∧ Apart (Own g m v0) w W ∧ ∀ j, v'.ownBlock = some j → v0.ownBlock = some j ∨ w.heap.size ≤ j
theorem PLeft.refl {w W : World} {g m : Nat} {v : Value} {s : Bs} {ss : List Sl} {n : Nat} (h : Pb w g m v s ss n) (hb : Below w.heap.size w W) {n' : Nat} (hn : n ≤ n') : PLeft w g m v s n' W :=
  ⟨v, ss, (h.below hb).mono hn, Apart.of_below hb, fun _ hk => .inl hk⟩
/-- It is counted. -/
theorem Half.done {w : World} {g m : Nat} {v0 : Value} {s1 : Bs} {n1 B : Nat} {k : Key} {x : List UInt8} {W W' : World} (h : Half w g m v0 s1 n1 B k x W) (hok : Bs.ok { s1 with L := s1.L ++ [⟨k.1, k.2, x⟩] })
    (hm : MapAt W' m (n1 + 1) (fun j => if j = k then cnt s1.L k + 1 else cnt s1.L j)) (ha : Apart (fun j => j = m) W W') : PLeft w g m v0 { s1 with L := s1.L ++ [⟨k.1, k.2, x⟩] } (n1 + 1) W' := by
  obtain ⟨v', ss', h1, h2, h3, h4, h5, h6, h7, h8⟩ := h
  refine ⟨v', ss', ⟨h1.keep (ha.block g h1.lt (own_gm h1 h2)), ?_, h3.apart ha fun j hj e => own_vm h2 h3 (e ▸ hj), h4, h5.apart ha fun j hj => hj ▸ h2.plain, hok⟩, h7.trans ha fun i hi => .inl (.inr (.inl hi)), h8⟩
  refine hm.congr fun j => ?_
  show _ = cnt (s1.L ++ [⟨k.1, k.2, x⟩]) j
  rw [cnt_append, cnt_one]
  have e : (It.k ⟨k.1, k.2, x⟩ : Key) = k := rfl
  rw [e]
  by_cases hj : j = k
  · subst hj; simp
  · rw [if_neg hj, if_neg (fun e => hj e.symm)]; rfl

/-- The clone, the append and the store. -/
theorem Ready.put {w : World} {g m : Nat} {v0 : Value} {s1 : Bs} {n1 B : Nat} {k : Key} {W : World} {a : Option Addr} {l cap : Nat} {ss : List Sl} (hP : Pb W g m (.slice a l cap) s1 ss n1) (hB : KBox W B k) (hA : Apart (Own g m v0) w W) (hv : ∀ j, (Value.slice a l cap).ownBlock = some j → v0.ownBlock = some j ∨ w.heap.size ≤ j)
    {w7 : World} (hb : Below W.heap.size W w7) {d : Option Addr} {cd : Nat} {x : List UInt8} (hs : Sees w7 d cd x) :
    ∃ a' l' c' W10, (Builtin.append_ #[46, 46] 46 #[.slice a l cap, .slice (some ⟨w7.heap.size, 0, none⟩) 1 1]).run Try.prog (w7.alloc (.cells #[.int .i64 k.1, .int .i64 k.2, .slice d x.length cd] 57)) = .ok (.slice a' l' c') W10 ∧
      w7.cell? ⟨g, 2, none⟩ = some (.slice a l cap) ∧ (w7.cell? ⟨B, 0, none⟩ = some (.int .i64 k.1) ∧ w7.cell? ⟨B, 1, none⟩ = some (.int .i64 k.2)) ∧
      (w7.alloc (.cells #[.int .i64 k.1, .int .i64 k.2, .slice d x.length cd] 57)).cell? ⟨g, 2, none⟩ = some (.slice a l cap) ∧ ((w7.alloc (.cells #[.int .i64 k.1, .int .i64 k.2, .slice d x.length cd] 57)).cell? ⟨B, 0, none⟩ = some (.int .i64 k.1) ∧ (w7.alloc (.cells #[.int .i64 k.1, .int .i64 k.2, .slice d x.length cd] 57)).cell? ⟨B, 1, none⟩ = some (.int .i64 k.2)) ∧
      W10.cell? ⟨g, 2, none⟩ = some (.slice a l cap) ∧ W10.frozen? ⟨g, 2, none⟩ = false ∧ (W10.cell? ⟨B, 0, none⟩ = some (.int .i64 k.1) ∧ W10.cell? ⟨B, 1, none⟩ = some (.int .i64 k.2)) ∧
      ((W10.setCell ⟨g, 2, none⟩ (.slice a' l' c')).cell? ⟨B, 0, none⟩ = some (.int .i64 k.1) ∧ (W10.setCell ⟨g, 2, none⟩ (.slice a' l' c')).cell? ⟨B, 1, none⟩ = some (.int .i64 k.2)) ∧
      Half w g m v0 s1 n1 B k x (W10.setCell ⟨g, 2, none⟩ (.slice a' l' c')) := by
  have hP7 := hP.below hb
  have hB7 := hB.below hb
  obtain ⟨W9, hW9⟩ : ∃ W9, W9 = w7.alloc (.cells #[.int .i64 k.1, .int .i64 k.2, .slice d x.length cd] 57) := ⟨_, rfl⟩
  have hb9 : Below w7.heap.size w7 W9 := by rw [hW9]; exact (Below.refl _ _).alloc (Nat.le_refl _) _
  have r9 : W9.heap[w7.heap.size]? = some (.cells #[.int .i64 k.1, .int .i64 k.2, .slice d x.length cd] 57 (0, 0)) := by rw [hW9]; exact heap_alloc_new _ _
  rw [← hW9]
  have hP9 := hP7.below hb9
  have hB9 := hB7.below hb9
  have hs9 := hs.below hb9
  have hlen : ss.length ≤ 64 := by have := hP.ok.len; have := hP.ok.hi; have := congrArg List.length hP.its; simp at this; omega
  obtain ⟨v10, W10, hrun, hrow, hap, hnew⟩ := hP9.row.append [((⟨k.1, k.2, x⟩ : It), (d, cd))] (by simp; omega) (some ⟨w7.heap.size, 0, none⟩) 1 (fun _ => ⟨w7.heap.size, 0, rfl, fun t u hu => by
    rw [show E57.cs [((⟨k.1, k.2, x⟩ : It), (d, cd))] = [.int .i64 k.1, .int .i64 k.2, .slice d x.length cd] from rfl] at hu
    rw [cell_of_row _ _ (0 + t) _ _ _ r9, Nat.zero_add, ← Array.getElem?_toList]; exact hu⟩)
  obtain ⟨a', c', rfl, _⟩ := hrow.shape
  have hgv : (Value.slice a l cap).ownBlock ≠ some g := own_vg hP9.at' hP9.row
  have hBv : (Value.slice a l cap).ownBlock ≠ some B := by
    intro e
    obtain ⟨cur, h1, _⟩ := hP9.row.isRow e
    unfold KBox at hB9
    rw [h1] at hB9; cases hB9
  have hgB : B ≠ g := by
    rintro rfl
    have h1 := hP9.at'
    unfold PA at h1
    unfold KBox at hB9
    rw [h1] at hB9
    simp at hB9
  have hPA : PA W10 g s1.most s1.lost (.slice a l cap) m := hP9.at'.keep (hap.block g hP9.at'.lt hgv)
  have hB10 : KBox W10 B k := (hap.block B hB9.lt hBv).trans hB9
  have hB11 : KBox (W10.setCell ⟨g, 2, none⟩ (.slice a' (ss ++ [((⟨k.1, k.2, x⟩ : It), (d, cd))]).length c')) B k := by
    unfold KBox
    rw [heap_setCell_other _ _ _ _ hgB]; exact hB10
  have hM10 : MapAt W10 m n1 (cnt s1.L) := hP9.map.keep (hap.block m hP9.map.lt (own_vm hP9.map hP9.row))
  have hg10 : (Value.slice a' (ss ++ [((⟨k.1, k.2, x⟩ : It), (d, cd))]).length c').ownBlock ≠ some g := fun e => by
    rcases hnew g e with h1 | h1
    · exact hgv h1
    · have := hP9.at'.lt; omega
  have hag : Apart (fun j => j = g) W10 (W10.setCell ⟨g, 2, none⟩ (.slice a' (ss ++ [((⟨k.1, k.2, x⟩ : It), (d, cd))]).length c')) := (Apart.refl (fun j => j = g) W10).setCell (b := g) (.inl rfl) 2 _
  have hseen : Seen W10 (ss ++ [((⟨k.1, k.2, x⟩ : It), (d, cd))]) := by
    have h1 : Seen W9 (ss ++ [((⟨k.1, k.2, x⟩ : It), (d, cd))]) := fun y hy => by
      rcases List.mem_append.1 hy with hy | hy
      · exact hP9.seen y hy
      · rw [List.mem_singleton] at hy; subst hy; exact hs9
    exact h1.apart hap fun j hj => hP9.row.plain hj
  have hsz : w.heap.size ≤ W9.heap.size := Nat.le_trans hA.size (Nat.le_trans hb.size hb9.size)
  refine ⟨a', _, c', W10, hrun, hP7.at'.c2, ⟨hB7.c0, hB7.c1⟩, hP9.at'.c2, ⟨hB9.c0, hB9.c1⟩, hPA.c2, hPA.fz 2, ⟨hB10.c0, hB10.c1⟩, ⟨hB11.c0, hB11.c1⟩, ?_⟩
  refine ⟨_, ss ++ [((⟨k.1, k.2, x⟩ : It), (d, cd))], hPA.put2 _, hM10.keep (hag.block m hM10.lt fun e => own_gm hPA hM10 e.symm), hrow.apart hag fun j hj e => hg10 (e ▸ hj), by rw [List.map_append, hP.its]; rfl, hseen.apart hag fun j hj => hj ▸ hPA.plain (fun k y e => by cases e), hB11, ?_, fun j hj => ?_⟩
  · have h1 : Apart (Own g m v0) w W9 := (hA.trans (Apart.of_below (F := fun _ => False) hb) (fun _ h => h.elim)).trans (Apart.of_below (F := fun _ => False) hb9) (fun _ h => h.elim)
    have h2 : Apart (Own g m v0) w W10 := h1.trans hap fun i hi => by
      rcases hv i hi with h | h
      · exact .inl (.inr (.inr h))
      · exact .inr h
    exact h2.trans hag fun i hi => .inl (.inl hi)
  · rcases hnew j hj with h | h
    · exact hv j h
    · exact .inr (by omega)
end Go.Proofs.Yteehkekmaikeiaa
