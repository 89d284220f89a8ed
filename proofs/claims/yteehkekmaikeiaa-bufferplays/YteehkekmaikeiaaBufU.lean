/-
  The contract of uncount.
-/
import Derived.Test.YteehkekmaikeiaaBufE
namespace Go.Proofs.Yteehkekmaikeiaa
open Go.ChangeShapes Go.WideShapes Go.ChangeAt Go.RowKit

/-- delete(m, k), its run known, as one step of a region that draws. -/
theorem step_delete_run {P : Program} {w w' : World} {ops : Array Oper} {o : Oper} {a : Act} {K : Act → World → Prop} {Q : Exit → Act → World → Prop} {E : Prop} (hgd : o.guard = none) (s x : Operand) (t u : TypeId)
    (ho : o.op = .call { callee := .builtin .delete, args := #[s, x], argTypes := #[t, u] }) (vs vx r : Value) (hs : a.eval s = vs) (hx : a.eval x = vx)
    (hrun : (Builtin.delete_ #[t, u] o.type #[vs, vx]).run P w = .ok r w') (h : K (a.put o.dst r) w') : if Region.wanted o (yielded ops a.tmps) = true then Oper.wp P o a w K Q else E := by
  have hw : Region.wanted o (yielded ops a.tmps) = true := by simp [Region.wanted, hgd]
  rw [if_pos hw]
  unfold Oper.wp execOp
  simp only [ho, resolve, invoke, builtin, Sem.run_bind, Sem.run_pure, Result.andThen_ok, List.map_toArray, List.map_cons, List.map_nil, hs, hx, hrun]
  exact h

set_option maxHeartbeats 1600000 in
set_option maxRecDepth 20000 in
theorem uncount_ok (w : World) (g m n : Nat) (f : Key → Nat) (k : Key) (c3 : w.cell? ⟨g, 3, none⟩ = some (.map (some m))) (h : MapAt w m n f) (hn : n ≤ 1000000) (hk : wfK k) (h1 : 1 ≤ f k) (h2 : f k ≤ 1000000) :
    Calls Try.prog 33 #[.pointer (some ⟨g, 0, none⟩), keyV k] w fun e w' => e = .returned (.tuple #[]) ∧ MapAt w' m (n + 1) (fun j => if j = k then f k - 1 else f j) ∧ Apart (fun j => j = m) w w' := by
  obtain ⟨W, hW⟩ : ∃ W, W = w.alloc (.cells #[.int .i64 k.1, .int .i64 k.2] 51) := ⟨_, rfl⟩
  have hb : Below w.heap.size w W := by rw [hW]; exact (Below.refl _ _).alloc (Nat.le_refl _) _
  have hgm : g ≠ m := by
    rintro rfl
    obtain ⟨es, clock, e⟩ := h.isMap
    simp [World.cell?, e] at c3
  have hbm : w.heap.size ≠ m := by have := h.lt; omega
  have hM : MapAt W.drew m n f := h.keep (hb.block m h.lt)
  have c3W : W.drew.cell? ⟨g, 3, none⟩ = some (.map (some m)) := by
    show W.cell? ⟨g, 3, none⟩ = _
    rw [hb.cell (World.block_lt_of_cell? w _ c3)]; exact c3
  have r1 : W.drew.heap[w.heap.size]? = some (.cells #[.int .i64 k.1, .int .i64 k.2] 51 (0, 0)) := by rw [hW]; exact heap_alloc_new _ _
  have hmax : (1000000 : Nat) < maxLen := by decide
  obtain ⟨v0, st, W1, he, hM1, ha1, hs1, hst⟩ := hM.entry (by omega) hk
  obtain ⟨c, hc⟩ : ∃ c, c = f k - 1 := ⟨_, rfl⟩
  obtain ⟨W3, hs, hM3, ha3, hs3⟩ := hst W1 c (inI_wf (by omega) (by omega)) rfl
  have hl0 := hM.look hk
  have hl1 := hM1.look hk
  have hlt : w.heap.size < W.drew.heap.size := (Array.getElem?_eq_some_iff.1 r1).1
  have r2 : W1.heap[w.heap.size]? = some (.cells #[.int .i64 k.1, .int .i64 k.2] 51 (0, 0)) := (ha1.block _ hlt hbm).trans r1
  have r3 : W3.heap[w.heap.size]? = some (.cells #[.int .i64 k.1, .int .i64 k.2] 51 (0, 0)) := (ha3.block _ (by omega) hbm).trans r2
  have c3W1 := ha1.cell c3W hgm
  have c3W3 := ha3.cell c3W1 hgm
  have x0 := cell_of_row _ _ 0 _ _ _ r1
  have x1 := cell_of_row _ _ 1 _ _ _ r1
  have y0 := cell_of_row _ _ 0 _ _ _ r2
  have y1 := cell_of_row _ _ 1 _ _ _ r2
  have z0 := cell_of_row _ _ 0 _ _ _ r3
  have z1 := cell_of_row _ _ 1 _ _ _ r3
  have e1 : IntKind.i64.wrap ((f k : Int) - 1) = (c : Int) := by rw [IntKind.wrap_i64]; omega
  have hl3 := (hM3.keep (w' := W3.drew) rfl).look hk
  rw [if_pos rfl] at hl3
  obtain ⟨W5, hd, hM5, ha5, _⟩ := (hM3.keep (w' := W3.drew.drew) rfl).del hk 0
  have HD : Hid ((Builtin.delete_ #[47, 51] 0 #[.map (some m), keyV k]).run Try.prog W3.drew.drew = .ok (.tuple #[]) W5) := hd
  have HA5 : Hid (Apart (fun j => j = m) w W5) := (((((Apart.of_below hb).drew.trans ha1 fun i hi => .inl hi).trans ha3 fun i hi => .inl hi).drew).drew).trans ha5 fun i hi => .inl hi
  have HM5 : Hid (c = 0 → MapAt W5 m (n + 1) (fun j => if j = k then c else f j)) := fun e => hM5.congr fun j => by
    by_cases hj : j = k
    · rw [if_pos hj, if_pos hj, e]
    · rw [if_neg hj, if_neg hj]
  have HW : Hid (W = w.alloc (.cells #[.int .i64 k.1, .int .i64 k.2] 51)) := hW
  have HA3 : Hid (Apart (fun j => j = m) w W3) := ((Apart.of_below hb).drew.trans ha1 fun i hi => .inl hi).trans ha3 fun i hi => .inl hi
  have HM3 : Hid (MapAt W3 m (n + 1) (fun j => if j = k then c else f j)) := hM3
  rw [← hc]
  have HC : Hid (c = f k - 1) := hc
  clear hc
  simp only [keyV] at he hl0 hl1 hl3 HD ⊢
  clear hd hM5 ha5 hmax h hM hM1 hM3 hst ha1 ha3 hs1 hs3 hb hW c3 r1 r2 r3 hlt hbm hgm
  go_enter Try.func33, Try.ntmps33
  go_wp2_with fail
  rw [← HW.out]
  go_region
  clear he hl0 hl1 hs
  by_cases h0 : c = 0
  · have g0 : ((c : Int) = 0) := by omega
    go_wp2_with fail
    go_region
    go_wp2_with fail
    go_region_law (refine step_delete_run (by kernel_rfl) (.tmp 23) (.tmp 24) 47 51 (by kernel_rfl) (.map (some m)) (.agg #[.int .i64 k.1, .int .i64 k.2]) _ (by kernel_rfl) (by kernel_rfl) HD.out ?_)
    all_goals
      go_wp2
      go_end0
      exact ⟨rfl, HM5.out h0, HA5.out⟩
  · have g0 : ¬ ((c : Int) = 0) := by omega
    go_wp2_with fail
    go_region
    go_wp2
    go_end0
    exact ⟨rfl, HM3.out.keep rfl, HA3.out.drew⟩
end Go.Proofs.Yteehkekmaikeiaa
