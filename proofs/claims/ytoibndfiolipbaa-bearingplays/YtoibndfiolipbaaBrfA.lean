/-
  The document's table in memory; New, Clear and may.
-/
import Derived.Test.YtoibndfiolipbaaBrgB
import Derived.Test.YtoibndfiolipbaaSchedS
import Derived.Deep.MidRow
import Derived.OwnWalk
namespace Go.Proofs.Ytoibndfiolipbaa
open Go.ChangeShapes Go.WideShapes Go.ChangeAt Go.RowKit
set_option maxRecDepth 20000

/-- What is known of a node, as the document has it. -/
def kdC : Option Kw → List Value
  | none => [.bool false, .int .i64 0, .int .i64 0, .int .i64 0]
  | some k => [.bool true, .int .i64 k.a, .int .i64 k.b, .int .i64 k.t]
def kdL (ws : List (Option Kw)) : List Value := ws.flatMap kdC
theorem kdC_len (p : Option Kw) : (kdC p).length = 4 := by rcases p with _ | k <;> rfl
theorem kdL_len : ∀ ws : List (Option Kw), (kdL ws).length = ws.length * 4
  | [] => rfl
  | p :: r => by
    have ih := kdL_len r
    simp only [kdL, List.flatMap_cons, List.length_append, kdC_len, List.length_cons] at ih ⊢
    omega
theorem kdL_get : ∀ (ws : List (Option Kw)) (j : Nat) (p : Option Kw) (t : Nat) (u : Value), ws[j]? = some p → (kdC p)[t]? = some u → (kdL ws)[j * 4 + t]? = some u
  | [], j, p, t, u, h, _ => by simp at h
  | q :: r, 0, p, t, u, h, hu => by
    simp at h
    subst h
    have ht := (List.getElem?_eq_some_iff.1 hu).1
    simp only [kdL, List.flatMap_cons]
    rw [List.getElem?_append_left (by omega)]
    rw [show 0 * 4 + t = t by omega]; exact hu
  | q :: r, j + 1, p, t, u, h, hu => by
    have ih := kdL_get r j p t u (by simpa using h) hu
    simp only [kdL, List.flatMap_cons] at ih ⊢
    rw [List.getElem?_append_right (by rw [kdC_len]; omega), kdC_len, show (j + 1) * 4 + t - 4 = j * 4 + t by omega]
    exact ih
theorem kdC_set (p q : Option Kw) : ∀ u0 u1 u2 u3, kdC q = [u0, u1, u2, u3] → ((((kdC p).set 0 u0).set 1 u1).set 2 u2).set 3 u3 = kdC q := by
  intro u0 u1 u2 u3 h
  rw [h]
  rcases p with _ | k <;> rfl
theorem kdL_set : ∀ (ws : List (Option Kw)) (j : Nat) (q : Option Kw) (u0 u1 u2 u3 : Value), j < ws.length → kdC q = [u0, u1, u2, u3] → ((((kdL ws).set (j * 4) u0).set (j * 4 + 1) u1).set (j * 4 + 2) u2).set (j * 4 + 3) u3 = kdL (ws.set j q)
  | [], j, q, _, _, _, _, h, _ => by simp at h
  | p :: r, 0, q, u0, u1, u2, u3, _, hq => by
    simp only [kdL, List.flatMap_cons, List.set_cons_zero, Nat.zero_mul, Nat.zero_add]
    rw [List.set_append_left _ _ (by rw [kdC_len]; omega), List.set_append_left _ _ (by rw [List.length_set, kdC_len]; omega), List.set_append_left _ _ (by rw [List.length_set, List.length_set, kdC_len]; omega), List.set_append_left _ _ (by rw [List.length_set, List.length_set, List.length_set, kdC_len]; omega), kdC_set p q u0 u1 u2 u3 hq]
  | p :: r, j + 1, q, u0, u1, u2, u3, h, hq => by
    have ih := kdL_set r j q u0 u1 u2 u3 (by simpa using h) hq
    simp only [kdL, List.flatMap_cons, List.set_cons_succ] at ih ⊢
    rw [List.set_append_right _ _ (by rw [kdC_len]; omega), kdC_len, List.set_append_right _ _ (by rw [kdC_len]; omega), kdC_len, List.set_append_right _ _ (by rw [kdC_len]; omega), kdC_len, List.set_append_right _ _ (by rw [kdC_len]; omega), kdC_len]
    rw [show (j + 1) * 4 - 4 = j * 4 by omega, show (j + 1) * 4 + 1 - 4 = j * 4 + 1 by omega, show (j + 1) * 4 + 2 - 4 = j * 4 + 2 by omega, show (j + 1) * 4 + 3 - 4 = j * 4 + 3 by omega, ih]

def DK (w : World) (g : Nat) (ws : List (Option Kw)) : Prop := w.heap[g]? = some (.cells (kdL ws).toArray 78 (0, 0))
theorem DK.lt {w : World} {g : Nat} {ws : List (Option Kw)} (h : DK w g ws) : g < w.heap.size := (Array.getElem?_eq_some_iff.1 h).1
theorem DK.cell {w : World} {g : Nat} {ws : List (Option Kw)} (h : DK w g ws) {j : Nat} {p : Option Kw} (hp : ws[j]? = some p) (t : Nat) {u : Value} (hu : (kdC p)[t]? = some u) : w.cell? ⟨g, j * 4 + t, none⟩ = some u := by
  rw [cell_of_row w _ _ _ _ _ h, List.getElem?_toArray]; exact kdL_get ws j p t u hp hu
theorem Try.underKn : Try.prog.underlying 78 = some (.struct (match Try.prog.underlying 78 with | some (.struct f) => f | _ => default)) := by kernel_rfl
theorem DK.loads {w : World} {g : Nat} {ws : List (Option Kw)} (h : DK w g ws) {j : Nat} {p : Option Kw} (hp : ws[j]? = some p) : (Instr.loadAt 78 (.pointer (some ⟨g, j * 4, none⟩))).run Try.prog w = .ok (.agg (kdC p).toArray) w := by
  refine run_loadAt_mid w g (j * 4) 78 (kdC p) _ ?_ Try.underKn rfl (by rw [kdC_len]; kernel_rfl)
  intro i u hu
  exact h.cell hp i hu
theorem DK.stores {w : World} {g : Nat} {ws : List (Option Kw)} (h : DK w g ws) (j : Nat) (hj : j < ws.length) (k : Kw) :
    ∃ w', (Instr.storeAt 78 (.pointer (some ⟨g, j * 4, none⟩)) (.agg #[.bool true, .int .i64 k.a, .int .i64 k.b, .int .i64 k.t])).run Try.prog w = .ok () w' ∧ DK w' g (ws.set j (some k)) ∧ Apart (fun k => k = g) w w' := by
  obtain ⟨p, hp⟩ : ∃ p, ws[j]? = some p := ⟨ws[j], by simp [hj]⟩
  have ht : w.there g (j * 4) (#[.bool true, .int .i64 k.a, .int .i64 k.b, .int .i64 k.t] : Array Value).size := fun i hi => by
    refine ⟨?_, frozen_of_row _ _ _ _ _ h⟩
    have hi : i < 4 := hi
    have hc : ∃ u, (kdC p)[i]? = some u := ⟨(kdC p)[i]'(by rw [kdC_len]; exact hi), by simp⟩
    obtain ⟨u, hu⟩ := hc
    rw [h.cell hp i hu]; rfl
  refine ⟨_, run_storeAt_mid w g (j * 4) 78 #[.bool true, .int .i64 k.a, .int .i64 k.b, .int .i64 k.t] ht (by kernel_rfl) (by simp [Value.oneCell']), ?_, ?_⟩
  · show DK ((((w.setCell ⟨g, j * 4, none⟩ (.bool true)).setCell ⟨g, j * 4 + 1, none⟩ (.int .i64 k.a)).setCell ⟨g, j * 4 + 2, none⟩ (.int .i64 k.b)).setCell ⟨g, j * 4 + 3, none⟩ (.int .i64 k.t)) g (ws.set j (some k))
    have a1 := heap_setCell_same w g (j * 4) _ 78 (.bool true) h
    have a2 := heap_setCell_same _ g (j * 4 + 1) _ 78 (.int .i64 k.a) a1
    have a3 := heap_setCell_same _ g (j * 4 + 2) _ 78 (.int .i64 k.b) a2
    have a4 := heap_setCell_same _ g (j * 4 + 3) _ 78 (.int .i64 k.t) a3
    unfold DK
    rw [a4, ← kdL_set ws j (some k) (.bool true) (.int .i64 k.a) (.int .i64 k.b) (.int .i64 k.t) hj rfl]
    simp
  · show Apart (fun k => k = g) w ((((w.setCell ⟨g, j * 4, none⟩ (.bool true)).setCell ⟨g, j * 4 + 1, none⟩ (.int .i64 k.a)).setCell ⟨g, j * 4 + 2, none⟩ (.int .i64 k.b)).setCell ⟨g, j * 4 + 3, none⟩ (.int .i64 k.t))
    exact ((((Apart.refl (fun k => k = g) w).setCell (b := g) (.inl rfl) _ _).setCell (b := g) (.inl rfl) _ _).setCell (b := g) (.inl rfl) _ _).setCell (b := g) (.inl rfl) _ _
theorem made_known (m : Nat) : (madeCells #[Value.bool false, .int .i64 0, .int .i64 0, .int .i64 0] (m * 4)).toList = kdL (List.replicate m none) := by
  apply List.ext_getElem?
  intro i
  by_cases hi : i < m * 4
  · have hj : (List.replicate m (none : Option Kw))[i / 4]? = some none := by rw [List.getElem?_replicate, if_pos (by omega)]
    have hr : i % 4 = 0 ∨ i % 4 = 1 ∨ i % 4 = 2 ∨ i % 4 = 3 := by omega
    have he : i = i / 4 * 4 + i % 4 := by omega
    have hl : (madeCells #[Value.bool false, .int .i64 0, .int .i64 0, .int .i64 0] (m * 4)).toList[i]? = (kdC none)[i % 4]? := by
      rcases hr with h | h | h | h <;> simp [madeCells, kdC, hi, h]
    rw [hl]
    rcases hr with h | h | h | h
    · rw [h, show (kdC none)[0]? = some (.bool false) from rfl]; conv => rhs; rw [he, h]
      exact (kdL_get _ _ none 0 _ hj rfl).symm
    · rw [h, show (kdC none)[1]? = some (.int .i64 0) from rfl]; conv => rhs; rw [he, h]
      exact (kdL_get _ _ none 1 _ hj rfl).symm
    · rw [h, show (kdC none)[2]? = some (.int .i64 0) from rfl]; conv => rhs; rw [he, h]
      exact (kdL_get _ _ none 2 _ hj rfl).symm
    · rw [h, show (kdC none)[3]? = some (.int .i64 0) from rfl]; conv => rhs; rw [he, h]
      exact (kdL_get _ _ none 3 _ hj rfl).symm
  · rw [List.getElem?_eq_none (by simp [madeCells]; omega), List.getElem?_eq_none (by rw [kdL_len]; simp; omega)]
theorem infoKn : (Try.prog.info? 78).map (fun i => (i.zero, i.size, i.bytes)) = some (some (.agg #[.bool false, .int .i64 0, .int .i64 0, .int .i64 0]), 4, 32) := by kernel_rfl
theorem op_makeK {w : World} {o : Oper} {a : Act} {K : Act → World → Prop} {Q : Exit → Act → World → Prop} (x y : Operand) (m : Nat) (hm : m ≤ 8) (ho : o.op = .makeSlice 68 x y) (hx : a.eval x = .int .i64 (m : Int)) (hy : a.eval y = .int .i64 (m : Int))
    (h : ∀ w', DK w' w.heap.size (List.replicate m none) → Below w.heap.size w w' → K (a.put o.dst (.slice (some ⟨w.heap.size, 0, none⟩) m m)) w') : Oper.wp Try.prog o a w K Q := by
  obtain ⟨i, hi, hz0, hz1, hz2⟩ := info_parts infoKn
  obtain ⟨w', hrun, hown, hgrow⟩ := run_make_full (P := Try.prog) w w.heap.size 68 78 i (.agg #[.bool false, .int .i64 0, .int .i64 0, .int .i64 0]) 4 (by kernel_rfl) hi hz0 hz1 .i64 .i64 m (by rw [hz2]; omega) (by unfold maxLen; omega) (Nat.le_refl _)
  have hd : DK w' w.heap.size (List.replicate m none) := by
    rcases hown.2 with ⟨h', _⟩ | ⟨g', cap', cur, h', _, hg, _, _, hcs, htake⟩
    · simp at h'
    · simp only [Value.slice.injEq, Option.some.injEq, Addr.mk.injEq, and_true, true_and] at h'
      obtain ⟨rfl, rfl⟩ := h'
      unfold DK
      rw [hg]
      have e1 : cur.toList = kdL (List.replicate m none) := by
        rw [← made_known]
        have : cur.toList.take (m * 4) = cur.toList := List.take_of_length_le (by simp [hcs])
        rw [← this]; exact htake
      rw [← e1]
  unfold Oper.wp execOp
  simp only [ho, hx, hy, Sem.run_bind, hrun, Result.andThen_ok, Sem.run_pure]
  exact h w' hd ((Below.refl _ _).grown hgrow (Nat.le_refl _) (by intro k h; cases h))
theorem wpList_makeK {ops : Array Oper} {rest : List Oper} {o : Oper} {a : Act} {w : World} {Q : Exit → Act → World → Prop} (hg : o.guard = none) (x y : Operand) (m : Nat) (hm : m ≤ 8) (ho : o.op = .makeSlice 68 x y) (hx : a.eval x = .int .i64 (m : Int)) (hy : a.eval y = .int .i64 (m : Int))
    (h : ∀ w', DK w' w.heap.size (List.replicate m none) → Below w.heap.size w w' → wpList Try.prog ops Q rest (a.put o.dst (.slice (some ⟨w.heap.size, 0, none⟩) m m)) w') : wpList Try.prog ops Q (o :: rest) a w := by
  refine wpList_plain hg fun K hK => ?_
  exact op_makeK x y m hm ho hx hy (fun w' h1 h2 => hK _ _ (h w' h1 h2))
theorem exec_load {P : Program} {o : Oper} {a : Act} {w : World} (ty : TypeId) (x : Operand) (ho : o.op = .load ty x) (v r : Value) (hx : a.eval x = v) (hrun : (Instr.loadAt ty v).run P w = .ok r w) : (execOp a.eval o).run P w = .ok (.value r) w := by
  unfold execOp
  simp only [ho, hx, Sem.run_bind, hrun, Result.andThen_ok, Sem.run_pure]
theorem rexec_build {P : Program} {o : Oper} {a : Act} {w : World} (t : TypeId) (parts : Array (Nat × Operand)) (ho : o.op = .build t parts) (vs : List (Nat × Value)) (r : Value) (hp : parts.toList.map (fun p => (p.1, a.eval p.2)) = vs) (hrun : (Instr.build t vs.toArray).run P w = .ok r w) : (execOp a.eval o).run P w = .ok (.value r) w := by
  have hq : parts.map (fun p => (p.1, a.eval p.2)) = vs.toArray := by rw [← hp, ← Array.toList_map, Array.toArray_toList]
  unfold execOp
  simp only [ho, hq, Sem.run_bind, hrun, Result.andThen_ok, Sem.run_pure]

/-- What is known, node by node. -/
def rowK (v : Bt) : List (Option Kw) := (List.range v.c.n.toNat).map fun (k : Nat) => v.K (k : Int)
theorem rowK_len (v : Bt) : (rowK v).length = v.c.n.toNat := by simp [rowK]
theorem rowK_get (v : Bt) {j : Nat} (h : j < v.c.n.toNat) : (rowK v)[j]? = some (v.K (j : Int)) := by simp [rowK, h]
theorem rowK_none {v : Bt} (h : ∀ x, v.K x = none) : rowK v = List.replicate v.c.n.toNat none := by
  apply List.ext_getElem?
  intro i
  by_cases hi : i < v.c.n.toNat
  · rw [rowK_get v hi, h, List.getElem?_replicate, if_pos hi]
  · rw [List.getElem?_eq_none (by rw [rowK_len]; omega), List.getElem?_eq_none (by simp; omega)]
theorem rowK_put (v : Bt) (j : Nat) (k : Kw) : (rowK v).set j (some k) = rowK (putK v (j : Int) k) := by
  apply List.ext_getElem?
  intro i
  have hc : (putK v (j : Int) k).c.n.toNat = v.c.n.toNat := rfl
  by_cases hi : i < v.c.n.toNat
  · rw [rowK_get (putK v (j : Int) k) (by rw [hc]; exact hi), List.getElem?_set]
    show _ = some (if (i : Int) = (j : Int) then some k else v.K i)
    by_cases hij : j = i
    · rw [if_pos hij, if_pos (by rw [rowK_len]; omega), if_pos (by omega)]
    · rw [if_neg hij, if_neg (by omega), rowK_get v hi]
  · rw [List.getElem?_eq_none (by rw [List.length_set, rowK_len]; omega), List.getElem?_eq_none (by rw [rowK_len, hc]; omega)]

def rbL (v : Bt) (s : Value) : List Value := [.int .i64 v.c.n, .int .i64 v.c.f, .int .i64 v.c.s, .int .i64 v.c.d, .int .i64 v.c.k, .int .i64 v.c.e, .int .i64 v.c.v, .int .i64 v.c.r, .int .i64 v.c.l, .int .i64 v.c.p, .int .i64 v.i, s]
/-- Block g holds a table of the document: its list the slice s. -/
def RA (w : World) (g : Nat) (v : Bt) (s : Value) : Prop := w.heap[g]? = some (.cells (rbL v s).toArray 70 (0, 0))
theorem RA.lt {w : World} {g : Nat} {v : Bt} {s : Value} (h : RA w g v s) : g < w.heap.size := (Array.getElem?_eq_some_iff.1 h).1
theorem RA.cell {w : World} {g : Nat} {v : Bt} {s : Value} (h : RA w g v s) (i : Nat) {u : Value} (hu : (rbL v s)[i]? = some u) : w.cell? ⟨g, i, none⟩ = some u := by
  rw [cell_of_row w _ i _ _ _ h]; simpa using hu
theorem RA.fz {w : World} {g : Nat} {v : Bt} {s : Value} (h : RA w g v s) (i : Nat) : w.frozen? ⟨g, i, none⟩ = false := frozen_of_row _ _ i _ _ h
theorem RA.loads {w : World} {g : Nat} {v : Bt} {s : Value} (h : RA w g v s) : (Instr.loadAt 23 (.pointer (some ⟨g, 0, none⟩))).run Try.prog w = .ok (.agg (cfC v.c)) w := by
  refine run_loadAt_mid w g 0 23 (cfL v.c) _ ?_ Try.underlying23 rfl (by kernel_rfl)
  intro i u hu
  rw [Nat.zero_add]
  refine h.cell i ?_
  have hi : i < 10 := (List.getElem?_eq_some_iff.1 hu).1
  rw [← hu]
  show ((cfL v.c) ++ [.int .i64 v.i, s])[i]? = (cfL v.c)[i]?
  exact List.getElem?_append_left hi
theorem RA.put {w : World} {g : Nat} {v v' : Bt} {s s' : Value} (h : RA w g v s) (i : Nat) (u : Value) (hl : (rbL v s).set i u = rbL v' s') : RA (w.setCell ⟨g, i, none⟩ u) g v' s' := by
  show (w.setCell ⟨g, i, none⟩ u).heap[g]? = _
  rw [heap_setCell_same _ _ _ _ _ _ h]
  congr 2
  rw [List.setIfInBounds_toArray, hl]
def slK (q : Nat) (v : Bt) : Value := .slice (some ⟨q, 0, none⟩) v.c.n.toNat v.c.n.toNat
/-- A table of the document's as it lies in memory: its block g, its list in block q. -/
structure Rd (w : World) (g q : Nat) (v : Bt) : Prop where
  at' : RA w g v (slK q v)
  row : DK w q (rowK v)
def Rwn (g q : Nat) : Nat → Prop := fun k => k = g ∨ k = q
theorem Rd.gq {w : World} {g q : Nat} {v : Bt} (h : Rd w g q v) : g ≠ q := by
  rintro rfl
  have h1 := h.at'
  have h2 := h.row
  unfold RA at h1
  unfold DK at h2
  rw [h1] at h2
  simp at h2
theorem Rd.lt {w : World} {g q : Nat} {v : Bt} (h : Rd w g q v) {k : Nat} (hk : Rwn g q k) : k < w.heap.size := by
  rcases hk with rfl | rfl
  · exact h.at'.lt
  · exact h.row.lt
theorem Rd.keep {w w' : World} {g q : Nat} {v : Bt} (h : Rd w g q v) (hb : ∀ k, Rwn g q k → w'.heap[k]? = w.heap[k]?) : Rd w' g q v := ⟨(hb g (.inl rfl)).trans h.at', (hb q (.inr rfl)).trans h.row⟩
theorem Rd.below {w w' : World} {g q : Nat} {v : Bt} (h : Rd w g q v) (hb : Below w.heap.size w w') : Rd w' g q v := h.keep fun k hk => hb.block k (h.lt hk)
theorem Rd.drew {w : World} {g q : Nat} {v : Bt} (h : Rd w g q v) : Rd w.drew g q v := h.keep (w' := w.drew) fun _ _ => rfl

theorem dmay_ok (w : World) (g : Nat) (v : Bt) (s : Value) (h : RA w g v s) (f t : Int) : Calls Try.prog 34 #[.pointer (some ⟨g, 0, none⟩), .int .i64 f, .int .i64 t] w fun e w' => e = .returned (.bool (mayF v f t)) ∧ w' = w := by
  have c0 := h.cell 0 rfl
  have c10 := h.cell 10 rfl
  have hv : mayF v f t = decide ((0 ≤ f ∧ f < v.c.n ∧ f ≠ v.i) ∧ 0 ≤ t ∧ t ≤ 1099511627776) := by
    unfold mayF otherB timeB
    rw [Bool.eq_iff_iff]
    simp only [Bool.and_eq_true, decide_eq_true_eq]
  rw [hv]
  clear h hv
  generalize v.c.n = n at *
  generalize v.i = i at *
  by_cases h0 : 0 ≤ f
  · by_cases h1 : f < n
    · by_cases h2 : f = i
      · rw [decide_eq_false (fun h => h.1.2.2 h2)]
        go_enter Try.func34, Try.ntmps34
        go_wp2
        go_ret
        exact ⟨by first | rfl | simp [h2], rfl⟩
      · by_cases h3 : 0 ≤ t
        · by_cases h4 : t ≤ 1099511627776
          · rw [decide_eq_true ⟨⟨h0, h1, h2⟩, h3, h4⟩]
            go_enter Try.func34, Try.ntmps34
            go_wp2
            go_ret
            exact ⟨by first | rfl | simp [h2], rfl⟩
          · rw [decide_eq_false (fun h => h4 h.2.2)]
            go_enter Try.func34, Try.ntmps34
            go_wp2
            go_ret
            exact ⟨by first | rfl | simp [h2], rfl⟩
        · rw [decide_eq_false (fun h => h3 h.2.1)]
          go_enter Try.func34, Try.ntmps34
          go_wp2
          go_ret
          exact ⟨by first | rfl | simp [h2], rfl⟩
    · rw [decide_eq_false (fun h => h1 h.1.2.1)]
      go_enter Try.func34, Try.ntmps34
      go_wp2
      go_ret
      exact ⟨by first | rfl | simp, rfl⟩
  · rw [decide_eq_false (fun h => h0 h.1.1)]
    go_enter Try.func34, Try.ntmps34
    go_wp2
    go_ret
    exact ⟨by first | rfl | simp, rfl⟩
end Go.Proofs.Ytoibndfiolipbaa
