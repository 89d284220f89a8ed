/-
  The contracts of Put and of Most, the program's.
-/
import Derived.Test.YtoibndfiolipbaaBrgC
namespace Go.Proofs.Ytoibndfiolipbaa
open Go.ChangeShapes Go.WideShapes Go.ChangeAt Go.RowKit

theorem at_ok (w : World) (g m : Nat) (v : Bt) (n : Nat) (h : Bd w g m v n) (ok : v.ok) (f t : Int) :
    Calls Try.prog 14 #[.pointer (some ⟨g, 0, none⟩), .int .i64 f, .int .i64 t] w fun e w' => e = .returned (.tuple #[.agg #[.int .i64 (atA v f t).a, .int .i64 (atA v f t).b], .int .i64 (atA v f t).e]) ∧ Below w.heap.size w w' := by
  cases hf : mayF v f t
  · rw [atA, hf, if_neg Bool.false_ne_true]
    exact at_bad w g m v n h f t hf
  · rw [atA, hf, if_pos rfl]
    exact at_may w g m v n h ok f t hf

theorem max2i (a b : Int) (w : World) : (Builtin.max_ #[2, 2] 2 #[.int .i64 a, .int .i64 b]).run Try.prog w = .ok (.int .i64 (max a b)) w := by
  simp only [Builtin.max_, List.foldlM_cons, List.foldlM_nil, Builtin.max2, Sem.run_bind, Sem.run_pure, Result.andThen_ok]
  congr 2
  omega
theorem at_may_of {v : Bt} {f t : Int} (h : (atA v f t).e = 0) : mayF v f t = true := by
  cases hf : mayF v f t
  · rw [atA, hf, if_neg Bool.false_ne_true] at h; cases h
  · rfl
/-- What lies below a new pair stays; the pair's cells. -/
theorem pair_next {w w1 : World} (hb : Below w.heap.size w w1) (x y : Int) : Pair (w1.alloc (.cells #[.int .i64 x, .int .i64 y] 39)) w1.heap.size x y ∧ Below w.heap.size w (w1.alloc (.cells #[.int .i64 x, .int .i64 y] 39)) := ⟨Pair.new _ _ _, hb.alloc hb.size _⟩

set_option maxHeartbeats 1600000 in
set_option maxRecDepth 20000 in
theorem most_ok (w : World) (g m : Nat) (v : Bt) (n : Nat) (h : Bd w g m v n) (ok : v.ok) (f t : Int) :
    Calls Try.prog 16 #[.pointer (some ⟨g, 0, none⟩), .int .i64 f, .int .i64 t] w fun e w' => e = .returned (.tuple #[.int .i64 (mosV (atA v f t) t), .int .i64 (atA v f t).e]) ∧ Below w.heap.size w w' := by
  have K := at_ok w g m v n h ok f t
  have hr : (atA v f t).e = 0 → (0 ≤ t ∧ t ≤ 1099511627776) ∧ -1099511627776 ≤ (atA v f t).b ∧ (atA v f t).b ≤ 1099511627776 := fun he => by
    have h1 := rightB_true (at_right he)
    exact ⟨time_in (mayF_in (at_may_of he)).2, by omega, h1.2.2⟩
  have HV : Hid (∀ X : An, X = atA v f t → mosV X t = if X.e = 0 then max (t + X.b) 0 else 0) := fun X _ => rfl
  unfold mosV
  generalize atA v f t = X at *
  obtain ⟨x, y, z⟩ := X
  dsimp only at *
  clear h ok HV
  by_cases hz : z = 0
  · subst hz
    rw [if_pos rfl]
    obtain ⟨h1, h2⟩ := hr rfl
    have e1 : IntKind.i64.wrap (t + y) = t + y := wrap_in (by omega) (by omega)
    obtain ⟨s, hs⟩ : ∃ s, s = t + y := ⟨_, rfl⟩
    rw [← hs]
    have e2 : IntKind.i64.wrap (t + y) = s := by rw [hs]; exact e1
    have hmx := max2i s 0
    generalize max s 0 = q at *
    clear hr h1 h2 e1 hs
    go_enter Try.func16, Try.ntmps16
    go_wp2_with fail
    refine K.mono ?_
    rintro e w1 ⟨rfl, hb⟩
    clear K
    go_upto_region 2 with fail
    obtain ⟨hp, hb2⟩ := pair_next hb x y
    generalize w1.alloc (.cells #[.int .i64 x, .int .i64 y] 39) = W at *
    generalize w1.heap.size = p at *
    obtain ⟨x0, x1, x2, x3⟩ := hp.facts
    clear hp hb
    go_wp2
    go_ret2
    exact ⟨rfl, hb2⟩
  · rw [if_neg hz]
    clear hr
    go_enter Try.func16, Try.ntmps16
    go_wp2_with fail
    refine K.mono ?_
    rintro e w1 ⟨rfl, hb⟩
    clear K
    go_upto_region 2 with fail
    obtain ⟨hp, hb2⟩ := pair_next hb x y
    generalize w1.alloc (.cells #[.int .i64 x, .int .i64 y] 39) = W at *
    generalize w1.heap.size = p at *
    clear hp hb
    go_wp2
    go_ret2
    exact ⟨rfl, hb2⟩
theorem most_no (w : World) (p : Value) (h : NoB w p) (f t : Int) :
    Calls Try.prog 16 #[p, .int .i64 f, .int .i64 t] w fun e w' => e = .returned (.tuple #[.int .i64 0, .int .i64 7]) ∧ Below w.heap.size w w' := by
  have K := at_no w p h f t
  clear h
  go_enter Try.func16, Try.ntmps16
  go_wp2_with fail
  refine K.mono ?_
  rintro e w1 ⟨rfl, hb⟩
  clear K
  go_upto_region 2 with fail
  obtain ⟨hp, hb2⟩ := pair_next hb 0 0
  generalize w1.alloc (.cells #[.int .i64 0, .int .i64 0] 39) = W at *
  generalize w1.heap.size = p at *
  clear hp hb
  go_wp2
  go_ret2
  exact ⟨rfl, hb2⟩

/-- Put, under way: the table, and what is put. -/
structure Pm (w : World) (g m : Nat) (v : Bt) (n : Nat) (a b : Int) (W : World) : Prop where
  bd : Bd W g m v n
  pr : Pair W w.heap.size a b
  bel : Below w.heap.size w W
theorem Pm.new {w : World} {g m : Nat} {v : Bt} {n : Nat} (h : Bd w g m v n) (a b : Int) : Pm w g m v n a b (w.alloc (.cells #[.int .i64 a, .int .i64 b] 39)) := ⟨h.alloc _, Pair.new _ _ _, Go.Joins.below_alloc1 _ _⟩
theorem Pm.step {w W V : World} {g m : Nat} {v : Bt} {n : Nat} {a b : Int} (h : Pm w g m v n a b W) (hb : Below W.heap.size W V) : Pm w g m v n a b V := ⟨h.bd.below hb, h.pr.below hb, h.bel.trans (hb.mono h.bel.size)⟩
theorem Pm.drew {w W : World} {g m : Nat} {v : Bt} {n : Nat} {a b : Int} (h : Pm w g m v n a b W) : Pm w g m v n a b W.drew := ⟨h.bd.drew, h.pr, h.bel.drew⟩
theorem Pm.set {w W : World} {g m : Nat} {v : Bt} {n : Nat} {a b : Int} (h : Pm w g m v n a b W) (h0 : Bd w g m v n) (x y : Int) : Pm w g m v n x y ((W.setCell ⟨w.heap.size, 0, none⟩ (.int .i64 x)).setCell ⟨w.heap.size, 1, none⟩ (.int .i64 y)) := by
  have l1 := h0.at'.lt
  have l2 := h0.map.lt
  refine ⟨h.bd.keep fun q hq => ?_, h.pr.set x y, below_pair h.bel (Nat.le_refl _) _ _⟩
  have hq' : q ≠ w.heap.size := by rcases hq with rfl | rfl <;> omega
  rw [heap_setCell_other _ _ _ _ hq', heap_setCell_other _ _ _ _ hq']
/-- It is written into the map. -/
theorem Pm.fin {w W : World} {g m : Nat} {v : Bt} {n : Nat} {a b : Int} (h : Pm w g m v n a b W) (h0 : Bd w g m v n) (hn : n ≤ 999) {f : Int} (hf : (Lit.int .i64 f).wf = true) (t : Int) :
    ∃ W', (Instr.mapUpdate 62 (.map (some m)) (.int .i64 f) (.agg #[.int .i64 a, .int .i64 b, .int .i64 t])).run Try.prog W = .ok () W' ∧ (Bd W' g m (putK v f ⟨a, b, t⟩) (n + 1) ∧ Apart (fun k => k = m) w W') ∧ W'.cell? ⟨g, 11, none⟩ = some (.map (some m)) ∧ W'.cell? ⟨w.heap.size, 0, none⟩ = some (.int .i64 a) ∧ W'.cell? ⟨w.heap.size, 1, none⟩ = some (.int .i64 b) := by
  have hm : (1000 : Nat) < maxLen := by decide
  obtain ⟨W', hrun, h1, h2, h3⟩ := h.bd.map.put (by omega) hf ⟨a, b, t⟩
  have l2 := h0.map.lt
  have hB : BA W' g v m := h.bd.at'.keep (h2.block g h.bd.at'.lt h.bd.gm)
  exact ⟨W', hrun, ⟨⟨hB, h1⟩, (Apart.of_below h.bel).trans h2 (fun i hi => .inl hi)⟩, hB.known, h2.cell h.pr.c0 (by show w.heap.size ≠ m; omega), h2.cell h.pr.c1 (by show w.heap.size ≠ m; omega)⟩
theorem op_mapUpdate_run {P : Program} {o : Oper} {a : Act} {w w' : World} {K : Act → World → Prop} {Q : Exit → Act → World → Prop} (ty : TypeId) (m x y : Operand) (ho : o.op = .mapUpdate ty m x y) (vm vx vy : Value) (hm : a.eval m = vm) (hx : a.eval x = vx) (hy : a.eval y = vy) (hrun : (Instr.mapUpdate ty vm vx vy).run P w = .ok () w') (h : K (a.put o.dst undef) w') : Oper.wp P o a w K Q := by
  unfold Oper.wp execOp
  simp only [ho, hm, hx, hy, Sem.run_bind, hrun, Result.andThen_ok, Sem.run_pure]
  exact h
theorem exec_build {P : Program} {o : Oper} {a : Act} {w : World} (t : TypeId) (parts : Array (Nat × Operand)) (ho : o.op = .build t parts) (vs : List (Nat × Value)) (r : Value) (hp : parts.toList.map (fun p => (p.1, a.eval p.2)) = vs) (hrun : (Instr.build t vs.toArray).run P w = .ok r w) : (execOp a.eval o).run P w = .ok (.value r) w := by
  have hq : parts.map (fun p => (p.1, a.eval p.2)) = vs.toArray := by rw [← hp, ← Array.toList_map, Array.toArray_toList]
  unfold execOp
  simp only [ho, hq, Sem.run_bind, hrun, Result.andThen_ok, Sem.run_pure]
theorem fieldBr (a b t : Int) (w : World) : (Instr.field 74 (.agg #[.int .i64 a, .int .i64 b, .int .i64 t]) 1).run Try.prog w = .ok (.int .i64 t) w := by kernel_rfl
theorem buildBr (a b t : Int) (w : World) : (Instr.build 74 #[(0, .agg #[.int .i64 a, .int .i64 b]), (1, .int .i64 t)]).run Try.prog w = .ok (.agg #[.int .i64 a, .int .i64 b, .int .i64 t]) w := by kernel_rfl

set_option maxHeartbeats 1600000 in
set_option maxRecDepth 20000 in
theorem put_bad (w : World) (g m : Nat) (v : Bt) (n : Nat) (h : Bd w g m v n) (f a b t : Int) (hf : putE v f a b t = 1) :
    Calls Try.prog 12 #[.pointer (some ⟨g, 0, none⟩), .int .i64 f, .agg #[.int .i64 a, .int .i64 b], .int .i64 t] w fun e w' => e = .returned (.int .i64 1) ∧ Below w.heap.size w w' := by
  have HA : Hid (Pm w g m v n a b (w.alloc (.cells #[.int .i64 a, .int .i64 b] 39))) := Pm.new h a b
  have KM := made_ok _ g m HA.out.bd.at'.known
  have KO := other_ok _ g m v f HA.out.bd.at'
  have KR := isright_ok (w.alloc (.cells #[.int .i64 a, .int .i64 b] 39)) a b
  have KT : Hid (∀ W, Calls Try.prog 32 #[.int .i64 t] W fun e w' => e = .returned (.bool (timeB t)) ∧ w' = W) := fun W => time_ok W t
  obtain ⟨x0, x1, x2, x3⟩ := HA.out.pr.facts
  clear h
  cases h1 : otherB v f
  · rw [h1] at KO
    clear hf h1 KR KT
    go_enter Try.func12, Try.ntmps12
    go_wp2_with fail
    generalize w.alloc (.cells #[.int .i64 a, .int .i64 b] 39) = W at *
    refine KM.mono ?_
    rintro e w1 ⟨rfl, rfl⟩
    clear KM
    go_wp2_with fail
    refine KO.mono ?_
    rintro e w2 ⟨rfl, rfl⟩
    clear KO
    go_wp2
    go_ret
    exact ⟨rfl, HA.out.bel⟩
  rw [h1] at KO
  cases h2 : rightB a b
  · rw [h2] at KR
    clear hf h1 h2 KT
    go_enter Try.func12, Try.ntmps12
    go_wp2_with fail
    generalize w.alloc (.cells #[.int .i64 a, .int .i64 b] 39) = W at *
    refine KM.mono ?_
    rintro e w1 ⟨rfl, rfl⟩
    clear KM
    go_wp2_with fail
    refine KO.mono ?_
    rintro e w2 ⟨rfl, rfl⟩
    clear KO
    go_wp2_with fail
    refine KR.mono ?_
    rintro e w3 ⟨rfl, hb⟩
    have HB : Hid (Below w.heap.size w w3) := (HA.out.step hb).bel
    clear KR hb HA x0 x1 x2 x3
    go_wp2
    go_ret
    exact ⟨rfl, HB.out⟩
  rw [h2] at KR
  have h3 : timeB t = false := by
    cases h3 : timeB t
    · rfl
    · rw [putE, if_pos ⟨h1, h2, h3⟩] at hf
      split at hf <;> cases hf
  rw [h3] at KT
  clear hf h1 h2 h3
  go_enter Try.func12, Try.ntmps12
  go_wp2_with fail
  generalize w.alloc (.cells #[.int .i64 a, .int .i64 b] 39) = W at *
  refine KM.mono ?_
  rintro e w1 ⟨rfl, rfl⟩
  clear KM
  go_wp2_with fail
  refine KO.mono ?_
  rintro e w2 ⟨rfl, rfl⟩
  clear KO
  go_wp2_with fail
  refine KR.mono ?_
  rintro e w3 ⟨rfl, hb⟩
  have HB : Hid (Below w.heap.size w w3) := (HA.out.step hb).bel
  clear KR hb HA x0 x1 x2 x3
  go_wp2_with fail
  refine (KT.out _).mono ?_
  rintro e w4 ⟨rfl, rfl⟩
  clear KT
  go_wp2
  go_ret
  exact ⟨rfl, HB.out⟩
theorem put_no (w : World) (p : Value) (h : NoB w p) (f a b t : Int) :
    Calls Try.prog 12 #[p, .int .i64 f, .agg #[.int .i64 a, .int .i64 b], .int .i64 t] w fun e w' => e = .returned (.int .i64 7) ∧ Below w.heap.size w w' := by
  have KM := made_no _ p (h.below (Go.Joins.below_alloc1 w (.cells #[.int .i64 a, .int .i64 b] 39)))
  have HP : Hid (Below w.heap.size w (w.alloc (.cells #[.int .i64 a, .int .i64 b] 39))) := Go.Joins.below_alloc1 _ _
  clear h
  go_enter Try.func12, Try.ntmps12
  go_wp2_with fail
  generalize w.alloc (.cells #[.int .i64 a, .int .i64 b] 39) = W at *
  refine KM.mono ?_
  rintro e w1 ⟨rfl, rfl⟩
  clear KM
  go_wp2
  go_ret
  exact ⟨rfl, HP.out⟩

set_option maxHeartbeats 3200000 in
set_option maxRecDepth 20000 in
theorem put_may (w : World) (g m : Nat) (v : Bt) (n : Nat) (h : Bd w g m v n) (ok : v.ok) (hn : n ≤ 999) (f a b t : Int) (h1 : otherB v f = true) (h2 : rightB a b = true) (h3 : timeB t = true) :
    Calls Try.prog 12 #[.pointer (some ⟨g, 0, none⟩), .int .i64 f, .agg #[.int .i64 a, .int .i64 b], .int .i64 t] w fun e w' => (oldB (v.K f) t = true ∧ e = .returned (.int .i64 10) ∧ Below w.heap.size w w') ∨ (oldB (v.K f) t = false ∧ e = .returned (.int .i64 0) ∧ Bd w' g m (putT v f a b t) (n + 1) ∧ Apart (fun k => k = m) w w') := by
  have HA : Hid (Pm w g m v n a b (w.alloc (.cells #[.int .i64 a, .int .i64 b] 39))) := Pm.new h a b
  have KM := made_ok _ g m HA.out.bd.at'.known
  have KO := other_ok _ g m v f HA.out.bd.at'
  have KR := isright_ok (w.alloc (.cells #[.int .i64 a, .int .i64 b] 39)) a b
  have KT : Hid (∀ W, Calls Try.prog 32 #[.int .i64 t] W fun e w' => e = .returned (.bool (timeB t)) ∧ w' = W) := fun W => time_ok W t
  obtain ⟨x0, x1, x2, x3⟩ := HA.out.pr.facts
  rw [h1] at KO
  rw [h2] at KR
  rw [h3] at KT
  have hwf : (Lit.int .i64 f).wf = true := by
    have h1 := other_in h1
    have hn8 := (right_of ok.r).n1
    exact inI_wf (by omega) (by omega)
  have HW : Hid ((Lit.int .i64 f).wf = true ∧ Bd w g m v n ∧ v.ok ∧ n ≤ 999) := ⟨hwf, h, ok, hn⟩
  have HO : Hid (oldB (v.K f) t = decide (t < ((v.K f).getD kn0).t)) := by
    show oldB (v.K f) t = _
    cases v.K f with
    | none =>
      have := time_in h3
      show false = decide (t < 0)
      rw [decide_eq_false (by omega)]
    | some k => rfl
  clear h1 h2 h3 h hwf ok hn
  go_enter Try.func12, Try.ntmps12
  go_wp2_with fail
  generalize w.alloc (.cells #[.int .i64 a, .int .i64 b] 39) = W at *
  refine KM.mono ?_
  rintro e w1 ⟨rfl, rfl⟩
  clear KM
  go_wp2_with fail
  refine KO.mono ?_
  rintro e w2 ⟨rfl, rfl⟩
  clear KO
  go_wp2_with fail
  refine KR.mono ?_
  rintro e w3 ⟨rfl, hb⟩
  have H3 : Hid (Pm w g m v n a b w3) := HA.out.step hb
  clear KR hb HA x0 x1 x2 x3
  go_wp2_with fail
  refine (KT.out _).mono ?_
  rintro e w4 ⟨rfl, rfl⟩
  clear KT
  have c11 := H3.out.bd.at'.known
  have HL : Hid ((Instr.lookup 62 (.map (some m)) (.int .i64 f) false).run Try.prog w4 = .ok (.agg #[.int .i64 ((v.K f).getD kn0).a, .int .i64 ((v.K f).getD kn0).b, .int .i64 ((v.K f).getD kn0).t]) w4) := H3.out.bd.map.look HW.out.1
  generalize (v.K f).getD kn0 = k at *
  have HLo := HL.out
  have hfl := fieldBr k.a k.b k.t
  by_cases hq : t < k.t
  · have HQ : Hid (oldB (v.K f) t = true) := by show oldB (v.K f) t = true; rw [HO.out]; exact decide_eq_true hq
    have HB : Hid (Below w.heap.size w w4) := H3.out.bel
    clear HL H3 HW HO
    go_wp2
    go_ret
    exact .inl ⟨HQ.out, rfl, HB.out⟩
  have HQ : Hid (oldB (v.K f) t = false) := by show oldB (v.K f) t = false; rw [HO.out]; exact decide_eq_false hq
  go_upto_region 7 with fail
  clear HL HLo HO c11 hfl
  have KA := at_ok w4 g m v n H3.out.bd HW.out.2.2.1 f t
  have HX : Hid (putT v f a b t = putK v f ⟨(narA (atA v f t) a b).a, (narA (atA v f t) a b).b, t⟩) := rfl
  have HNA : Hid (∀ X, X = atA v f t → X.e = 0 → narA X a b = nwA X a b) := fun X _ hX => nar_eq hX a b
  have HNB : Hid (∀ X, X = atA v f t → ¬ X.e = 0 → narA X a b = ⟨a, b, 0⟩) := fun X _ hX => if_neg hX
  generalize hXA : atA v f t = X at *
  have hna := HNA.out X rfl
  have hnb := HNB.out X rfl
  have KN : Hid (∀ W, Calls Try.prog 33 #[.agg #[.int .i64 a, .int .i64 b], .agg #[.int .i64 X.a, .int .i64 X.b]] W fun e w' => e = .returned (.agg #[.int .i64 (nwA X a b).a, .int .i64 (nwA X a b).b]) ∧ Below W.heap.size W w') := fun W => narrowed_ok W X a b
  clear HNA HNB hXA
  generalize nwA X a b = Y at *
  go_wp2_with fail
  refine KA.mono ?_
  rintro e w5 ⟨rfl, hb⟩
  clear KA
  have H5 : Hid (Pm w g m v n a b w5) := H3.out.step hb
  clear hb H3
  go_upto_region 8 with fail
  have H6 : Hid (Pm w g m v n a b (w5.alloc (.cells #[.int .i64 X.a, .int .i64 X.b] 39))) := H5.out.step (Go.Joins.below_alloc1 _ _)
  have HP6 : Hid (Pair (w5.alloc (.cells #[.int .i64 X.a, .int .i64 X.b] 39)) w5.heap.size X.a X.b) := Pair.new _ _ _
  generalize w5.alloc (.cells #[.int .i64 X.a, .int .i64 X.b] 39) = w6 at *
  generalize w5.heap.size = p at *
  clear H5 w5
  obtain ⟨x0, x1, x2, x3⟩ := H6.out.pr.facts
  obtain ⟨y0, y1, y2, y3⟩ := HP6.out.facts
  by_cases hz : X.e = 0
  · have HV : Hid (putT v f a b t = putK v f ⟨Y.a, Y.b, t⟩) := by
      have e1 := HX.out
      rw [hna hz] at e1
      exact e1
    clear HX hna hnb
    generalize X.e = z at *
    subst hz
    go_wp2_with fail
    refine (KN.out _).mono ?_
    rintro e w7 ⟨rfl, hb⟩
    have H7 : Hid (Pm w g m v n a b w7) := H6.out.step hb
    clear KN hb x0 x1 x2 x3 y0 y1 y2 y3 HP6 H6
    obtain ⟨x0, x1, x2, x3⟩ := H7.out.pr.facts
    go_upto_region 10 with fail
    obtain ⟨w8, hw8⟩ : ∃ W, W = (w7.setCell ⟨w.heap.size, 0, none⟩ (.int .i64 Y.a)).setCell ⟨w.heap.size, 1, none⟩ (.int .i64 Y.b) := ⟨_, rfl⟩
    have H8 : Hid (Pm w g m v n Y.a Y.b w8) := by rw [hw8]; exact H7.out.set HW.out.2.1 _ _
    rw [← hw8]
    clear hw8 H7 x0 x1 x2 x3
    generalize Y.a = A at *
    generalize Y.b = B at *
    obtain ⟨w9, hrun, hfin⟩ := H8.out.drew.fin HW.out.2.1 HW.out.2.2.2 HW.out.1 t
    rw [← HV.out] at hfin
    have HE : Hid ((Instr.mapUpdate 62 (.map (some m)) (.int .i64 f) (.agg #[.int .i64 A, .int .i64 B, .int .i64 t])).run Try.prog w8.drew = .ok () w9 ∧ (Bd w9 g m (putT v f a b t) (n + 1) ∧ Apart (fun k => k = m) w w9) ∧ w9.cell? ⟨g, 11, none⟩ = some (.map (some m)) ∧ w9.cell? ⟨w.heap.size, 0, none⟩ = some (.int .i64 A) ∧ w9.cell? ⟨w.heap.size, 1, none⟩ = some (.int .i64 B)) := ⟨hrun, hfin⟩
    have hS0 : w8.drew.cell? ⟨g, 11, none⟩ = some (.map (some m)) ∧ w8.drew.cell? ⟨w.heap.size, 0, none⟩ = some (.int .i64 A) ∧ w8.drew.cell? ⟨w.heap.size, 1, none⟩ = some (.int .i64 B) := ⟨H8.out.drew.bd.at'.known, H8.out.drew.pr.c0, H8.out.drew.pr.c1⟩
    clear hrun hfin H8 HV
    refine wp_region_noPanic ?_
    refine wp_region_held (S := fun V => V.cell? ⟨g, 11, none⟩ = some (.map (some m)) ∧ V.cell? ⟨w.heap.size, 0, none⟩ = some (.int .i64 A) ∧ V.cell? ⟨w.heap.size, 1, none⟩ = some (.int .i64 B)) (by kernel_rfl) ?_
    have hS := hS0
    refine any_take 0 ?vpan1 rfl (by kernel_rfl) (by kernel_rfl) (by kernel_rfl) (fun _ _ _ h => h) (by rfl) ?hpan1 hS ?_
    case hpan1 => (intro w hSw; (try dsimp only at hSw); go_split_ands; go_simp; (try with_reducible rfl))
    (try simp only [Act.put, List.setIfInBounds_toArray, List.set_cons_zero, List.set_cons_succ])
    refine any_take 1 ?vpan2 rfl (by kernel_rfl) (by kernel_rfl) (by kernel_rfl) (fun _ _ _ h => h) (by rfl) ?hpan2 hS ?_
    case hpan2 => (intro w hSw; (try dsimp only at hSw); go_split_ands; go_simp; (try with_reducible rfl))
    (try simp only [Act.put, List.setIfInBounds_toArray, List.set_cons_zero, List.set_cons_succ])
    refine any_take 2 ?vpan3 rfl (by kernel_rfl) (by kernel_rfl) (by kernel_rfl) (fun _ _ _ h => h) (by rfl) ?hpan3 hS ?_
    case hpan3 => (intro w hSw; (try dsimp only at hSw); go_split_ands; go_simp; (try with_reducible rfl))
    (try simp only [Act.put, List.setIfInBounds_toArray, List.set_cons_zero, List.set_cons_succ])
    refine any_take 3 ?vpan4 rfl (by kernel_rfl) (by kernel_rfl) (by kernel_rfl) (fun _ _ _ h => h) (by rfl) ?hpan4 hS ?_
    case hpan4 => (intro w hSw; (try dsimp only at hSw); go_split_ands; go_simp; (try with_reducible rfl))
    (try simp only [Act.put, List.setIfInBounds_toArray, List.set_cons_zero, List.set_cons_succ])
    refine any_take 4 ?vpan5 rfl (by kernel_rfl) (by kernel_rfl) (by kernel_rfl) (fun _ _ _ h => h) (by rfl) ?hpan5 hS ?_
    case hpan5 => (intro w hSw; (try dsimp only at hSw); go_split_ands; go_simp; (try with_reducible rfl))
    (try simp only [Act.put, List.setIfInBounds_toArray, List.set_cons_zero, List.set_cons_succ])
    refine any_take 5 ?vpan6 rfl (by kernel_rfl) (by kernel_rfl) (by kernel_rfl) (fun _ _ _ h => h) (by rfl) ?hpan6 hS ?_
    case hpan6 => (intro w hSw; (try dsimp only at hSw); go_split_ands; go_simp; (try with_reducible rfl))
    (try simp only [Act.put, List.setIfInBounds_toArray, List.set_cons_zero, List.set_cons_succ])
    refine any_take 6 ?vpan7 rfl (by kernel_rfl) (by kernel_rfl) (by kernel_rfl) (fun _ _ _ h => h) (by rfl) ?hpan7 hS ?_
    case hpan7 => (intro w hSw; (try dsimp only at hSw); go_split_ands; go_simp; (try with_reducible rfl))
    (try simp only [Act.put, List.setIfInBounds_toArray, List.set_cons_zero, List.set_cons_succ])
    refine any_take 7 (Value.agg #[.int .i64 A, .int .i64 B, .int .i64 t]) rfl (by kernel_rfl) (by kernel_rfl) (by kernel_rfl) (fun _ _ _ h => h) (by rfl) (fun U _ => exec_build 74 _ rfl [(0, .agg #[.int .i64 A, .int .i64 B]), (1, .int .i64 t)] _ rfl (buildBr A B t U)) hS ?_
    (try simp only [Act.put, List.setIfInBounds_toArray, List.set_cons_zero, List.set_cons_succ])
    refine any_one 8 rfl (by kernel_rfl) (by rfl) (fun K hK => ?_)
    clear hS
    refine op_mapUpdate_run 62 _ _ _ rfl _ _ _ rfl rfl rfl HE.out.1 ?_
    refine hK.out _ _ (HE.out.2.2) (fun hS => ?_)
    clear hK
    (try simp only [Act.put])
    refine wpAnyH_done (by kernel_rfl) ?_ _
    refine NoPanic.normal ?_
    clear hS hS0
    go_wp2
    go_ret
    exact .inr ⟨HQ.out, rfl, HE.out.2.1⟩
  · have HV : Hid (putT v f a b t = putK v f ⟨a, b, t⟩) := by
      have e1 := HX.out
      rw [hnb hz] at e1
      exact e1
    clear HX hna hnb KN
    generalize X.e = z at *
    go_upto_region 10 with fail
    clear HP6 x0 x1 x2 x3 y0 y1 y2 y3
    have H8 : Hid (Pm w g m v n a b w6) := H6.out
    clear H6
    obtain ⟨w9, hrun, hfin⟩ := H8.out.drew.fin HW.out.2.1 HW.out.2.2.2 HW.out.1 t
    rw [← HV.out] at hfin
    have HE : Hid ((Instr.mapUpdate 62 (.map (some m)) (.int .i64 f) (.agg #[.int .i64 a, .int .i64 b, .int .i64 t])).run Try.prog w6.drew = .ok () w9 ∧ (Bd w9 g m (putT v f a b t) (n + 1) ∧ Apart (fun k => k = m) w w9) ∧ w9.cell? ⟨g, 11, none⟩ = some (.map (some m)) ∧ w9.cell? ⟨w.heap.size, 0, none⟩ = some (.int .i64 a) ∧ w9.cell? ⟨w.heap.size, 1, none⟩ = some (.int .i64 b)) := ⟨hrun, hfin⟩
    have hS0 : w6.drew.cell? ⟨g, 11, none⟩ = some (.map (some m)) ∧ w6.drew.cell? ⟨w.heap.size, 0, none⟩ = some (.int .i64 a) ∧ w6.drew.cell? ⟨w.heap.size, 1, none⟩ = some (.int .i64 b) := ⟨H8.out.drew.bd.at'.known, H8.out.drew.pr.c0, H8.out.drew.pr.c1⟩
    clear hrun hfin H8 HV
    refine wp_region_noPanic ?_
    refine wp_region_held (S := fun V => V.cell? ⟨g, 11, none⟩ = some (.map (some m)) ∧ V.cell? ⟨w.heap.size, 0, none⟩ = some (.int .i64 a) ∧ V.cell? ⟨w.heap.size, 1, none⟩ = some (.int .i64 b)) (by kernel_rfl) ?_
    have hS := hS0
    refine any_take 0 ?vpbn1 rfl (by kernel_rfl) (by kernel_rfl) (by kernel_rfl) (fun _ _ _ h => h) (by rfl) ?hpbn1 hS ?_
    case hpbn1 => (intro w hSw; (try dsimp only at hSw); go_split_ands; go_simp; (try with_reducible rfl))
    (try simp only [Act.put, List.setIfInBounds_toArray, List.set_cons_zero, List.set_cons_succ])
    refine any_take 1 ?vpbn2 rfl (by kernel_rfl) (by kernel_rfl) (by kernel_rfl) (fun _ _ _ h => h) (by rfl) ?hpbn2 hS ?_
    case hpbn2 => (intro w hSw; (try dsimp only at hSw); go_split_ands; go_simp; (try with_reducible rfl))
    (try simp only [Act.put, List.setIfInBounds_toArray, List.set_cons_zero, List.set_cons_succ])
    refine any_take 2 ?vpbn3 rfl (by kernel_rfl) (by kernel_rfl) (by kernel_rfl) (fun _ _ _ h => h) (by rfl) ?hpbn3 hS ?_
    case hpbn3 => (intro w hSw; (try dsimp only at hSw); go_split_ands; go_simp; (try with_reducible rfl))
    (try simp only [Act.put, List.setIfInBounds_toArray, List.set_cons_zero, List.set_cons_succ])
    refine any_take 3 ?vpbn4 rfl (by kernel_rfl) (by kernel_rfl) (by kernel_rfl) (fun _ _ _ h => h) (by rfl) ?hpbn4 hS ?_
    case hpbn4 => (intro w hSw; (try dsimp only at hSw); go_split_ands; go_simp; (try with_reducible rfl))
    (try simp only [Act.put, List.setIfInBounds_toArray, List.set_cons_zero, List.set_cons_succ])
    refine any_take 4 ?vpbn5 rfl (by kernel_rfl) (by kernel_rfl) (by kernel_rfl) (fun _ _ _ h => h) (by rfl) ?hpbn5 hS ?_
    case hpbn5 => (intro w hSw; (try dsimp only at hSw); go_split_ands; go_simp; (try with_reducible rfl))
    (try simp only [Act.put, List.setIfInBounds_toArray, List.set_cons_zero, List.set_cons_succ])
    refine any_take 5 ?vpbn6 rfl (by kernel_rfl) (by kernel_rfl) (by kernel_rfl) (fun _ _ _ h => h) (by rfl) ?hpbn6 hS ?_
    case hpbn6 => (intro w hSw; (try dsimp only at hSw); go_split_ands; go_simp; (try with_reducible rfl))
    (try simp only [Act.put, List.setIfInBounds_toArray, List.set_cons_zero, List.set_cons_succ])
    refine any_take 6 ?vpbn7 rfl (by kernel_rfl) (by kernel_rfl) (by kernel_rfl) (fun _ _ _ h => h) (by rfl) ?hpbn7 hS ?_
    case hpbn7 => (intro w hSw; (try dsimp only at hSw); go_split_ands; go_simp; (try with_reducible rfl))
    (try simp only [Act.put, List.setIfInBounds_toArray, List.set_cons_zero, List.set_cons_succ])
    refine any_take 7 (Value.agg #[.int .i64 a, .int .i64 b, .int .i64 t]) rfl (by kernel_rfl) (by kernel_rfl) (by kernel_rfl) (fun _ _ _ h => h) (by rfl) (fun U _ => exec_build 74 _ rfl [(0, .agg #[.int .i64 a, .int .i64 b]), (1, .int .i64 t)] _ rfl (buildBr a b t U)) hS ?_
    (try simp only [Act.put, List.setIfInBounds_toArray, List.set_cons_zero, List.set_cons_succ])
    refine any_one 8 rfl (by kernel_rfl) (by rfl) (fun K hK => ?_)
    clear hS
    refine op_mapUpdate_run 62 _ _ _ rfl _ _ _ rfl rfl rfl HE.out.1 ?_
    refine hK.out _ _ (HE.out.2.2) (fun hS => ?_)
    clear hK
    (try simp only [Act.put])
    refine wpAnyH_done (by kernel_rfl) ?_ _
    refine NoPanic.normal ?_
    clear hS hS0
    go_wp2
    go_ret
    exact .inr ⟨HQ.out, rfl, HE.out.2.1⟩

/-- Put, whatever is put. -/
theorem put_ok (w : World) (g m : Nat) (v : Bt) (n : Nat) (h : Bd w g m v n) (ok : v.ok) (hn : n ≤ 999) (f a b t : Int) :
    Calls Try.prog 12 #[.pointer (some ⟨g, 0, none⟩), .int .i64 f, .agg #[.int .i64 a, .int .i64 b], .int .i64 t] w fun e w' => e = .returned (.int .i64 (putE v f a b t)) ∧ Bd w' g m (putV v f a b t) (n + 1) ∧ Apart (fun k => k = m) w w' := by
  have hkeep : ∀ w', Below w.heap.size w w' → Bd w' g m v (n + 1) ∧ Apart (fun k => k = m) w w' := fun w' hb => by
    obtain ⟨D, h1, h2⟩ := (h.below hb).map
    exact ⟨⟨(h.below hb).at', D, h1.mono (Nat.le_succ n), h2⟩, Apart.of_below hb⟩
  by_cases hb : otherB v f = true ∧ rightB a b = true ∧ timeB t = true
  · refine (put_may w g m v n h ok hn f a b t hb.1 hb.2.1 hb.2.2).mono ?_
    rintro e w' (⟨h1, h2, h3⟩ | ⟨h1, h2, h3⟩)
    · have he : putE v f a b t = 10 := by rw [putE, if_pos hb, if_pos h1]
      rw [putV, he, if_neg (by decide)]
      exact ⟨h2, hkeep w' h3⟩
    · have he : putE v f a b t = 0 := by rw [putE, if_pos hb, if_neg (by rw [h1]; simp)]
      rw [putV, he, if_pos rfl]
      exact ⟨h2, h3⟩
  · have he : putE v f a b t = 1 := by rw [putE, if_neg hb]
    refine (put_bad w g m v n h f a b t he).mono ?_
    rintro e w' ⟨h2, h3⟩
    rw [putV, he, if_neg (by decide)]
    exact ⟨h2, hkeep w' h3⟩
end Go.Proofs.Ytoibndfiolipbaa
