/-
  The contract of At, the program's.
-/
import Derived.Test.YtoibndfiolipbaaBrgB
namespace Go.Proofs.Ytoibndfiolipbaa
open Go.ChangeShapes Go.WideShapes Go.ChangeAt Go.RowKit

/-- What is known, in a block of its own. -/
def KnAt (w : World) (b : Nat) (k : Kw) : Prop := w.heap[b]? = some (.cells #[.int .i64 k.a, .int .i64 k.b, .int .i64 k.t] 74 (0, 0))
theorem KnAt.facts {w : World} {b : Nat} {k : Kw} (h : KnAt w b k) : w.cell? ⟨b, 0, none⟩ = some (.int .i64 k.a) ∧ w.cell? ⟨b, 1, none⟩ = some (.int .i64 k.b) ∧ w.cell? ⟨b, 2, none⟩ = some (.int .i64 k.t) := by
  unfold KnAt at h
  exact ⟨by simp [World.cell?, h], by simp [World.cell?, h], by simp [World.cell?, h]⟩
theorem KnAt.lt {w : World} {b : Nat} {k : Kw} (h : KnAt w b k) : b < w.heap.size := (Array.getElem?_eq_some_iff.1 h).1
theorem KnAt.below {w w' : World} {b : Nat} {k : Kw} (h : KnAt w b k) (hb : Below w.heap.size w w') : KnAt w' b k := (hb.block b h.lt).trans h
theorem KnAt.new (w : World) (k : Kw) : KnAt (w.alloc (.cells #[.int .i64 k.a, .int .i64 k.b, .int .i64 k.t] 74)) w.heap.size k := heap_alloc_new _ _

/-- At, under way: the table, and room for the answer. -/
structure Am (w : World) (g m : Nat) (v : Bt) (n : Nat) (W : World) : Prop where
  bd : Bd W g m v n
  pr : Pair W w.heap.size 0 0
  bel : Below w.heap.size w W
theorem Am.new {w : World} {g m : Nat} {v : Bt} {n : Nat} (h : Bd w g m v n) : Am w g m v n (w.alloc (.cells #[.int .i64 0, .int .i64 0] 39)) := ⟨h.alloc _, Pair.new _ _ _, Go.Joins.below_alloc1 _ _⟩
theorem Am.step {w W V : World} {g m : Nat} {v : Bt} {n : Nat} (h : Am w g m v n W) (hb : Below W.heap.size W V) : Am w g m v n V := ⟨h.bd.below hb, h.pr.below hb, h.bel.trans (hb.mono h.bel.size)⟩
theorem Am.drew {w W : World} {g m : Nat} {v : Bt} {n : Nat} (h : Am w g m v n W) : Am w g m v n W.drew := ⟨h.bd.drew, h.pr, h.bel.drew⟩
/-- What the last regions need: the answer is written. -/
theorem Am.fin {w W : World} {g m : Nat} {v : Bt} {n : Nat} (h : Am w g m v n W) : (W.cell? ⟨w.heap.size, 0, none⟩ = some (.int .i64 0) ∧ W.cell? ⟨w.heap.size, 1, none⟩ = some (.int .i64 0) ∧ W.frozen? ⟨w.heap.size, 0, none⟩ = false ∧ W.frozen? ⟨w.heap.size, 1, none⟩ = false) ∧
    ∀ x y, Pair ((W.setCell ⟨w.heap.size, 0, none⟩ (.int .i64 x)).setCell ⟨w.heap.size, 1, none⟩ (.int .i64 y)) w.heap.size x y ∧ Below w.heap.size w ((W.setCell ⟨w.heap.size, 0, none⟩ (.int .i64 x)).setCell ⟨w.heap.size, 1, none⟩ (.int .i64 y)) :=
  ⟨h.pr.facts, fun x y => ⟨h.pr.set x y, below_pair h.bel (Nat.le_refl _) _ _⟩⟩

set_option maxHeartbeats 1600000 in
set_option maxRecDepth 20000 in
theorem at_bad (w : World) (g m : Nat) (v : Bt) (n : Nat) (h : Bd w g m v n) (f t : Int) (hf : mayF v f t = false) :
    Calls Try.prog 14 #[.pointer (some ⟨g, 0, none⟩), .int .i64 f, .int .i64 t] w fun e w' => e = .returned (.tuple #[.agg #[.int .i64 0, .int .i64 0], .int .i64 1]) ∧ Below w.heap.size w w' := by
  have HA : Hid (Am w g m v n (w.alloc (.cells #[.int .i64 0, .int .i64 0] 39))) := Am.new h
  have KM := made_ok _ g m HA.out.bd.at'.known
  have KO := other_ok _ g m v f HA.out.bd.at'
  have KT := fun W => time_ok W t
  obtain ⟨⟨x0, x1, x2, x3⟩, hfin⟩ := HA.out.fin
  have HF : Hid (∀ x y, Pair (((w.alloc (.cells #[.int .i64 0, .int .i64 0] 39)).setCell ⟨w.heap.size, 0, none⟩ (.int .i64 x)).setCell ⟨w.heap.size, 1, none⟩ (.int .i64 y)) w.heap.size x y ∧ Below w.heap.size w (((w.alloc (.cells #[.int .i64 0, .int .i64 0] 39)).setCell ⟨w.heap.size, 0, none⟩ (.int .i64 x)).setCell ⟨w.heap.size, 1, none⟩ (.int .i64 y))) := hfin
  clear hfin h
  cases ho : otherB v f
  · rw [ho] at KO
    clear hf ho KT HA
    go_enter Try.func14, Try.ntmps14
    go_wp2_with fail
    generalize w.alloc (.cells #[.int .i64 0, .int .i64 0] 39) = W at *
    refine KM.mono ?_
    rintro e w1 ⟨rfl, rfl⟩
    clear KM
    go_wp2_with fail
    refine KO.mono ?_
    rintro e w2 ⟨rfl, rfl⟩
    clear KO
    go_wp2
    refine bodyPost_ret (res_pair_tmp rfl rfl (HF.out 0 0).1) rfl ?_
    exact ⟨rfl, (HF.out 0 0).2⟩
  · rw [ho] at KO
    have ht : timeB t = false := by simpa [mayF, ho] using hf
    rw [ht] at KT
    have KT' : Hid (∀ W, Calls Try.prog 32 #[.int .i64 t] W fun e w' => e = .returned (.bool false) ∧ w' = W) := KT
    clear hf ho ht HA KT
    go_enter Try.func14, Try.ntmps14
    go_wp2_with fail
    generalize w.alloc (.cells #[.int .i64 0, .int .i64 0] 39) = W at *
    refine KM.mono ?_
    rintro e w1 ⟨rfl, rfl⟩
    clear KM
    go_wp2_with fail
    refine KO.mono ?_
    rintro e w2 ⟨rfl, rfl⟩
    clear KO
    go_wp2_with fail
    refine (KT'.out _).mono ?_
    rintro e w3 ⟨rfl, rfl⟩
    clear KT'
    go_wp2
    refine bodyPost_ret (res_pair_tmp rfl rfl (HF.out 0 0).1) rfl ?_
    exact ⟨rfl, (HF.out 0 0).2⟩
theorem at_no (w : World) (p : Value) (h : NoB w p) (f t : Int) :
    Calls Try.prog 14 #[p, .int .i64 f, .int .i64 t] w fun e w' => e = .returned (.tuple #[.agg #[.int .i64 0, .int .i64 0], .int .i64 7]) ∧ Below w.heap.size w w' := by
  have KM := made_no _ p (h.below (Go.Joins.below_alloc1 w (.cells #[.int .i64 0, .int .i64 0] 39)))
  have hp := Pair.new w 0 0
  obtain ⟨x0, x1, x2, x3⟩ := hp.facts
  have HP : Hid (Pair (w.alloc (.cells #[.int .i64 0, .int .i64 0] 39)) w.heap.size 0 0 ∧ Below w.heap.size w (w.alloc (.cells #[.int .i64 0, .int .i64 0] 39))) := ⟨hp, Go.Joins.below_alloc1 _ _⟩
  clear h hp
  go_enter Try.func14, Try.ntmps14
  go_wp2_with fail
  generalize w.alloc (.cells #[.int .i64 0, .int .i64 0] 39) = W at *
  refine KM.mono ?_
  rintro e w1 ⟨rfl, rfl⟩
  clear KM
  go_wp2
  refine bodyPost_ret (res_pair_tmp rfl rfl (HP.out.1.set 0 0)) rfl ?_
  exact ⟨rfl, below_pair HP.out.2 (Nat.le_refl _) _ _⟩

/-- A region of At that draws. -/
def Ah (w : World) (g m : Nat) (v : Bt) (n b : Nat) (k : Kw) (W : World) : Prop :=
  (W.cell? ⟨b, 0, none⟩ = some (.int .i64 k.a) ∧ W.cell? ⟨b, 1, none⟩ = some (.int .i64 k.b) ∧ W.cell? ⟨g, 7, none⟩ = some (.int .i64 v.c.r) ∧ W.cell? ⟨g, 8, none⟩ = some (.int .i64 v.c.l)) ∧ Am w g m v n W ∧ KnAt W b k
theorem Ah.mk' {w W : World} {g m : Nat} {v : Bt} {n b : Nat} {k : Kw} (h : Am w g m v n W) (hk : KnAt W b k) : Ah w g m v n b k W := by
  obtain ⟨_, _, _, _, _, _, _, c7, c8, _⟩ := h.bd.at'.cfg
  exact ⟨⟨hk.facts.1, hk.facts.2.1, c7, c8⟩, h, hk⟩
theorem Ah.drew {w W : World} {g m : Nat} {v : Bt} {n b : Nat} {k : Kw} (h : Ah w g m v n b k W) : Ah w g m v n b k W.drew := Ah.mk' h.2.1.drew h.2.2
theorem Ah.step {w W V : World} {g m : Nat} {v : Bt} {n b : Nat} {k : Kw} (h : Ah w g m v n b k W) (hb : Below W.heap.size W V) : Ah w g m v n b k V := Ah.mk' (h.2.1.step hb) (h.2.2.below hb)

theorem Pair.stores {w : World} {g : Nat} {a b : Int} (h : Pair w g a b) (x y : Int) : (Instr.storeAt 39 (.pointer (some ⟨g, 0, none⟩)) (.agg #[.int .i64 x, .int .i64 y])).run Try.prog w = .ok () (w.setRow g #[.int .i64 x, .int .i64 y]) :=
  storeAt_row w g 39 39 _ _ h (by kernel_rfl) rfl (by simp [Value.oneCell'])
theorem Pair.stored {w : World} {g : Nat} {a b : Int} (h : Pair w g a b) (x y : Int) : Pair (w.setRow g #[.int .i64 x, .int .i64 y]) g x y := setRow_heap _ _ _ _ 39 _ h
/-- What lay there ahead of block p stays where p is stored. -/
theorem Ah.store {w V : World} {g m : Nat} {v : Bt} {n b p : Nat} {k : Kw} (h : Ah w g m v n b k V) (hN : ∃ W0, Ah w g m v n b k W0 ∧ W0.heap.size ≤ p) (cs : Array Value) : Ah w g m v n b k (V.setRow p cs) := by
  obtain ⟨W0, h0, hp⟩ := hN
  have l1 := h0.2.1.bd.at'.lt
  have l2 := h0.2.1.bd.map.lt
  have l3 := h0.2.1.pr.lt
  have l4 := h0.2.2.lt
  refine Ah.mk' ⟨h.2.1.bd.keep fun q hq => ?_, ?_, below_setRow h.2.1.bel (by omega) _⟩ ?_
  · rw [setRow_other _ _ _ _ (by rcases hq with rfl | rfl <;> omega)]
  · show (V.setRow p cs).heap[w.heap.size]? = _
    rw [setRow_other _ _ _ _ (by omega)]; exact h.2.1.pr
  · show (V.setRow p cs).heap[b]? = _
    rw [setRow_other _ _ _ _ (by omega)]; exact h.2.2

theorem op_store_run {P : Program} {o : Oper} {a : Act} {w w' : World} {K : Act → World → Prop} {Q : Exit → Act → World → Prop} (ty : TypeId) (x y : Operand) (ho : o.op = .store ty x y) (v u : Value) (hx : a.eval x = v) (hy : a.eval y = u) (hrun : (Instr.storeAt ty v u).run P w = .ok () w') (h : K (a.put o.dst undef) w') : Oper.wp P o a w K Q := by
  unfold Oper.wp execOp
  simp only [ho, hx, hy, Sem.run_bind, hrun, Result.andThen_ok, Sem.run_pure]
  exact h

theorem free_none (c : Cf) (t : Int) : knoA c none t = noA 6 := rfl

set_option maxHeartbeats 3200000 in
set_option maxRecDepth 20000 in
theorem at_may (w : World) (g m : Nat) (v : Bt) (n : Nat) (h : Bd w g m v n) (ok : v.ok) (f t : Int) (hf : mayF v f t = true) :
    Calls Try.prog 14 #[.pointer (some ⟨g, 0, none⟩), .int .i64 f, .int .i64 t] w fun e w' => e = .returned (anV (knoA v.c (v.K f) t)) ∧ Below w.heap.size w w' := by
  have HA : Hid (Am w g m v n (w.alloc (.cells #[.int .i64 0, .int .i64 0] 39))) := Am.new h
  have KM := made_ok _ g m HA.out.bd.at'.known
  have KO := other_ok _ g m v f HA.out.bd.at'
  have KT := time_ok (w.alloc (.cells #[.int .i64 0, .int .i64 0] 39)) t
  obtain ⟨ho, ht⟩ := mayF_in hf
  rw [ho] at KO
  rw [ht] at KT
  have c11 := HA.out.bd.at'.known
  have h1 := other_in ho
  have h2 := time_in ht
  have hn8 := (right_of ok.r).n1
  have HL := HA.out.bd.map.look_ok (inI_wf (x := f) (by omega) (by omega))
  have hk : rightB ((v.K f).getD kn0).a ((v.K f).getD kn0).b = true ∧ 0 ≤ ((v.K f).getD kn0).t ∧ ((v.K f).getD kn0).t ≤ 1099511627776 := by
    cases he : v.K f with
    | none => exact ⟨by decide, by decide, by decide⟩
    | some k => exact ok.k f k he
  have he : (v.K f).isSome = false → knoA v.c (v.K f) t = noA 6 := by
    intro h; cases he : v.K f with
    | none => rfl
    | some k => rw [he] at h; cases h
  have he2 : (v.K f).isSome = true → knoA v.c (v.K f) t = freA v.c ((v.K f).getD kn0) t := by
    intro h; cases he : v.K f with
    | none => rw [he] at h; cases h
    | some k => rfl
  generalize (v.K f).getD kn0 = k at *
  generalize knoA v.c (v.K f) t = ans at *
  generalize (v.K f).isSome = fd at *
  obtain ⟨G, hG⟩ : ∃ G, G = t - k.t := ⟨_, rfl⟩
  have e1 : IntKind.i64.wrap (t - k.t) = G := by rw [hG]; exact wrap_in (by omega) (by omega)
  have HL' : Hid ((Instr.lookup 62 (.map (some m)) (.int .i64 f) true).run Try.prog (w.alloc (.cells #[.int .i64 0, .int .i64 0] 39)) = .ok (.tuple #[.agg #[.int .i64 k.a, .int .i64 k.b, .int .i64 k.t], .bool fd]) (w.alloc (.cells #[.int .i64 0, .int .i64 0] 39))) := HL
  have HK : Hid (KnAt ((w.alloc (.cells #[.int .i64 0, .int .i64 0] 39)).alloc (.cells #[.int .i64 k.a, .int .i64 k.b, .int .i64 k.t] 74)) (w.alloc (.cells #[.int .i64 0, .int .i64 0] 39)).heap.size k ∧ Am w g m v n ((w.alloc (.cells #[.int .i64 0, .int .i64 0] 39)).alloc (.cells #[.int .i64 k.a, .int .i64 k.b, .int .i64 k.t] 74))) := ⟨KnAt.new _ k, HA.out.step (Go.Joins.below_alloc1 _ _)⟩
  have HX : Hid (rightB k.a k.b = true ∧ 0 ≤ k.t ∧ k.t ≤ 1099511627776) := hk
  have HN : Hid (fd = false → ans = noA 6) := he
  have HN2 : Hid (fd = true → ans = freA v.c k t) := he2
  have HG : Hid (G = t - k.t) := hG
  have HT2 : Hid (0 ≤ t ∧ t ≤ 1099511627776) := h2
  clear HL hk he he2 hG h1 h2 hn8 hf ho ht h HA
  go_enter Try.func14, Try.ntmps14
  go_wp2_with fail
  obtain ⟨W0, hW0⟩ : ∃ W, W = w.alloc (.cells #[.int .i64 0, .int .i64 0] 39) := ⟨_, rfl⟩
  rw [← hW0] at KM KO KT c11 HL' HK ⊢
  clear hW0
  refine KM.mono ?_
  rintro e w1 ⟨rfl, rfl⟩
  clear KM
  go_wp2_with fail
  refine KO.mono ?_
  rintro e w2 ⟨rfl, rfl⟩
  clear KO
  go_wp2_with fail
  refine KT.mono ?_
  rintro e w3 ⟨rfl, rfl⟩
  clear KT
  have HLo := HL'.out
  go_upto_region 6 with fail
  obtain ⟨W, hW⟩ : ∃ W, W = w3.alloc (.cells #[.int .i64 k.a, .int .i64 k.b, .int .i64 k.t] 74) := ⟨_, rfl⟩
  generalize hb : w3.heap.size = b at *
  rw [← hW] at HK ⊢
  clear hW hb HLo HL' c11
  obtain ⟨k0, k1, k2⟩ := HK.out.1.facts
  obtain ⟨⟨x0, x1, x2, x3⟩, hfin⟩ := HK.out.2.fin
  obtain ⟨c0, c1, c2, c3, c4, c5, c6, c7, c8, c9⟩ := HK.out.2.bd.at'.cfg
  have HF : Hid (∀ x y, Pair ((W.setCell ⟨w.heap.size, 0, none⟩ (.int .i64 x)).setCell ⟨w.heap.size, 1, none⟩ (.int .i64 y)) w.heap.size x y ∧ Below w.heap.size w ((W.setCell ⟨w.heap.size, 0, none⟩ (.int .i64 x)).setCell ⟨w.heap.size, 1, none⟩ (.int .i64 y))) := hfin
  clear hfin
  cases fd
  case false =>
    have HV : Hid (ans = noA 6) := HN.out rfl
    clear HN HN2 HX HG HT2 c0 c1 c2 c3 c4 c5 c6 c7 c8 c9
    go_wp2
    refine bodyPost_ret (res_pair_tmp rfl rfl (HF.out 0 0).1) rfl ?_
    exact ⟨by rw [HV.out]; rfl, (HF.out 0 0).2⟩
  have HV2 : Hid (ans = freA v.c k t) := HN2.out rfl
  clear HN HN2
  by_cases hg0 : G < 0
  · have HV : Hid (ans = noA 6) := by show ans = noA 6; rw [HV2.out, freA, if_pos (by left; rw [← HG.out]; exact hg0)]
    clear HV2 HX HG HT2 c0 c1 c2 c3 c4 c5 c6 c7 c8 c9
    go_wp2
    refine bodyPost_ret (res_pair_tmp rfl rfl (HF.out 0 0).1) rfl ?_
    exact ⟨by rw [HV.out]; rfl, (HF.out 0 0).2⟩
  have KK := keep_ok W v.c
  have HR : Hid (0 ≤ 2 * rndN v.c) := by show 0 ≤ 2 * rndN v.c; have := (rnd_le v.c).1; omega
  have HQ : Hid (2 * rndN v.c = 2 * rndN v.c) := rfl
  by_cases hg1 : 2 * rndN v.c < G
  · have HV : Hid (ans = noA 6) := by show ans = noA 6; rw [HV2.out, freA, if_pos (by right; rw [← HG.out]; exact hg1)]
    clear HV2
    generalize 2 * rndN v.c = Q at *
    clear HX HG HT2 HF HR HQ
    go_wp2_with fail
    refine KK.mono ?_
    rintro e w3 ⟨rfl, hb⟩
    have H3 := HK.out.2.step hb
    obtain ⟨⟨x0, x1, x2, x3⟩, hfin⟩ := H3.fin
    have HF : Hid (∀ x y, Pair ((w3.setCell ⟨w.heap.size, 0, none⟩ (.int .i64 x)).setCell ⟨w.heap.size, 1, none⟩ (.int .i64 y)) w.heap.size x y ∧ Below w.heap.size w ((w3.setCell ⟨w.heap.size, 0, none⟩ (.int .i64 x)).setCell ⟨w.heap.size, 1, none⟩ (.int .i64 y))) := hfin
    clear hfin H3 hb KK c0 c1 c2 c3 c4 c5 c6 c7 c8 c9
    go_wp2
    refine bodyPost_ret (res_pair_tmp rfl rfl (HF.out 0 0).1) rfl ?_
    exact ⟨by rw [HV.out]; rfl, (HF.out 0 0).2⟩
  have HV3 := HV2.out
  rw [freA, if_neg (by rw [← HG.out]; omega), ← HG.out] at HV3
  have hr := (right_of ok.r)
  obtain ⟨D, hD⟩ : ∃ D, D = v.c.r + v.c.l := ⟨_, rfl⟩
  have e2 : IntKind.i64.wrap (v.c.r + v.c.l) = D := by
    have h1 := hr.r0; have h2 := hr.r1; have h3 := hr.l0; have h4 := hr.l1
    rw [hD]; exact wrap_in (by omega) (by omega)
  rw [← hD] at HV3
  have K1 : Hid (∀ W, Calls Try.prog 38 #[.agg #[.int .i64 k.a, .int .i64 k.b], .int .i64 G, .int .i64 D] W fun e w' => e = .returned (.tuple #[.agg #[.int .i64 (grwA k.a k.b G D).a, .int .i64 (grwA k.a k.b G D).b], .int .i64 (grwA k.a k.b G D).e]) ∧ Below W.heap.size W w') := fun W => by
    have := grow_ok W k.a k.b G D
    rw [grw_eq] at this
    exact this
  generalize grwA k.a k.b G D = X at *
  obtain ⟨x, y, z⟩ := X
  dsimp only at HV3 K1
  generalize 2 * rndN v.c = Q at *
  clear HX HG HT2 HF HR HQ hD hr HV2
  go_upto_region 9 with fail
  refine KK.mono ?_
  rintro e w4 ⟨rfl, hb⟩
  have H4 : Hid (Ah w g m v n b k w4) := Ah.mk' (HK.out.2.step hb) (HK.out.1.below hb)
  clear hb KK c0 c1 c2 c3 c4 c5 c6 c7 c8 c9 x0 x1 x2 x3 k0 k1 k2 HK
  go_upto_region 9 with fail
  by_cases hz : z = 0
  · subst hz
    have HV : Hid (ans = ⟨x, y, 0⟩) := by show ans = _; rw [HV3, if_pos rfl]
    clear HV3
    refine wp_region_noPanic ?_
    refine wp_region_held (S := fun V => (V.cell? ⟨b, 0, none⟩ = some (.int .i64 k.a) ∧ V.cell? ⟨b, 1, none⟩ = some (.int .i64 k.b) ∧ V.cell? ⟨g, 7, none⟩ = some (.int .i64 v.c.r) ∧ V.cell? ⟨g, 8, none⟩ = some (.int .i64 v.c.l)) ∧ Am w g m v n V ∧ KnAt V b k) (by kernel_rfl) ?_
    have hS := (H4.out.drew : Ah w g m v n b k w4.drew)
    refine any_take 0 ?vran1 rfl (by kernel_rfl) (by kernel_rfl) (by kernel_rfl) (fun _ _ _ h => h) (by rfl) ?hran1 hS ?_
    case hran1 => (intro w hSw; (try dsimp only at hSw); go_split_ands; go_simp; (try with_reducible rfl))
    (try simp only [Act.put, List.setIfInBounds_toArray, List.set_cons_zero, List.set_cons_succ])
    refine any_take 1 ?vran2 rfl (by kernel_rfl) (by kernel_rfl) (by kernel_rfl) (fun _ _ _ h => h) (by rfl) ?hran2 hS ?_
    case hran2 => (intro w hSw; (try dsimp only at hSw); go_split_ands; go_simp; (try with_reducible rfl))
    (try simp only [Act.put, List.setIfInBounds_toArray, List.set_cons_zero, List.set_cons_succ])
    refine any_take 2 ?vran3 rfl (by kernel_rfl) (by kernel_rfl) (by kernel_rfl) (fun _ _ _ h => h) (by rfl) ?hran3 hS ?_
    case hran3 => (intro w hSw; (try dsimp only at hSw); go_split_ands; go_simp; (try with_reducible rfl))
    (try simp only [Act.put, List.setIfInBounds_toArray, List.set_cons_zero, List.set_cons_succ])
    refine any_take 3 ?vran4 rfl (by kernel_rfl) (by kernel_rfl) (by kernel_rfl) (fun _ _ _ h => h) (by rfl) ?hran4 hS ?_
    case hran4 => (intro w hSw; (try dsimp only at hSw); go_split_ands; go_simp; (try with_reducible rfl))
    (try simp only [Act.put, List.setIfInBounds_toArray, List.set_cons_zero, List.set_cons_succ])
    refine any_take 4 ?vran5 rfl (by kernel_rfl) (by kernel_rfl) (by kernel_rfl) (fun _ _ _ h => h) (by rfl) ?hran5 hS ?_
    case hran5 => (intro w hSw; (try dsimp only at hSw); go_split_ands; go_simp; (try with_reducible rfl))
    (try simp only [Act.put, List.setIfInBounds_toArray, List.set_cons_zero, List.set_cons_succ])
    refine any_take 5 ?vran6 rfl (by kernel_rfl) (by kernel_rfl) (by kernel_rfl) (fun _ _ _ h => h) (by rfl) ?hran6 hS ?_
    case hran6 => (intro w hSw; (try dsimp only at hSw); go_split_ands; go_simp; (try with_reducible rfl))
    (try simp only [Act.put, List.setIfInBounds_toArray, List.set_cons_zero, List.set_cons_succ])
    refine any_take 6 ?vran7 rfl (by kernel_rfl) (by kernel_rfl) (by kernel_rfl) (fun _ _ _ h => h) (by rfl) ?hran7 hS ?_
    case hran7 => (intro w hSw; (try dsimp only at hSw); go_split_ands; go_simp; (try with_reducible rfl))
    (try simp only [Act.put, List.setIfInBounds_toArray, List.set_cons_zero, List.set_cons_succ])
    refine any_take 7 ?vran8 rfl (by kernel_rfl) (by kernel_rfl) (by kernel_rfl) (fun _ _ _ h => h) (by rfl) ?hran8 hS ?_
    case hran8 => (intro w hSw; (try dsimp only at hSw); go_split_ands; go_simp; (try with_reducible rfl))
    (try simp only [Act.put, List.setIfInBounds_toArray, List.set_cons_zero, List.set_cons_succ])
    refine any_take 8 ?vran9 rfl (by kernel_rfl) (by kernel_rfl) (by kernel_rfl) (fun _ _ _ h => h) (by rfl) ?hran9 hS ?_
    case hran9 => (intro w hSw; (try dsimp only at hSw); go_split_ands; go_simp; (try with_reducible rfl))
    (try simp only [Act.put, List.setIfInBounds_toArray, List.set_cons_zero, List.set_cons_succ])
    refine any_take 9 ?vran10 rfl (by kernel_rfl) (by kernel_rfl) (by kernel_rfl) (fun _ _ _ h => h) (by rfl) ?hran10 hS ?_
    case hran10 => (intro w hSw; (try dsimp only at hSw); go_split_ands; go_simp; (try with_reducible rfl))
    (try simp only [Act.put, List.setIfInBounds_toArray, List.set_cons_zero, List.set_cons_succ])
    refine any_take 10 ?vran11 rfl (by kernel_rfl) (by kernel_rfl) (by kernel_rfl) (fun _ _ _ h => h) (by rfl) ?hran11 hS ?_
    case hran11 => (intro w hSw; (try dsimp only at hSw); go_split_ands; go_simp; (try with_reducible rfl))
    (try simp only [Act.put, List.setIfInBounds_toArray, List.set_cons_zero, List.set_cons_succ])
    refine any_take 11 ?vran12 rfl (by kernel_rfl) (by kernel_rfl) (by kernel_rfl) (fun _ _ _ h => h) (by rfl) ?hran12 hS ?_
    case hran12 => (intro w hSw; (try dsimp only at hSw); go_split_ands; go_simp; (try with_reducible rfl))
    (try simp only [Act.put, List.setIfInBounds_toArray, List.set_cons_zero, List.set_cons_succ])
    refine any_take 12 ?vran13 rfl (by kernel_rfl) (by kernel_rfl) (by kernel_rfl) (fun _ _ _ h => h) (by rfl) ?hran13 hS ?_
    case hran13 => (intro w hSw; (try dsimp only at hSw); go_split_ands; go_simp; (try with_reducible rfl))
    (try simp only [Act.put, List.setIfInBounds_toArray, List.set_cons_zero, List.set_cons_succ])
    refine any_take 13 ?vran14 rfl (by kernel_rfl) (by kernel_rfl) (by kernel_rfl) (fun _ _ _ h => h) (by rfl) ?hran14 hS ?_
    case hran14 => (intro w hSw; (try dsimp only at hSw); go_split_ands; go_simp; (try with_reducible rfl))
    (try simp only [Act.put, List.setIfInBounds_toArray, List.set_cons_zero, List.set_cons_succ])
    refine any_two 14 18 rfl rfl (by kernel_rfl) (by rfl) (by rfl) (fun K hK => ?_) (fun K hK => ?_)
    · have hSS : _ := hS
      clear hS
      go_simp
      refine (K1.out _).mono ?_
      rintro ev wc ⟨rfl, hbc⟩
      (try have hPc := hP.below hbc)
      refine hK.out _ _ (Ah.step (w := w) (g := g) (m := m) (v := v) (n := n) (b := b) (k := k) hSS hbc) (fun hS => ?_)
      clear hK
      (try simp only [Act.put, List.setIfInBounds_toArray, List.set_cons_zero, List.set_cons_succ])
      refine any_take 15 ?vran15 rfl (by kernel_rfl) (by kernel_rfl) (by kernel_rfl) (fun _ _ _ h => h) (by rfl) ?hran15 hS ?_
      case hran15 => (intro w hSw; (try dsimp only at hSw); go_split_ands; go_simp; (try with_reducible rfl))
      (try simp only [Act.put, List.setIfInBounds_toArray, List.set_cons_zero, List.set_cons_succ])
      refine any_take 16 ?vran16 rfl (by kernel_rfl) (by kernel_rfl) (by kernel_rfl) (fun _ _ _ h => h) (by rfl) ?hran16 hS ?_
      case hran16 => (intro w hSw; (try dsimp only at hSw); go_split_ands; go_simp; (try with_reducible rfl))
      (try simp only [Act.put, List.setIfInBounds_toArray, List.set_cons_zero, List.set_cons_succ])
      refine any_take 17 ?vran17 rfl (by kernel_rfl) (by kernel_rfl) (by kernel_rfl) (fun _ _ _ h => h) (by rfl) ?hran17 hS ?_
      case hran17 => (intro w hSw; (try dsimp only at hSw); go_split_ands; go_simp; (try with_reducible rfl))
      (try simp only [Act.put, List.setIfInBounds_toArray, List.set_cons_zero, List.set_cons_succ])
      refine any_one 18 rfl (by kernel_rfl) (by rfl) (fun K hK => ?_)
      have hSS : _ := hS
      clear hS
      go_simp
      first | (have hPc := Pair.new wc 0 0; have hN : ∃ W0, Ah w g m v n b k W0 ∧ W0.heap.size ≤ wc.heap.size := ⟨_, hSS, Nat.le_refl _⟩) | (have hP : Pair (w4.drew.alloc (.cells #[.int .i64 0, .int .i64 0] 39)) w4.heap.size 0 0 := Pair.new w4.drew 0 0; have hN : ∃ W0, Ah w g m v n b k W0 ∧ W0.heap.size ≤ w4.heap.size := ⟨_, hSS, Nat.le_refl _⟩)
      refine hK.out _ _ (Ah.step (w := w) (g := g) (m := m) (v := v) (n := n) (b := b) (k := k) hSS (Go.Joins.below_alloc1 _ _)) (fun hS => ?_)
      clear hK
      (try simp only [Act.put, List.setIfInBounds_toArray, List.set_cons_zero, List.set_cons_succ])
      refine any_one 19 rfl (by kernel_rfl) (by rfl) (fun K hK => ?_)
      have hSS : _ := hS
      clear hS
      refine op_store_run 39 _ _ rfl _ _ rfl rfl (hPc.stores x y) ?_
      have hPd := hPc.stored x y
      have hAd := Ah.store (w := w) (g := g) (m := m) (v := v) (n := n) (b := b) (k := k) hSS hN #[.int .i64 x, .int .i64 y]
      refine hK.out _ _ (hAd) (fun hS => ?_)
      clear hK
      (try simp only [Act.put])
      refine any_take 20 ?vran18 rfl (by kernel_rfl) (by kernel_rfl) (by kernel_rfl) (fun _ _ _ h => h) (by rfl) ?hran18 hS ?_
      case hran18 => (intro w hSw; (try dsimp only at hSw); go_split_ands; go_simp; (try with_reducible rfl))
      (try simp only [Act.put, List.setIfInBounds_toArray, List.set_cons_zero, List.set_cons_succ])
      refine wpAnyH_done (by kernel_rfl) ?_ _
      refine NoPanic.normal ?_
      obtain ⟨⟨x0, x1, x2, x3⟩, hfin⟩ := hAd.2.1.fin
      obtain ⟨y0, y1, y2, y3⟩ := hPd.facts
      generalize World.setRow _ _ _ = V9 at *
      have HF : Hid (∀ x y, Pair ((V9.setCell ⟨w.heap.size, 0, none⟩ (.int .i64 x)).setCell ⟨w.heap.size, 1, none⟩ (.int .i64 y)) w.heap.size x y ∧ Below w.heap.size w ((V9.setCell ⟨w.heap.size, 0, none⟩ (.int .i64 x)).setCell ⟨w.heap.size, 1, none⟩ (.int .i64 y))) := hfin
      clear hfin hS hAd hPd hN hSS
      go_wp2
      refine bodyPost_ret (res_pair_tmp rfl rfl (HF.out _ _).1) rfl ?_
      exact ⟨by rw [HV.out]; rfl, (HF.out _ _).2⟩
    · have hSS : _ := hS
      clear hS
      go_simp
      first | (have hPc := Pair.new wc 0 0; have hN : ∃ W0, Ah w g m v n b k W0 ∧ W0.heap.size ≤ wc.heap.size := ⟨_, hSS, Nat.le_refl _⟩) | (have hP : Pair (w4.drew.alloc (.cells #[.int .i64 0, .int .i64 0] 39)) w4.heap.size 0 0 := Pair.new w4.drew 0 0; have hN : ∃ W0, Ah w g m v n b k W0 ∧ W0.heap.size ≤ w4.heap.size := ⟨_, hSS, Nat.le_refl _⟩)
      refine hK.out _ _ (Ah.step (w := w) (g := g) (m := m) (v := v) (n := n) (b := b) (k := k) hSS (Go.Joins.below_alloc1 _ _)) (fun hS => ?_)
      clear hK
      (try simp only [Act.put, List.setIfInBounds_toArray, List.set_cons_zero, List.set_cons_succ])
      refine any_one 14 rfl (by kernel_rfl) (by rfl) (fun K hK => ?_)
      have hSS : _ := hS
      clear hS
      go_simp
      refine (K1.out _).mono ?_
      rintro ev wc ⟨rfl, hbc⟩
      (try have hPc := hP.below hbc)
      refine hK.out _ _ (Ah.step (w := w) (g := g) (m := m) (v := v) (n := n) (b := b) (k := k) hSS hbc) (fun hS => ?_)
      clear hK
      (try simp only [Act.put, List.setIfInBounds_toArray, List.set_cons_zero, List.set_cons_succ])
      refine any_take 15 ?vran19 rfl (by kernel_rfl) (by kernel_rfl) (by kernel_rfl) (fun _ _ _ h => h) (by rfl) ?hran19 hS ?_
      case hran19 => (intro w hSw; (try dsimp only at hSw); go_split_ands; go_simp; (try with_reducible rfl))
      (try simp only [Act.put, List.setIfInBounds_toArray, List.set_cons_zero, List.set_cons_succ])
      refine any_take 16 ?vran20 rfl (by kernel_rfl) (by kernel_rfl) (by kernel_rfl) (fun _ _ _ h => h) (by rfl) ?hran20 hS ?_
      case hran20 => (intro w hSw; (try dsimp only at hSw); go_split_ands; go_simp; (try with_reducible rfl))
      (try simp only [Act.put, List.setIfInBounds_toArray, List.set_cons_zero, List.set_cons_succ])
      refine any_take 17 ?vran21 rfl (by kernel_rfl) (by kernel_rfl) (by kernel_rfl) (fun _ _ _ h => h) (by rfl) ?hran21 hS ?_
      case hran21 => (intro w hSw; (try dsimp only at hSw); go_split_ands; go_simp; (try with_reducible rfl))
      (try simp only [Act.put, List.setIfInBounds_toArray, List.set_cons_zero, List.set_cons_succ])
      refine any_one 19 rfl (by kernel_rfl) (by rfl) (fun K hK => ?_)
      have hSS : _ := hS
      clear hS
      refine op_store_run 39 _ _ rfl _ _ rfl rfl (hPc.stores x y) ?_
      have hPd := hPc.stored x y
      have hAd := Ah.store (w := w) (g := g) (m := m) (v := v) (n := n) (b := b) (k := k) hSS hN #[.int .i64 x, .int .i64 y]
      refine hK.out _ _ (hAd) (fun hS => ?_)
      clear hK
      (try simp only [Act.put])
      refine any_take 20 ?vran22 rfl (by kernel_rfl) (by kernel_rfl) (by kernel_rfl) (fun _ _ _ h => h) (by rfl) ?hran22 hS ?_
      case hran22 => (intro w hSw; (try dsimp only at hSw); go_split_ands; go_simp; (try with_reducible rfl))
      (try simp only [Act.put, List.setIfInBounds_toArray, List.set_cons_zero, List.set_cons_succ])
      refine wpAnyH_done (by kernel_rfl) ?_ _
      refine NoPanic.normal ?_
      obtain ⟨⟨x0, x1, x2, x3⟩, hfin⟩ := hAd.2.1.fin
      obtain ⟨y0, y1, y2, y3⟩ := hPd.facts
      generalize World.setRow _ _ _ = V9 at *
      have HF : Hid (∀ x y, Pair ((V9.setCell ⟨w.heap.size, 0, none⟩ (.int .i64 x)).setCell ⟨w.heap.size, 1, none⟩ (.int .i64 y)) w.heap.size x y ∧ Below w.heap.size w ((V9.setCell ⟨w.heap.size, 0, none⟩ (.int .i64 x)).setCell ⟨w.heap.size, 1, none⟩ (.int .i64 y))) := hfin
      clear hfin hS hAd hPd hN hSS
      go_wp2
      refine bodyPost_ret (res_pair_tmp rfl rfl (HF.out _ _).1) rfl ?_
      exact ⟨by rw [HV.out]; rfl, (HF.out _ _).2⟩
  · have HV : Hid (ans = noA 6) := by show ans = _; rw [HV3, if_neg hz]
    clear HV3
    refine wp_region_noPanic ?_
    refine wp_region_held (S := fun V => (V.cell? ⟨b, 0, none⟩ = some (.int .i64 k.a) ∧ V.cell? ⟨b, 1, none⟩ = some (.int .i64 k.b) ∧ V.cell? ⟨g, 7, none⟩ = some (.int .i64 v.c.r) ∧ V.cell? ⟨g, 8, none⟩ = some (.int .i64 v.c.l)) ∧ Am w g m v n V ∧ KnAt V b k) (by kernel_rfl) ?_
    have hS := (H4.out.drew : Ah w g m v n b k w4.drew)
    refine any_take 0 ?vrbn1 rfl (by kernel_rfl) (by kernel_rfl) (by kernel_rfl) (fun _ _ _ h => h) (by rfl) ?hrbn1 hS ?_
    case hrbn1 => (intro w hSw; (try dsimp only at hSw); go_split_ands; go_simp; (try with_reducible rfl))
    (try simp only [Act.put, List.setIfInBounds_toArray, List.set_cons_zero, List.set_cons_succ])
    refine any_take 1 ?vrbn2 rfl (by kernel_rfl) (by kernel_rfl) (by kernel_rfl) (fun _ _ _ h => h) (by rfl) ?hrbn2 hS ?_
    case hrbn2 => (intro w hSw; (try dsimp only at hSw); go_split_ands; go_simp; (try with_reducible rfl))
    (try simp only [Act.put, List.setIfInBounds_toArray, List.set_cons_zero, List.set_cons_succ])
    refine any_take 2 ?vrbn3 rfl (by kernel_rfl) (by kernel_rfl) (by kernel_rfl) (fun _ _ _ h => h) (by rfl) ?hrbn3 hS ?_
    case hrbn3 => (intro w hSw; (try dsimp only at hSw); go_split_ands; go_simp; (try with_reducible rfl))
    (try simp only [Act.put, List.setIfInBounds_toArray, List.set_cons_zero, List.set_cons_succ])
    refine any_take 3 ?vrbn4 rfl (by kernel_rfl) (by kernel_rfl) (by kernel_rfl) (fun _ _ _ h => h) (by rfl) ?hrbn4 hS ?_
    case hrbn4 => (intro w hSw; (try dsimp only at hSw); go_split_ands; go_simp; (try with_reducible rfl))
    (try simp only [Act.put, List.setIfInBounds_toArray, List.set_cons_zero, List.set_cons_succ])
    refine any_take 4 ?vrbn5 rfl (by kernel_rfl) (by kernel_rfl) (by kernel_rfl) (fun _ _ _ h => h) (by rfl) ?hrbn5 hS ?_
    case hrbn5 => (intro w hSw; (try dsimp only at hSw); go_split_ands; go_simp; (try with_reducible rfl))
    (try simp only [Act.put, List.setIfInBounds_toArray, List.set_cons_zero, List.set_cons_succ])
    refine any_take 5 ?vrbn6 rfl (by kernel_rfl) (by kernel_rfl) (by kernel_rfl) (fun _ _ _ h => h) (by rfl) ?hrbn6 hS ?_
    case hrbn6 => (intro w hSw; (try dsimp only at hSw); go_split_ands; go_simp; (try with_reducible rfl))
    (try simp only [Act.put, List.setIfInBounds_toArray, List.set_cons_zero, List.set_cons_succ])
    refine any_take 6 ?vrbn7 rfl (by kernel_rfl) (by kernel_rfl) (by kernel_rfl) (fun _ _ _ h => h) (by rfl) ?hrbn7 hS ?_
    case hrbn7 => (intro w hSw; (try dsimp only at hSw); go_split_ands; go_simp; (try with_reducible rfl))
    (try simp only [Act.put, List.setIfInBounds_toArray, List.set_cons_zero, List.set_cons_succ])
    refine any_take 7 ?vrbn8 rfl (by kernel_rfl) (by kernel_rfl) (by kernel_rfl) (fun _ _ _ h => h) (by rfl) ?hrbn8 hS ?_
    case hrbn8 => (intro w hSw; (try dsimp only at hSw); go_split_ands; go_simp; (try with_reducible rfl))
    (try simp only [Act.put, List.setIfInBounds_toArray, List.set_cons_zero, List.set_cons_succ])
    refine any_take 8 ?vrbn9 rfl (by kernel_rfl) (by kernel_rfl) (by kernel_rfl) (fun _ _ _ h => h) (by rfl) ?hrbn9 hS ?_
    case hrbn9 => (intro w hSw; (try dsimp only at hSw); go_split_ands; go_simp; (try with_reducible rfl))
    (try simp only [Act.put, List.setIfInBounds_toArray, List.set_cons_zero, List.set_cons_succ])
    refine any_take 9 ?vrbn10 rfl (by kernel_rfl) (by kernel_rfl) (by kernel_rfl) (fun _ _ _ h => h) (by rfl) ?hrbn10 hS ?_
    case hrbn10 => (intro w hSw; (try dsimp only at hSw); go_split_ands; go_simp; (try with_reducible rfl))
    (try simp only [Act.put, List.setIfInBounds_toArray, List.set_cons_zero, List.set_cons_succ])
    refine any_take 10 ?vrbn11 rfl (by kernel_rfl) (by kernel_rfl) (by kernel_rfl) (fun _ _ _ h => h) (by rfl) ?hrbn11 hS ?_
    case hrbn11 => (intro w hSw; (try dsimp only at hSw); go_split_ands; go_simp; (try with_reducible rfl))
    (try simp only [Act.put, List.setIfInBounds_toArray, List.set_cons_zero, List.set_cons_succ])
    refine any_take 11 ?vrbn12 rfl (by kernel_rfl) (by kernel_rfl) (by kernel_rfl) (fun _ _ _ h => h) (by rfl) ?hrbn12 hS ?_
    case hrbn12 => (intro w hSw; (try dsimp only at hSw); go_split_ands; go_simp; (try with_reducible rfl))
    (try simp only [Act.put, List.setIfInBounds_toArray, List.set_cons_zero, List.set_cons_succ])
    refine any_take 12 ?vrbn13 rfl (by kernel_rfl) (by kernel_rfl) (by kernel_rfl) (fun _ _ _ h => h) (by rfl) ?hrbn13 hS ?_
    case hrbn13 => (intro w hSw; (try dsimp only at hSw); go_split_ands; go_simp; (try with_reducible rfl))
    (try simp only [Act.put, List.setIfInBounds_toArray, List.set_cons_zero, List.set_cons_succ])
    refine any_take 13 ?vrbn14 rfl (by kernel_rfl) (by kernel_rfl) (by kernel_rfl) (fun _ _ _ h => h) (by rfl) ?hrbn14 hS ?_
    case hrbn14 => (intro w hSw; (try dsimp only at hSw); go_split_ands; go_simp; (try with_reducible rfl))
    (try simp only [Act.put, List.setIfInBounds_toArray, List.set_cons_zero, List.set_cons_succ])
    refine any_two 14 18 rfl rfl (by kernel_rfl) (by rfl) (by rfl) (fun K hK => ?_) (fun K hK => ?_)
    · have hSS : _ := hS
      clear hS
      go_simp
      refine (K1.out _).mono ?_
      rintro ev wc ⟨rfl, hbc⟩
      (try have hPc := hP.below hbc)
      refine hK.out _ _ (Ah.step (w := w) (g := g) (m := m) (v := v) (n := n) (b := b) (k := k) hSS hbc) (fun hS => ?_)
      clear hK
      (try simp only [Act.put, List.setIfInBounds_toArray, List.set_cons_zero, List.set_cons_succ])
      refine any_take 15 ?vrbn15 rfl (by kernel_rfl) (by kernel_rfl) (by kernel_rfl) (fun _ _ _ h => h) (by rfl) ?hrbn15 hS ?_
      case hrbn15 => (intro w hSw; (try dsimp only at hSw); go_split_ands; go_simp; (try with_reducible rfl))
      (try simp only [Act.put, List.setIfInBounds_toArray, List.set_cons_zero, List.set_cons_succ])
      refine any_take 16 ?vrbn16 rfl (by kernel_rfl) (by kernel_rfl) (by kernel_rfl) (fun _ _ _ h => h) (by rfl) ?hrbn16 hS ?_
      case hrbn16 => (intro w hSw; (try dsimp only at hSw); go_split_ands; go_simp; (try with_reducible rfl))
      (try simp only [Act.put, List.setIfInBounds_toArray, List.set_cons_zero, List.set_cons_succ])
      refine any_take 17 ?vrbn17 rfl (by kernel_rfl) (by kernel_rfl) (by kernel_rfl) (fun _ _ _ h => h) (by rfl) ?hrbn17 hS ?_
      case hrbn17 => (intro w hSw; (try dsimp only at hSw); go_split_ands; go_simp; (try with_reducible rfl))
      (try simp only [Act.put, List.setIfInBounds_toArray, List.set_cons_zero, List.set_cons_succ])
      refine any_one 18 rfl (by kernel_rfl) (by rfl) (fun K hK => ?_)
      have hSS : _ := hS
      clear hS
      go_simp
      first | (have hPc := Pair.new wc 0 0; have hN : ∃ W0, Ah w g m v n b k W0 ∧ W0.heap.size ≤ wc.heap.size := ⟨_, hSS, Nat.le_refl _⟩) | (have hP : Pair (w4.drew.alloc (.cells #[.int .i64 0, .int .i64 0] 39)) w4.heap.size 0 0 := Pair.new w4.drew 0 0; have hN : ∃ W0, Ah w g m v n b k W0 ∧ W0.heap.size ≤ w4.heap.size := ⟨_, hSS, Nat.le_refl _⟩)
      refine hK.out _ _ (Ah.step (w := w) (g := g) (m := m) (v := v) (n := n) (b := b) (k := k) hSS (Go.Joins.below_alloc1 _ _)) (fun hS => ?_)
      clear hK
      (try simp only [Act.put, List.setIfInBounds_toArray, List.set_cons_zero, List.set_cons_succ])
      refine any_one 19 rfl (by kernel_rfl) (by rfl) (fun K hK => ?_)
      have hSS : _ := hS
      clear hS
      refine op_store_run 39 _ _ rfl _ _ rfl rfl (hPc.stores x y) ?_
      have hPd := hPc.stored x y
      have hAd := Ah.store (w := w) (g := g) (m := m) (v := v) (n := n) (b := b) (k := k) hSS hN #[.int .i64 x, .int .i64 y]
      refine hK.out _ _ (hAd) (fun hS => ?_)
      clear hK
      (try simp only [Act.put])
      refine any_take 20 ?vrbn18 rfl (by kernel_rfl) (by kernel_rfl) (by kernel_rfl) (fun _ _ _ h => h) (by rfl) ?hrbn18 hS ?_
      case hrbn18 => (intro w hSw; (try dsimp only at hSw); go_split_ands; go_simp; (try with_reducible rfl))
      (try simp only [Act.put, List.setIfInBounds_toArray, List.set_cons_zero, List.set_cons_succ])
      refine wpAnyH_done (by kernel_rfl) ?_ _
      refine NoPanic.normal ?_
      obtain ⟨⟨x0, x1, x2, x3⟩, hfin⟩ := hAd.2.1.fin
      obtain ⟨y0, y1, y2, y3⟩ := hPd.facts
      generalize World.setRow _ _ _ = V9 at *
      have HF : Hid (∀ x y, Pair ((V9.setCell ⟨w.heap.size, 0, none⟩ (.int .i64 x)).setCell ⟨w.heap.size, 1, none⟩ (.int .i64 y)) w.heap.size x y ∧ Below w.heap.size w ((V9.setCell ⟨w.heap.size, 0, none⟩ (.int .i64 x)).setCell ⟨w.heap.size, 1, none⟩ (.int .i64 y))) := hfin
      clear hfin hS hAd hPd hN hSS
      go_wp2
      refine bodyPost_ret (res_pair_tmp rfl rfl (HF.out _ _).1) rfl ?_
      exact ⟨by rw [HV.out]; rfl, (HF.out _ _).2⟩
    · have hSS : _ := hS
      clear hS
      go_simp
      first | (have hPc := Pair.new wc 0 0; have hN : ∃ W0, Ah w g m v n b k W0 ∧ W0.heap.size ≤ wc.heap.size := ⟨_, hSS, Nat.le_refl _⟩) | (have hP : Pair (w4.drew.alloc (.cells #[.int .i64 0, .int .i64 0] 39)) w4.heap.size 0 0 := Pair.new w4.drew 0 0; have hN : ∃ W0, Ah w g m v n b k W0 ∧ W0.heap.size ≤ w4.heap.size := ⟨_, hSS, Nat.le_refl _⟩)
      refine hK.out _ _ (Ah.step (w := w) (g := g) (m := m) (v := v) (n := n) (b := b) (k := k) hSS (Go.Joins.below_alloc1 _ _)) (fun hS => ?_)
      clear hK
      (try simp only [Act.put, List.setIfInBounds_toArray, List.set_cons_zero, List.set_cons_succ])
      refine any_one 14 rfl (by kernel_rfl) (by rfl) (fun K hK => ?_)
      have hSS : _ := hS
      clear hS
      go_simp
      refine (K1.out _).mono ?_
      rintro ev wc ⟨rfl, hbc⟩
      (try have hPc := hP.below hbc)
      refine hK.out _ _ (Ah.step (w := w) (g := g) (m := m) (v := v) (n := n) (b := b) (k := k) hSS hbc) (fun hS => ?_)
      clear hK
      (try simp only [Act.put, List.setIfInBounds_toArray, List.set_cons_zero, List.set_cons_succ])
      refine any_take 15 ?vrbn19 rfl (by kernel_rfl) (by kernel_rfl) (by kernel_rfl) (fun _ _ _ h => h) (by rfl) ?hrbn19 hS ?_
      case hrbn19 => (intro w hSw; (try dsimp only at hSw); go_split_ands; go_simp; (try with_reducible rfl))
      (try simp only [Act.put, List.setIfInBounds_toArray, List.set_cons_zero, List.set_cons_succ])
      refine any_take 16 ?vrbn20 rfl (by kernel_rfl) (by kernel_rfl) (by kernel_rfl) (fun _ _ _ h => h) (by rfl) ?hrbn20 hS ?_
      case hrbn20 => (intro w hSw; (try dsimp only at hSw); go_split_ands; go_simp; (try with_reducible rfl))
      (try simp only [Act.put, List.setIfInBounds_toArray, List.set_cons_zero, List.set_cons_succ])
      refine any_take 17 ?vrbn21 rfl (by kernel_rfl) (by kernel_rfl) (by kernel_rfl) (fun _ _ _ h => h) (by rfl) ?hrbn21 hS ?_
      case hrbn21 => (intro w hSw; (try dsimp only at hSw); go_split_ands; go_simp; (try with_reducible rfl))
      (try simp only [Act.put, List.setIfInBounds_toArray, List.set_cons_zero, List.set_cons_succ])
      refine any_one 19 rfl (by kernel_rfl) (by rfl) (fun K hK => ?_)
      have hSS : _ := hS
      clear hS
      refine op_store_run 39 _ _ rfl _ _ rfl rfl (hPc.stores x y) ?_
      have hPd := hPc.stored x y
      have hAd := Ah.store (w := w) (g := g) (m := m) (v := v) (n := n) (b := b) (k := k) hSS hN #[.int .i64 x, .int .i64 y]
      refine hK.out _ _ (hAd) (fun hS => ?_)
      clear hK
      (try simp only [Act.put])
      refine any_take 20 ?vrbn22 rfl (by kernel_rfl) (by kernel_rfl) (by kernel_rfl) (fun _ _ _ h => h) (by rfl) ?hrbn22 hS ?_
      case hrbn22 => (intro w hSw; (try dsimp only at hSw); go_split_ands; go_simp; (try with_reducible rfl))
      (try simp only [Act.put, List.setIfInBounds_toArray, List.set_cons_zero, List.set_cons_succ])
      refine wpAnyH_done (by kernel_rfl) ?_ _
      refine NoPanic.normal ?_
      obtain ⟨⟨x0, x1, x2, x3⟩, hfin⟩ := hAd.2.1.fin
      obtain ⟨y0, y1, y2, y3⟩ := hPd.facts
      generalize World.setRow _ _ _ = V9 at *
      have HF : Hid (∀ x y, Pair ((V9.setCell ⟨w.heap.size, 0, none⟩ (.int .i64 x)).setCell ⟨w.heap.size, 1, none⟩ (.int .i64 y)) w.heap.size x y ∧ Below w.heap.size w ((V9.setCell ⟨w.heap.size, 0, none⟩ (.int .i64 x)).setCell ⟨w.heap.size, 1, none⟩ (.int .i64 y))) := hfin
      clear hfin hS hAd hPd hN hSS
      go_wp2
      refine bodyPost_ret (res_pair_tmp rfl rfl (HF.out _ _).1) rfl ?_
      exact ⟨by rw [HV.out]; rfl, (HF.out _ _).2⟩
end Go.Proofs.Ytoibndfiolipbaa
