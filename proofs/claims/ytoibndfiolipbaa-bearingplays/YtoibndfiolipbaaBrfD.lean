/-
  The contracts of the document's Most and Put.
-/
import Derived.Test.YtoibndfiolipbaaBrfC
import Derived.Test.YtoibndfiolipbaaBrgD
namespace Go.Proofs.Ytoibndfiolipbaa
open Go.ChangeShapes Go.WideShapes Go.ChangeAt Go.RowKit
set_option maxRecDepth 20000

set_option maxHeartbeats 1600000 in
theorem dmost_ok (w : World) (g q : Nat) (v : Bt) (h : Rd w g q v) (ok : v.ok) (f t : Int) :
    Calls Try.prog 17 #[.pointer (some ⟨g, 0, none⟩), .int .i64 f, .int .i64 t] w fun e w' => e = .returned (.tuple #[.int .i64 (mosV (atA v f t) t), .int .i64 (atA v f t).e]) ∧ Below w.heap.size w w' := by
  have K := dat_ok w g q v h ok f t
  have hr : (atA v f t).e = 0 → (0 ≤ t ∧ t ≤ 1099511627776) ∧ -1099511627776 ≤ (atA v f t).b ∧ (atA v f t).b ≤ 1099511627776 := fun he => by
    have h1 := rightB_true (at_right he)
    exact ⟨time_in (mayF_in (at_may_of he)).2, by omega, h1.2.2⟩
  unfold mosV
  generalize atA v f t = X at *
  obtain ⟨x, y, z⟩ := X
  dsimp only at *
  clear h ok
  by_cases hz : z = 0
  · subst hz
    rw [if_pos rfl]
    obtain ⟨h1, h2⟩ := hr rfl
    have e1 : IntKind.i64.wrap (t + y) = t + y := wrap_in (by omega) (by omega)
    obtain ⟨s, hs⟩ : ∃ s, s = t + y := ⟨_, rfl⟩
    rw [← hs]
    have e2 : IntKind.i64.wrap (t + y) = s := by rw [hs]; exact e1
    have hmx := max2i s 0
    generalize max s 0 = m at *
    clear hr h1 h2 e1 hs
    go_enter Try.func17, Try.ntmps17
    go_wp2_with fail
    refine K.mono ?_
    rintro e w1 ⟨rfl, hb⟩
    clear K
    go_upto_region 2 with fail
    obtain ⟨hp, hb2⟩ := pair_next hb x y
    generalize w1.alloc (.cells #[.int .i64 x, .int .i64 y] 39) = W at *
    generalize w1.heap.size = p at *
    obtain ⟨x0, x1, x2, x3⟩ := hp.facts
    clear hp hb
    go_wp2
    go_ret2
    exact ⟨rfl, hb2⟩
  · rw [if_neg hz]
    clear hr
    go_enter Try.func17, Try.ntmps17
    go_wp2_with fail
    refine K.mono ?_
    rintro e w1 ⟨rfl, hb⟩
    clear K
    go_upto_region 2 with fail
    obtain ⟨hp, hb2⟩ := pair_next hb x y
    generalize w1.alloc (.cells #[.int .i64 x, .int .i64 y] 39) = W at *
    generalize w1.heap.size = p at *
    clear hp hb
    go_wp2
    go_ret2
    exact ⟨rfl, hb2⟩

/-- Put, under way: the table, what is put, and what will be written. -/
structure Qm (w : World) (g q : Nat) (v : Bt) (a b : Int) (p : Nat) (A B : Int) (W : World) : Prop where
  rd : Rd W g q v
  off : Pair W w.heap.size a b
  pr : Pair W p A B
  low : w.heap.size < p
  bel : Below w.heap.size w W
theorem Qm.step {w W V : World} {g q : Nat} {v : Bt} {a b : Int} {p : Nat} {A B : Int} (h : Qm w g q v a b p A B W) (hb : Below W.heap.size W V) : Qm w g q v a b p A B V := ⟨h.rd.below hb, h.off.below hb, h.pr.below hb, h.low, h.bel.trans (hb.mono h.bel.size)⟩
theorem Qm.set {w W : World} {g q : Nat} {v : Bt} {a b : Int} {p : Nat} {A B : Int} (h : Qm w g q v a b p A B W) (h0 : Rd w g q v) (x y : Int) : Qm w g q v a b p x y ((W.setCell ⟨p, 0, none⟩ (.int .i64 x)).setCell ⟨p, 1, none⟩ (.int .i64 y)) := by
  have l1 := h0.at'.lt
  have l2 := h0.row.lt
  have l3 := h.low
  have hk : ∀ k, k ≠ p → ((W.setCell ⟨p, 0, none⟩ (.int .i64 x)).setCell ⟨p, 1, none⟩ (.int .i64 y)).heap[k]? = W.heap[k]? := fun k hk => by
    rw [heap_setCell_other _ _ _ _ hk, heap_setCell_other _ _ _ _ hk]
  exact ⟨h.rd.keep fun k hq => hk k (by rcases hq with rfl | rfl <;> omega), (hk _ (by omega)).trans h.off, h.pr.set x y, h.low, below_pair h.bel (by omega) _ _⟩
/-- It is written down. -/
theorem Qm.fin {w W : World} {g q : Nat} {v : Bt} {a b : Int} {p : Nat} {A B : Int} (h : Qm w g q v a b p A B W) (h0 : Rd w g q v) {j : Nat} (hj : j < v.c.n.toNat) (t : Int) :
    ∃ W', (Instr.storeAt 78 (.pointer (some ⟨q, j * 4, none⟩)) (.agg #[.bool true, .int .i64 A, .int .i64 B, .int .i64 t])).run Try.prog W = .ok () W' ∧ (Rd W' g q (putK v (j : Int) ⟨A, B, t⟩) ∧ Apart (fun k => k = q) w W') ∧ W'.cell? ⟨g, 11, none⟩ = some (slK q v) ∧ W'.cell? ⟨p, 0, none⟩ = some (.int .i64 A) ∧ W'.cell? ⟨p, 1, none⟩ = some (.int .i64 B) := by
  have l2 := h0.row.lt
  have l3 := h.low
  obtain ⟨W', hrun, h1, h2⟩ := h.rd.row.stores j (by rw [rowK_len]; exact hj) ⟨A, B, t⟩
  have hgq := h.rd.gq
  have hA : RA W' g v (slK q v) := (h2.block g h.rd.at'.lt hgq).trans h.rd.at'
  rw [rowK_put] at h1
  refine ⟨W', hrun, ⟨⟨hA, h1⟩, (Apart.of_below h.bel).trans h2 (fun i hi => .inl hi)⟩, hA.cell 11 rfl, h2.cell h.pr.c0 (by show p ≠ q; omega), h2.cell h.pr.c1 (by show p ≠ q; omega)⟩
theorem rmeet_fact (a b c d : Int) : ∀ W, Calls Try.prog 36 #[.agg #[.int .i64 a, .int .i64 b], .agg #[.int .i64 c, .int .i64 d]] W fun e w' => e = .returned (.tuple #[.agg #[.int .i64 (metA a b c d).a, .int .i64 (metA a b c d).b], .int .i64 (metA a b c d).e]) ∧ Below W.heap.size W w' := fun W => by
  have := refmeets_ok W a b c d
  rw [met_eq] at this
  exact this
theorem dbuildKn (a b t : Int) (w : World) : (Instr.build 78 #[(0, .bool true), (1, .agg #[.int .i64 a, .int .i64 b]), (2, .int .i64 t)]).run Try.prog w = .ok (.agg #[.bool true, .int .i64 a, .int .i64 b, .int .i64 t]) w := by kernel_rfl

set_option maxHeartbeats 1600000 in
theorem dput_bad (w : World) (g q : Nat) (v : Bt) (h : Rd w g q v) (f a b t : Int) (hf : putE v f a b t = 1) :
    Calls Try.prog 13 #[.pointer (some ⟨g, 0, none⟩), .int .i64 f, .agg #[.int .i64 a, .int .i64 b], .int .i64 t] w fun e w' => e = .returned (.int .i64 1) ∧ Below w.heap.size w w' := by
  have hb0 : Below w.heap.size w (w.alloc (.cells #[.int .i64 a, .int .i64 b] 39)) := Go.Joins.below_alloc1 _ _
  have HB : Hid (Below w.heap.size w (w.alloc (.cells #[.int .i64 a, .int .i64 b] 39))) := hb0
  have KM := dmay_ok _ g v _ (h.below (Go.Joins.below_alloc1 w (.cells #[.int .i64 a, .int .i64 b] 39))).at' f t
  have KR := refright_ok (w.alloc (.cells #[.int .i64 a, .int .i64 b] 39)) a b
  obtain ⟨x0, x1, x2, x3⟩ := (Pair.new w a b).facts
  clear h hb0
  cases h1 : mayF v f t
  · rw [h1] at KM
    clear hf h1 KR
    go_enter Try.func13, Try.ntmps13
    go_wp2_with fail
    generalize w.alloc (.cells #[.int .i64 a, .int .i64 b] 39) = W at *
    refine KM.mono ?_
    rintro e w1 ⟨rfl, rfl⟩
    clear KM
    go_wp2
    go_ret
    exact ⟨rfl, HB.out⟩
  have h2 : rightB a b = false := by
    cases h2 : rightB a b
    · rfl
    · obtain ⟨h3, h4⟩ := mayF_in h1
      rw [putE, if_pos ⟨h3, h2, h4⟩] at hf
      split at hf <;> cases hf
  rw [h1] at KM
  rw [h2] at KR
  clear hf h1 h2
  go_enter Try.func13, Try.ntmps13
  go_wp2_with fail
  generalize w.alloc (.cells #[.int .i64 a, .int .i64 b] 39) = W at *
  refine KM.mono ?_
  rintro e w1 ⟨rfl, rfl⟩
  clear KM
  go_wp2_with fail
  refine KR.mono ?_
  rintro e w2 ⟨rfl, hb⟩
  have HB2 : Hid (Below w.heap.size w w2) := HB.out.trans (hb.mono HB.out.size)
  clear KR hb HB x0 x1 x2 x3
  go_wp2
  go_ret
  exact ⟨rfl, HB2.out⟩

set_option maxHeartbeats 3200000 in
theorem dput_may (w : World) (g q : Nat) (v : Bt) (h : Rd w g q v) (ok : v.ok) (f a b t : Int) (h1 : mayF v f t = true) (h2 : rightB a b = true) :
    Calls Try.prog 13 #[.pointer (some ⟨g, 0, none⟩), .int .i64 f, .agg #[.int .i64 a, .int .i64 b], .int .i64 t] w fun e w' => (oldB (v.K f) t = true ∧ e = .returned (.int .i64 10) ∧ Below w.heap.size w w') ∨ (oldB (v.K f) t = false ∧ e = .returned (.int .i64 0) ∧ Rd w' g q (putT v f a b t) ∧ Apart (fun k => k = q) w w') := by
  have hin := other_in (mayF_in h1).1
  obtain ⟨N, hN⟩ : ∃ N : Nat, v.c.n = (N : Int) := ⟨v.c.n.toNat, by have := (right_of ok.r).n0; omega⟩
  obtain ⟨j, rfl⟩ : ∃ j : Nat, f = (j : Int) := ⟨f.toNat, by omega⟩
  have hnt : v.c.n.toNat = N := by rw [hN]; rfl
  have hjN : j < v.c.n.toNat := by omega
  have g1 : (j : Int) < (N : Int) := by omega
  have g3 : (0 : Int) ≤ (j : Int) := Int.natCast_nonneg _
  have KM := dmay_ok _ g v _ (h.below (Go.Joins.below_alloc1 w (.cells #[.int .i64 a, .int .i64 b] 39))).at' (j : Int) t
  have KR := refright_ok (w.alloc (.cells #[.int .i64 a, .int .i64 b] 39)) a b
  obtain ⟨x0, x1, x2, x3⟩ := (Pair.new w a b).facts
  rw [h1] at KM
  rw [h2] at KR
  have HP0 : Hid (Pair (w.alloc (.cells #[.int .i64 a, .int .i64 b] 39)) w.heap.size a b ∧ Rd (w.alloc (.cells #[.int .i64 a, .int .i64 b] 39)) g q v ∧ Below w.heap.size w (w.alloc (.cells #[.int .i64 a, .int .i64 b] 39))) := ⟨Pair.new _ _ _, h.below (Go.Joins.below_alloc1 _ _), Go.Joins.below_alloc1 _ _⟩
  have HW : Hid (Rd w g q v ∧ v.ok ∧ j < v.c.n.toNat ∧ v.c.n.toNat = N) := ⟨h, ok, hjN, hnt⟩
  clear hin hN hnt hjN h1 h2 h ok
  go_enter Try.func13, Try.ntmps13
  go_wp2_with fail
  generalize w.alloc (.cells #[.int .i64 a, .int .i64 b] 39) = W at *
  refine KM.mono ?_
  rintro e w1 ⟨rfl, rfl⟩
  clear KM
  go_wp2_with fail
  refine KR.mono ?_
  rintro e w2 ⟨rfl, hb⟩
  have H2 : Hid (Pair w2 w.heap.size a b ∧ Rd w2 g q v ∧ Below w.heap.size w w2) := ⟨HP0.out.1.below hb, HP0.out.2.1.below hb, HP0.out.2.2.trans (hb.mono HP0.out.2.2.size)⟩
  clear KR hb HP0 x0 x1 x2 x3
  have c11 : w2.cell? ⟨g, 11, none⟩ = some (.slice (some ⟨q, 0, none⟩) N N) := by
    have := H2.out.2.1.at'.cell 11 rfl
    unfold slK at this
    rw [HW.out.2.2.2] at this; exact this
  have hrow := rowK_get v HW.out.2.2.1
  have hks : ∃ (bi : Bool) (kt : Int), w2.cell? ⟨q, j * 4, none⟩ = some (.bool bi) ∧ w2.cell? ⟨q, j * 4 + 3, none⟩ = some (.int .i64 kt) ∧ oldB (v.K (j : Int)) t = (bi && decide (t < kt)) := by
    cases hk : v.K (j : Int) with
    | none =>
      rw [hk] at hrow
      exact ⟨false, 0, H2.out.2.1.row.cell hrow 0 rfl, H2.out.2.1.row.cell hrow 3 rfl, rfl⟩
    | some k =>
      rw [hk] at hrow
      exact ⟨true, k.t, H2.out.2.1.row.cell hrow 0 rfl, H2.out.2.1.row.cell hrow 3 rfl, by simp [oldB]⟩
  obtain ⟨bi, kt, q0, q3, hold⟩ := hks
  by_cases hq : bi = true ∧ t < kt
  · obtain ⟨hbi, hlt⟩ := hq
    subst hbi
    have HQ : Hid (oldB (v.K (j : Int)) t = true) := by show oldB (v.K (j : Int)) t = true; rw [hold]; simp [hlt]
    clear hold hrow
    have HB : Hid (Below w.heap.size w w2) := H2.out.2.2
    clear H2 HW
    go_wp2
    go_ret
    exact .inl ⟨HQ.out, rfl, HB.out⟩
  have HQ : Hid (oldB (v.K (j : Int)) t = false) := by
    show oldB (v.K (j : Int)) t = false
    rw [hold]
    cases bi
    · rfl
    · simp; have : ¬ t < kt := fun h => hq ⟨rfl, h⟩
      omega
  have x0 := H2.out.1.c0
  have x1 := H2.out.1.c1
  have HBI : Hid (bi = false ∨ ¬ t < kt) := by
    cases bi
    · exact .inl rfl
    · exact .inr fun h => hq ⟨rfl, h⟩
  clear hold hrow hq
  have HX : Hid (putT v (j : Int) a b t = putK v (j : Int) ⟨(narA (atA v (j : Int) t) a b).a, (narA (atA v (j : Int) t) a b).b, t⟩) := rfl
  have HNB : Hid (∀ X, X = atA v (j : Int) t → ¬ X.e = 0 → narA X a b = ⟨a, b, 0⟩) := fun X _ hX => if_neg hX
  have HNC : Hid (∀ X, X = atA v (j : Int) t → X.e = 0 → ¬ (metA X.a X.b a b).e = 0 → narA X a b = ⟨a, b, 0⟩) := fun X _ h1 h2 => by rw [narA, if_pos h1, if_neg h2]
  have HND : Hid (∀ X, X = atA v (j : Int) t → X.e = 0 → (metA X.a X.b a b).e = 0 → narA X a b = metA X.a X.b a b) := fun X _ h1 h2 => by rw [narA, if_pos h1, if_pos h2]
  have KA : Hid (∀ W, Rd W g q v → Calls Try.prog 15 #[.pointer (some ⟨g, 0, none⟩), .int .i64 (j : Int), .int .i64 t] W fun e w' => e = .returned (.tuple #[.agg #[.int .i64 (atA v (j : Int) t).a, .int .i64 (atA v (j : Int) t).b], .int .i64 (atA v (j : Int) t).e]) ∧ Below W.heap.size W w') := fun W hW => dat_ok W g q v hW HW.out.2.1 _ _
  generalize hXA : atA v (j : Int) t = X at *
  have hnb := HNB.out X rfl
  have hnc := HNC.out X rfl
  have hnd := HND.out X rfl
  have KN : Hid (∀ W, Calls Try.prog 36 #[.agg #[.int .i64 X.a, .int .i64 X.b], .agg #[.int .i64 a, .int .i64 b]] W fun e w' => e = .returned (.tuple #[.agg #[.int .i64 (metA X.a X.b a b).a, .int .i64 (metA X.a X.b a b).b], .int .i64 (metA X.a X.b a b).e]) ∧ Below W.heap.size W w') := rmeet_fact _ _ _ _
  generalize hY : metA X.a X.b a b = Y at *
  have HNBd : Hid (¬ X.e = 0 → narA X a b = ⟨a, b, 0⟩) := hnb
  have HNCd : Hid (X.e = 0 → ¬ Y.e = 0 → narA X a b = ⟨a, b, 0⟩) := hnc
  have HNDd : Hid (X.e = 0 → Y.e = 0 → narA X a b = Y) := hnd
  clear HNB HNC HND hXA hnb hnc hnd hY
  have H2b : Hid (Qm w g q v a b w2.heap.size a b (w2.alloc (.cells #[.int .i64 a, .int .i64 b] 39))) :=
    ⟨H2.out.2.1.below (Go.Joins.below_alloc1 _ _), H2.out.1.below (Go.Joins.below_alloc1 _ _), Pair.new _ _ _, H2.out.1.lt, H2.out.2.2.alloc H2.out.2.2.size _⟩
  cases bi
  · have hxx : True := trivial
    clear HBI
    go_upto_region 6 with fail
    clear q0 q3 c11 x0 x1 hxx H2
    generalize w2.alloc (.cells #[.int .i64 a, .int .i64 b] 39) = w3 at *
    generalize w2.heap.size = p at *
    clear w2
    have ka := KA.out w3 H2b.out.rd
    clear KA
    go_wp2_with fail
    refine ka.mono ?_
    rintro e w4 ⟨rfl, hb4⟩
    have H4 := H2b.out.step hb4
    clear ka hb4 H2b
    go_upto_region 7 with fail
    have H5 : Hid (Qm w g q v a b p a b (w4.alloc (.cells #[.int .i64 X.a, .int .i64 X.b] 39))) := H4.step (Go.Joins.below_alloc1 _ _)
    have HP5 : Hid (Pair (w4.alloc (.cells #[.int .i64 X.a, .int .i64 X.b] 39)) w4.heap.size X.a X.b) := Pair.new _ _ _
    generalize w4.alloc (.cells #[.int .i64 X.a, .int .i64 X.b] 39) = w5 at *
    generalize w4.heap.size = p2 at *
    clear H4 w4
    by_cases hz : X.e = 0
    · have hnc := HNCd.out hz
      have hnd := HNDd.out hz
      clear HNBd HNCd HNDd
      obtain ⟨y0, y1, y2, y3⟩ := HP5.out.facts
      obtain ⟨x0, x1, x2, x3⟩ := H5.out.off.facts
      generalize X.e = z at *
      subst hz
      go_wp2_with fail
      refine (KN.out _).mono ?_
      rintro e w6 ⟨rfl, hb6⟩
      have H6 := H5.out.step hb6
      clear KN hb6 H5 HP5 y0 y1 y2 y3 x0 x1 x2 x3
      go_upto_region 9 with fail
      have H7 : Hid (Qm w g q v a b p a b (w6.alloc (.cells #[.int .i64 Y.a, .int .i64 Y.b] 39))) := H6.step (Go.Joins.below_alloc1 _ _)
      have HP7 : Hid (Pair (w6.alloc (.cells #[.int .i64 Y.a, .int .i64 Y.b] 39)) w6.heap.size Y.a Y.b) := Pair.new _ _ _
      generalize w6.alloc (.cells #[.int .i64 Y.a, .int .i64 Y.b] 39) = w7 at *
      generalize w6.heap.size = p3 at *
      clear H6 w6
      by_cases hz2 : Y.e = 0
      · have HV : Hid (putT v (j : Int) a b t = putK v (j : Int) ⟨Y.a, Y.b, t⟩) := by
          have e1 := HX.out
          rw [hnd hz2] at e1
          exact e1
        clear HX hnc hnd
        generalize Y.e = z2 at *
        subst hz2
        obtain ⟨y0, y1, y2, y3⟩ := HP7.out.facts
        obtain ⟨x0, x1, x2, x3⟩ := H7.out.pr.facts
        go_upto_region 11 with fail
        obtain ⟨w8, hw8⟩ : ∃ W, W = (w7.setCell ⟨p, 0, none⟩ (.int .i64 Y.a)).setCell ⟨p, 1, none⟩ (.int .i64 Y.b) := ⟨_, rfl⟩
        have H8 : Hid (Qm w g q v a b p Y.a Y.b w8) := by rw [hw8]; exact H7.out.set HW.out.1 _ _
        rw [← hw8]
        clear hw8 H7 HP7 y0 y1 y2 y3 x0 x1 x2 x3
        generalize Y.a = A at *
        generalize Y.b = B at *
        obtain ⟨w9, hrun, hfin⟩ := Qm.fin (H8.out.step (Below.refl _ _).drew) HW.out.1 HW.out.2.2.1 t
        rw [← HV.out] at hfin
        unfold slK at hfin
        rw [HW.out.2.2.2] at hfin
        have HE : Hid ((Instr.storeAt 78 (.pointer (some ⟨q, j * 4, none⟩)) (.agg #[.bool true, .int .i64 A, .int .i64 B, .int .i64 t])).run Try.prog w8.drew = .ok () w9 ∧ (Rd w9 g q (putT v (j : Int) a b t) ∧ Apart (fun k => k = q) w w9) ∧ w9.cell? ⟨g, 11, none⟩ = some (.slice (some ⟨q, 0, none⟩) N N) ∧ w9.cell? ⟨p, 0, none⟩ = some (.int .i64 A) ∧ w9.cell? ⟨p, 1, none⟩ = some (.int .i64 B)) := ⟨hrun, hfin⟩
        have hS0 : w8.drew.cell? ⟨g, 11, none⟩ = some (.slice (some ⟨q, 0, none⟩) N N) ∧ w8.drew.cell? ⟨p, 0, none⟩ = some (.int .i64 A) ∧ w8.drew.cell? ⟨p, 1, none⟩ = some (.int .i64 B) := by
          refine ⟨?_, H8.out.pr.c0, H8.out.pr.c1⟩
          have := H8.out.rd.at'.cell 11 rfl
          unfold slK at this
          rw [HW.out.2.2.2] at this; exact this
        clear hrun hfin H8 HV
        refine wp_region_noPanic ?_
        refine wp_region_held (S := fun V => V.cell? ⟨g, 11, none⟩ = some (.slice (some ⟨q, 0, none⟩) N N) ∧ V.cell? ⟨p, 0, none⟩ = some (.int .i64 A) ∧ V.cell? ⟨p, 1, none⟩ = some (.int .i64 B)) (by kernel_rfl) ?_
        have hS := hS0
        refine any_take 0 ?vpaun1 rfl (by kernel_rfl) (by kernel_rfl) (by kernel_rfl) (fun _ _ _ h => h) (by rfl) ?hpaun1 hS ?_
        case hpaun1 => (intro w hSw; (try dsimp only at hSw); go_split_ands; go_simp; (try with_reducible rfl))
        (try simp only [Act.put, List.setIfInBounds_toArray, List.set_cons_zero, List.set_cons_succ])
        refine any_take 1 ?vpaun2 rfl (by kernel_rfl) (by kernel_rfl) (by kernel_rfl) (fun _ _ _ h => h) (by rfl) ?hpaun2 hS ?_
        case hpaun2 => (intro w hSw; (try dsimp only at hSw); go_split_ands; go_simp; (try with_reducible rfl))
        (try simp only [Act.put, List.setIfInBounds_toArray, List.set_cons_zero, List.set_cons_succ])
        refine any_take 2 ?vpaun3 rfl (by kernel_rfl) (by kernel_rfl) (by kernel_rfl) (fun _ _ _ h => h) (by rfl) ?hpaun3 hS ?_
        case hpaun3 => (intro w hSw; (try dsimp only at hSw); go_split_ands; go_simp; (try with_reducible rfl))
        (try simp only [Act.put, List.setIfInBounds_toArray, List.set_cons_zero, List.set_cons_succ])
        refine any_take 3 ?vpaun4 rfl (by kernel_rfl) (by kernel_rfl) (by kernel_rfl) (fun _ _ _ h => h) (by rfl) ?hpaun4 hS ?_
        case hpaun4 => (intro w hSw; (try dsimp only at hSw); go_split_ands; go_simp; (try with_reducible rfl))
        (try simp only [Act.put, List.setIfInBounds_toArray, List.set_cons_zero, List.set_cons_succ])
        refine any_take 4 ?vpaun5 rfl (by kernel_rfl) (by kernel_rfl) (by kernel_rfl) (fun _ _ _ h => h) (by rfl) ?hpaun5 hS ?_
        case hpaun5 => (intro w hSw; (try dsimp only at hSw); go_split_ands; go_simp; (try with_reducible rfl))
        (try simp only [Act.put, List.setIfInBounds_toArray, List.set_cons_zero, List.set_cons_succ])
        refine any_take 5 ?vpaun6 rfl (by kernel_rfl) (by kernel_rfl) (by kernel_rfl) (fun _ _ _ h => h) (by rfl) ?hpaun6 hS ?_
        case hpaun6 => (intro w hSw; (try dsimp only at hSw); go_split_ands; go_simp; (try with_reducible rfl))
        (try simp only [Act.put, List.setIfInBounds_toArray, List.set_cons_zero, List.set_cons_succ])
        refine any_take 6 ?vpaun7 rfl (by kernel_rfl) (by kernel_rfl) (by kernel_rfl) (fun _ _ _ h => h) (by rfl) ?hpaun7 hS ?_
        case hpaun7 => (intro w hSw; (try dsimp only at hSw); go_split_ands; go_simp; (try with_reducible rfl))
        (try simp only [Act.put, List.setIfInBounds_toArray, List.set_cons_zero, List.set_cons_succ])
        refine any_take 7 (Value.agg #[.bool true, .int .i64 A, .int .i64 B, .int .i64 t]) rfl (by kernel_rfl) (by kernel_rfl) (by kernel_rfl) (fun _ _ _ h => h) (by rfl) (fun U _ => rexec_build 78 _ rfl [(0, .bool true), (1, .agg #[.int .i64 A, .int .i64 B]), (2, .int .i64 t)] _ rfl (dbuildKn A B t U)) hS ?_
        (try simp only [Act.put, List.setIfInBounds_toArray, List.set_cons_zero, List.set_cons_succ])
        refine any_take 8 ?vpaun8 rfl (by kernel_rfl) (by kernel_rfl) (by kernel_rfl) (fun _ _ _ h => h) (by rfl) ?hpaun8 hS ?_
        case hpaun8 => (intro w hSw; (try dsimp only at hSw); go_split_ands; go_simp; (try with_reducible rfl))
        (try simp only [Act.put, List.setIfInBounds_toArray, List.set_cons_zero, List.set_cons_succ])
        refine any_one 9 rfl (by kernel_rfl) (by rfl) (fun K hK => ?_)
        clear hS
        refine op_store_run 78 _ _ rfl _ _ rfl rfl HE.out.1 ?_
        refine hK.out _ _ (HE.out.2.2) (fun hS => ?_)
        clear hK
        (try simp only [Act.put])
        refine wpAnyH_done (by kernel_rfl) ?_ _
        refine NoPanic.normal ?_
        clear hS hS0
        go_wp2
        go_ret
        exact .inr ⟨HQ.out, rfl, HE.out.2.1⟩
      · have HV : Hid (putT v (j : Int) a b t = putK v (j : Int) ⟨a, b, t⟩) := by
          have e1 := HX.out
          rw [hnc hz2] at e1
          exact e1
        clear HX hnc hnd HP7
        generalize Y.e = z2 at *
        go_upto_region 11 with fail
        have H8 : Hid (Qm w g q v a b p a b w7) := H7.out
        clear H7
        obtain ⟨w9, hrun, hfin⟩ := Qm.fin (H8.out.step (Below.refl _ _).drew) HW.out.1 HW.out.2.2.1 t
        rw [← HV.out] at hfin
        unfold slK at hfin
        rw [HW.out.2.2.2] at hfin
        have HE : Hid ((Instr.storeAt 78 (.pointer (some ⟨q, j * 4, none⟩)) (.agg #[.bool true, .int .i64 a, .int .i64 b, .int .i64 t])).run Try.prog w7.drew = .ok () w9 ∧ (Rd w9 g q (putT v (j : Int) a b t) ∧ Apart (fun k => k = q) w w9) ∧ w9.cell? ⟨g, 11, none⟩ = some (.slice (some ⟨q, 0, none⟩) N N) ∧ w9.cell? ⟨p, 0, none⟩ = some (.int .i64 a) ∧ w9.cell? ⟨p, 1, none⟩ = some (.int .i64 b)) := ⟨hrun, hfin⟩
        have hS0 : w7.drew.cell? ⟨g, 11, none⟩ = some (.slice (some ⟨q, 0, none⟩) N N) ∧ w7.drew.cell? ⟨p, 0, none⟩ = some (.int .i64 a) ∧ w7.drew.cell? ⟨p, 1, none⟩ = some (.int .i64 b) := by
          refine ⟨?_, H8.out.pr.c0, H8.out.pr.c1⟩
          have := H8.out.rd.at'.cell 11 rfl
          unfold slK at this
          rw [HW.out.2.2.2] at this; exact this
        clear hrun hfin H8 HV
        refine wp_region_noPanic ?_
        refine wp_region_held (S := fun V => V.cell? ⟨g, 11, none⟩ = some (.slice (some ⟨q, 0, none⟩) N N) ∧ V.cell? ⟨p, 0, none⟩ = some (.int .i64 a) ∧ V.cell? ⟨p, 1, none⟩ = some (.int .i64 b)) (by kernel_rfl) ?_
        have hS := hS0
        refine any_take 0 ?vpbun1 rfl (by kernel_rfl) (by kernel_rfl) (by kernel_rfl) (fun _ _ _ h => h) (by rfl) ?hpbun1 hS ?_
        case hpbun1 => (intro w hSw; (try dsimp only at hSw); go_split_ands; go_simp; (try with_reducible rfl))
        (try simp only [Act.put, List.setIfInBounds_toArray, List.set_cons_zero, List.set_cons_succ])
        refine any_take 1 ?vpbun2 rfl (by kernel_rfl) (by kernel_rfl) (by kernel_rfl) (fun _ _ _ h => h) (by rfl) ?hpbun2 hS ?_
        case hpbun2 => (intro w hSw; (try dsimp only at hSw); go_split_ands; go_simp; (try with_reducible rfl))
        (try simp only [Act.put, List.setIfInBounds_toArray, List.set_cons_zero, List.set_cons_succ])
        refine any_take 2 ?vpbun3 rfl (by kernel_rfl) (by kernel_rfl) (by kernel_rfl) (fun _ _ _ h => h) (by rfl) ?hpbun3 hS ?_
        case hpbun3 => (intro w hSw; (try dsimp only at hSw); go_split_ands; go_simp; (try with_reducible rfl))
        (try simp only [Act.put, List.setIfInBounds_toArray, List.set_cons_zero, List.set_cons_succ])
        refine any_take 3 ?vpbun4 rfl (by kernel_rfl) (by kernel_rfl) (by kernel_rfl) (fun _ _ _ h => h) (by rfl) ?hpbun4 hS ?_
        case hpbun4 => (intro w hSw; (try dsimp only at hSw); go_split_ands; go_simp; (try with_reducible rfl))
        (try simp only [Act.put, List.setIfInBounds_toArray, List.set_cons_zero, List.set_cons_succ])
        refine any_take 4 ?vpbun5 rfl (by kernel_rfl) (by kernel_rfl) (by kernel_rfl) (fun _ _ _ h => h) (by rfl) ?hpbun5 hS ?_
        case hpbun5 => (intro w hSw; (try dsimp only at hSw); go_split_ands; go_simp; (try with_reducible rfl))
        (try simp only [Act.put, List.setIfInBounds_toArray, List.set_cons_zero, List.set_cons_succ])
        refine any_take 5 ?vpbun6 rfl (by kernel_rfl) (by kernel_rfl) (by kernel_rfl) (fun _ _ _ h => h) (by rfl) ?hpbun6 hS ?_
        case hpbun6 => (intro w hSw; (try dsimp only at hSw); go_split_ands; go_simp; (try with_reducible rfl))
        (try simp only [Act.put, List.setIfInBounds_toArray, List.set_cons_zero, List.set_cons_succ])
        refine any_take 6 ?vpbun7 rfl (by kernel_rfl) (by kernel_rfl) (by kernel_rfl) (fun _ _ _ h => h) (by rfl) ?hpbun7 hS ?_
        case hpbun7 => (intro w hSw; (try dsimp only at hSw); go_split_ands; go_simp; (try with_reducible rfl))
        (try simp only [Act.put, List.setIfInBounds_toArray, List.set_cons_zero, List.set_cons_succ])
        refine any_take 7 (Value.agg #[.bool true, .int .i64 a, .int .i64 b, .int .i64 t]) rfl (by kernel_rfl) (by kernel_rfl) (by kernel_rfl) (fun _ _ _ h => h) (by rfl) (fun U _ => rexec_build 78 _ rfl [(0, .bool true), (1, .agg #[.int .i64 a, .int .i64 b]), (2, .int .i64 t)] _ rfl (dbuildKn a b t U)) hS ?_
        (try simp only [Act.put, List.setIfInBounds_toArray, List.set_cons_zero, List.set_cons_succ])
        refine any_take 8 ?vpbun8 rfl (by kernel_rfl) (by kernel_rfl) (by kernel_rfl) (fun _ _ _ h => h) (by rfl) ?hpbun8 hS ?_
        case hpbun8 => (intro w hSw; (try dsimp only at hSw); go_split_ands; go_simp; (try with_reducible rfl))
        (try simp only [Act.put, List.setIfInBounds_toArray, List.set_cons_zero, List.set_cons_succ])
        refine any_one 9 rfl (by kernel_rfl) (by rfl) (fun K hK => ?_)
        clear hS
        refine op_store_run 78 _ _ rfl _ _ rfl rfl HE.out.1 ?_
        refine hK.out _ _ (HE.out.2.2) (fun hS => ?_)
        clear hK
        (try simp only [Act.put])
        refine wpAnyH_done (by kernel_rfl) ?_ _
        refine NoPanic.normal ?_
        clear hS hS0
        go_wp2
        go_ret
        exact .inr ⟨HQ.out, rfl, HE.out.2.1⟩
    · have HV : Hid (putT v (j : Int) a b t = putK v (j : Int) ⟨a, b, t⟩) := by
        have e1 := HX.out
        rw [HNBd.out hz] at e1
        exact e1
      clear HX HNBd HNCd HNDd KN HP5
      generalize X.e = z at *
      go_upto_region 11 with fail
      have H8 : Hid (Qm w g q v a b p a b w5) := H5.out
      clear H5
      obtain ⟨w9, hrun, hfin⟩ := Qm.fin (H8.out.step (Below.refl _ _).drew) HW.out.1 HW.out.2.2.1 t
      rw [← HV.out] at hfin
      unfold slK at hfin
      rw [HW.out.2.2.2] at hfin
      have HE : Hid ((Instr.storeAt 78 (.pointer (some ⟨q, j * 4, none⟩)) (.agg #[.bool true, .int .i64 a, .int .i64 b, .int .i64 t])).run Try.prog w5.drew = .ok () w9 ∧ (Rd w9 g q (putT v (j : Int) a b t) ∧ Apart (fun k => k = q) w w9) ∧ w9.cell? ⟨g, 11, none⟩ = some (.slice (some ⟨q, 0, none⟩) N N) ∧ w9.cell? ⟨p, 0, none⟩ = some (.int .i64 a) ∧ w9.cell? ⟨p, 1, none⟩ = some (.int .i64 b)) := ⟨hrun, hfin⟩
      have hS0 : w5.drew.cell? ⟨g, 11, none⟩ = some (.slice (some ⟨q, 0, none⟩) N N) ∧ w5.drew.cell? ⟨p, 0, none⟩ = some (.int .i64 a) ∧ w5.drew.cell? ⟨p, 1, none⟩ = some (.int .i64 b) := by
        refine ⟨?_, H8.out.pr.c0, H8.out.pr.c1⟩
        have := H8.out.rd.at'.cell 11 rfl
        unfold slK at this
        rw [HW.out.2.2.2] at this; exact this
      clear hrun hfin H8 HV
      refine wp_region_noPanic ?_
      refine wp_region_held (S := fun V => V.cell? ⟨g, 11, none⟩ = some (.slice (some ⟨q, 0, none⟩) N N) ∧ V.cell? ⟨p, 0, none⟩ = some (.int .i64 a) ∧ V.cell? ⟨p, 1, none⟩ = some (.int .i64 b)) (by kernel_rfl) ?_
      have hS := hS0
      refine any_take 0 ?vpcun1 rfl (by kernel_rfl) (by kernel_rfl) (by kernel_rfl) (fun _ _ _ h => h) (by rfl) ?hpcun1 hS ?_
      case hpcun1 => (intro w hSw; (try dsimp only at hSw); go_split_ands; go_simp; (try with_reducible rfl))
      (try simp only [Act.put, List.setIfInBounds_toArray, List.set_cons_zero, List.set_cons_succ])
      refine any_take 1 ?vpcun2 rfl (by kernel_rfl) (by kernel_rfl) (by kernel_rfl) (fun _ _ _ h => h) (by rfl) ?hpcun2 hS ?_
      case hpcun2 => (intro w hSw; (try dsimp only at hSw); go_split_ands; go_simp; (try with_reducible rfl))
      (try simp only [Act.put, List.setIfInBounds_toArray, List.set_cons_zero, List.set_cons_succ])
      refine any_take 2 ?vpcun3 rfl (by kernel_rfl) (by kernel_rfl) (by kernel_rfl) (fun _ _ _ h => h) (by rfl) ?hpcun3 hS ?_
      case hpcun3 => (intro w hSw; (try dsimp only at hSw); go_split_ands; go_simp; (try with_reducible rfl))
      (try simp only [Act.put, List.setIfInBounds_toArray, List.set_cons_zero, List.set_cons_succ])
      refine any_take 3 ?vpcun4 rfl (by kernel_rfl) (by kernel_rfl) (by kernel_rfl) (fun _ _ _ h => h) (by rfl) ?hpcun4 hS ?_
      case hpcun4 => (intro w hSw; (try dsimp only at hSw); go_split_ands; go_simp; (try with_reducible rfl))
      (try simp only [Act.put, List.setIfInBounds_toArray, List.set_cons_zero, List.set_cons_succ])
      refine any_take 4 ?vpcun5 rfl (by kernel_rfl) (by kernel_rfl) (by kernel_rfl) (fun _ _ _ h => h) (by rfl) ?hpcun5 hS ?_
      case hpcun5 => (intro w hSw; (try dsimp only at hSw); go_split_ands; go_simp; (try with_reducible rfl))
      (try simp only [Act.put, List.setIfInBounds_toArray, List.set_cons_zero, List.set_cons_succ])
      refine any_take 5 ?vpcun6 rfl (by kernel_rfl) (by kernel_rfl) (by kernel_rfl) (fun _ _ _ h => h) (by rfl) ?hpcun6 hS ?_
      case hpcun6 => (intro w hSw; (try dsimp only at hSw); go_split_ands; go_simp; (try with_reducible rfl))
      (try simp only [Act.put, List.setIfInBounds_toArray, List.set_cons_zero, List.set_cons_succ])
      refine any_take 6 ?vpcun7 rfl (by kernel_rfl) (by kernel_rfl) (by kernel_rfl) (fun _ _ _ h => h) (by rfl) ?hpcun7 hS ?_
      case hpcun7 => (intro w hSw; (try dsimp only at hSw); go_split_ands; go_simp; (try with_reducible rfl))
      (try simp only [Act.put, List.setIfInBounds_toArray, List.set_cons_zero, List.set_cons_succ])
      refine any_take 7 (Value.agg #[.bool true, .int .i64 a, .int .i64 b, .int .i64 t]) rfl (by kernel_rfl) (by kernel_rfl) (by kernel_rfl) (fun _ _ _ h => h) (by rfl) (fun U _ => rexec_build 78 _ rfl [(0, .bool true), (1, .agg #[.int .i64 a, .int .i64 b]), (2, .int .i64 t)] _ rfl (dbuildKn a b t U)) hS ?_
      (try simp only [Act.put, List.setIfInBounds_toArray, List.set_cons_zero, List.set_cons_succ])
      refine any_take 8 ?vpcun8 rfl (by kernel_rfl) (by kernel_rfl) (by kernel_rfl) (fun _ _ _ h => h) (by rfl) ?hpcun8 hS ?_
      case hpcun8 => (intro w hSw; (try dsimp only at hSw); go_split_ands; go_simp; (try with_reducible rfl))
      (try simp only [Act.put, List.setIfInBounds_toArray, List.set_cons_zero, List.set_cons_succ])
      refine any_one 9 rfl (by kernel_rfl) (by rfl) (fun K hK => ?_)
      clear hS
      refine op_store_run 78 _ _ rfl _ _ rfl rfl HE.out.1 ?_
      refine hK.out _ _ (HE.out.2.2) (fun hS => ?_)
      clear hK
      (try simp only [Act.put])
      refine wpAnyH_done (by kernel_rfl) ?_ _
      refine NoPanic.normal ?_
      clear hS hS0
      go_wp2
      go_ret
      exact .inr ⟨HQ.out, rfl, HE.out.2.1⟩
  · have hxx : ¬ t < kt := HBI.out.resolve_left (by simp)
    clear HBI
    go_upto_region 6 with fail
    clear q0 q3 c11 x0 x1 hxx H2
    generalize w2.alloc (.cells #[.int .i64 a, .int .i64 b] 39) = w3 at *
    generalize w2.heap.size = p at *
    clear w2
    have ka := KA.out w3 H2b.out.rd
    clear KA
    go_wp2_with fail
    refine ka.mono ?_
    rintro e w4 ⟨rfl, hb4⟩
    have H4 := H2b.out.step hb4
    clear ka hb4 H2b
    go_upto_region 7 with fail
    have H5 : Hid (Qm w g q v a b p a b (w4.alloc (.cells #[.int .i64 X.a, .int .i64 X.b] 39))) := H4.step (Go.Joins.below_alloc1 _ _)
    have HP5 : Hid (Pair (w4.alloc (.cells #[.int .i64 X.a, .int .i64 X.b] 39)) w4.heap.size X.a X.b) := Pair.new _ _ _
    generalize w4.alloc (.cells #[.int .i64 X.a, .int .i64 X.b] 39) = w5 at *
    generalize w4.heap.size = p2 at *
    clear H4 w4
    by_cases hz : X.e = 0
    · have hnc := HNCd.out hz
      have hnd := HNDd.out hz
      clear HNBd HNCd HNDd
      obtain ⟨y0, y1, y2, y3⟩ := HP5.out.facts
      obtain ⟨x0, x1, x2, x3⟩ := H5.out.off.facts
      generalize X.e = z at *
      subst hz
      go_wp2_with fail
      refine (KN.out _).mono ?_
      rintro e w6 ⟨rfl, hb6⟩
      have H6 := H5.out.step hb6
      clear KN hb6 H5 HP5 y0 y1 y2 y3 x0 x1 x2 x3
      go_upto_region 9 with fail
      have H7 : Hid (Qm w g q v a b p a b (w6.alloc (.cells #[.int .i64 Y.a, .int .i64 Y.b] 39))) := H6.step (Go.Joins.below_alloc1 _ _)
      have HP7 : Hid (Pair (w6.alloc (.cells #[.int .i64 Y.a, .int .i64 Y.b] 39)) w6.heap.size Y.a Y.b) := Pair.new _ _ _
      generalize w6.alloc (.cells #[.int .i64 Y.a, .int .i64 Y.b] 39) = w7 at *
      generalize w6.heap.size = p3 at *
      clear H6 w6
      by_cases hz2 : Y.e = 0
      · have HV : Hid (putT v (j : Int) a b t = putK v (j : Int) ⟨Y.a, Y.b, t⟩) := by
          have e1 := HX.out
          rw [hnd hz2] at e1
          exact e1
        clear HX hnc hnd
        generalize Y.e = z2 at *
        subst hz2
        obtain ⟨y0, y1, y2, y3⟩ := HP7.out.facts
        obtain ⟨x0, x1, x2, x3⟩ := H7.out.pr.facts
        go_upto_region 11 with fail
        obtain ⟨w8, hw8⟩ : ∃ W, W = (w7.setCell ⟨p, 0, none⟩ (.int .i64 Y.a)).setCell ⟨p, 1, none⟩ (.int .i64 Y.b) := ⟨_, rfl⟩
        have H8 : Hid (Qm w g q v a b p Y.a Y.b w8) := by rw [hw8]; exact H7.out.set HW.out.1 _ _
        rw [← hw8]
        clear hw8 H7 HP7 y0 y1 y2 y3 x0 x1 x2 x3
        generalize Y.a = A at *
        generalize Y.b = B at *
        obtain ⟨w9, hrun, hfin⟩ := Qm.fin (H8.out.step (Below.refl _ _).drew) HW.out.1 HW.out.2.2.1 t
        rw [← HV.out] at hfin
        unfold slK at hfin
        rw [HW.out.2.2.2] at hfin
        have HE : Hid ((Instr.storeAt 78 (.pointer (some ⟨q, j * 4, none⟩)) (.agg #[.bool true, .int .i64 A, .int .i64 B, .int .i64 t])).run Try.prog w8.drew = .ok () w9 ∧ (Rd w9 g q (putT v (j : Int) a b t) ∧ Apart (fun k => k = q) w w9) ∧ w9.cell? ⟨g, 11, none⟩ = some (.slice (some ⟨q, 0, none⟩) N N) ∧ w9.cell? ⟨p, 0, none⟩ = some (.int .i64 A) ∧ w9.cell? ⟨p, 1, none⟩ = some (.int .i64 B)) := ⟨hrun, hfin⟩
        have hS0 : w8.drew.cell? ⟨g, 11, none⟩ = some (.slice (some ⟨q, 0, none⟩) N N) ∧ w8.drew.cell? ⟨p, 0, none⟩ = some (.int .i64 A) ∧ w8.drew.cell? ⟨p, 1, none⟩ = some (.int .i64 B) := by
          refine ⟨?_, H8.out.pr.c0, H8.out.pr.c1⟩
          have := H8.out.rd.at'.cell 11 rfl
          unfold slK at this
          rw [HW.out.2.2.2] at this; exact this
        clear hrun hfin H8 HV
        refine wp_region_noPanic ?_
        refine wp_region_held (S := fun V => V.cell? ⟨g, 11, none⟩ = some (.slice (some ⟨q, 0, none⟩) N N) ∧ V.cell? ⟨p, 0, none⟩ = some (.int .i64 A) ∧ V.cell? ⟨p, 1, none⟩ = some (.int .i64 B)) (by kernel_rfl) ?_
        have hS := hS0
        refine any_take 0 ?vpavn1 rfl (by kernel_rfl) (by kernel_rfl) (by kernel_rfl) (fun _ _ _ h => h) (by rfl) ?hpavn1 hS ?_
        case hpavn1 => (intro w hSw; (try dsimp only at hSw); go_split_ands; go_simp; (try with_reducible rfl))
        (try simp only [Act.put, List.setIfInBounds_toArray, List.set_cons_zero, List.set_cons_succ])
        refine any_take 1 ?vpavn2 rfl (by kernel_rfl) (by kernel_rfl) (by kernel_rfl) (fun _ _ _ h => h) (by rfl) ?hpavn2 hS ?_
        case hpavn2 => (intro w hSw; (try dsimp only at hSw); go_split_ands; go_simp; (try with_reducible rfl))
        (try simp only [Act.put, List.setIfInBounds_toArray, List.set_cons_zero, List.set_cons_succ])
        refine any_take 2 ?vpavn3 rfl (by kernel_rfl) (by kernel_rfl) (by kernel_rfl) (fun _ _ _ h => h) (by rfl) ?hpavn3 hS ?_
        case hpavn3 => (intro w hSw; (try dsimp only at hSw); go_split_ands; go_simp; (try with_reducible rfl))
        (try simp only [Act.put, List.setIfInBounds_toArray, List.set_cons_zero, List.set_cons_succ])
        refine any_take 3 ?vpavn4 rfl (by kernel_rfl) (by kernel_rfl) (by kernel_rfl) (fun _ _ _ h => h) (by rfl) ?hpavn4 hS ?_
        case hpavn4 => (intro w hSw; (try dsimp only at hSw); go_split_ands; go_simp; (try with_reducible rfl))
        (try simp only [Act.put, List.setIfInBounds_toArray, List.set_cons_zero, List.set_cons_succ])
        refine any_take 4 ?vpavn5 rfl (by kernel_rfl) (by kernel_rfl) (by kernel_rfl) (fun _ _ _ h => h) (by rfl) ?hpavn5 hS ?_
        case hpavn5 => (intro w hSw; (try dsimp only at hSw); go_split_ands; go_simp; (try with_reducible rfl))
        (try simp only [Act.put, List.setIfInBounds_toArray, List.set_cons_zero, List.set_cons_succ])
        refine any_take 5 ?vpavn6 rfl (by kernel_rfl) (by kernel_rfl) (by kernel_rfl) (fun _ _ _ h => h) (by rfl) ?hpavn6 hS ?_
        case hpavn6 => (intro w hSw; (try dsimp only at hSw); go_split_ands; go_simp; (try with_reducible rfl))
        (try simp only [Act.put, List.setIfInBounds_toArray, List.set_cons_zero, List.set_cons_succ])
        refine any_take 6 ?vpavn7 rfl (by kernel_rfl) (by kernel_rfl) (by kernel_rfl) (fun _ _ _ h => h) (by rfl) ?hpavn7 hS ?_
        case hpavn7 => (intro w hSw; (try dsimp only at hSw); go_split_ands; go_simp; (try with_reducible rfl))
        (try simp only [Act.put, List.setIfInBounds_toArray, List.set_cons_zero, List.set_cons_succ])
        refine any_take 7 (Value.agg #[.bool true, .int .i64 A, .int .i64 B, .int .i64 t]) rfl (by kernel_rfl) (by kernel_rfl) (by kernel_rfl) (fun _ _ _ h => h) (by rfl) (fun U _ => rexec_build 78 _ rfl [(0, .bool true), (1, .agg #[.int .i64 A, .int .i64 B]), (2, .int .i64 t)] _ rfl (dbuildKn A B t U)) hS ?_
        (try simp only [Act.put, List.setIfInBounds_toArray, List.set_cons_zero, List.set_cons_succ])
        refine any_take 8 ?vpavn8 rfl (by kernel_rfl) (by kernel_rfl) (by kernel_rfl) (fun _ _ _ h => h) (by rfl) ?hpavn8 hS ?_
        case hpavn8 => (intro w hSw; (try dsimp only at hSw); go_split_ands; go_simp; (try with_reducible rfl))
        (try simp only [Act.put, List.setIfInBounds_toArray, List.set_cons_zero, List.set_cons_succ])
        refine any_one 9 rfl (by kernel_rfl) (by rfl) (fun K hK => ?_)
        clear hS
        refine op_store_run 78 _ _ rfl _ _ rfl rfl HE.out.1 ?_
        refine hK.out _ _ (HE.out.2.2) (fun hS => ?_)
        clear hK
        (try simp only [Act.put])
        refine wpAnyH_done (by kernel_rfl) ?_ _
        refine NoPanic.normal ?_
        clear hS hS0
        go_wp2
        go_ret
        exact .inr ⟨HQ.out, rfl, HE.out.2.1⟩
      · have HV : Hid (putT v (j : Int) a b t = putK v (j : Int) ⟨a, b, t⟩) := by
          have e1 := HX.out
          rw [hnc hz2] at e1
          exact e1
        clear HX hnc hnd HP7
        generalize Y.e = z2 at *
        go_upto_region 11 with fail
        have H8 : Hid (Qm w g q v a b p a b w7) := H7.out
        clear H7
        obtain ⟨w9, hrun, hfin⟩ := Qm.fin (H8.out.step (Below.refl _ _).drew) HW.out.1 HW.out.2.2.1 t
        rw [← HV.out] at hfin
        unfold slK at hfin
        rw [HW.out.2.2.2] at hfin
        have HE : Hid ((Instr.storeAt 78 (.pointer (some ⟨q, j * 4, none⟩)) (.agg #[.bool true, .int .i64 a, .int .i64 b, .int .i64 t])).run Try.prog w7.drew = .ok () w9 ∧ (Rd w9 g q (putT v (j : Int) a b t) ∧ Apart (fun k => k = q) w w9) ∧ w9.cell? ⟨g, 11, none⟩ = some (.slice (some ⟨q, 0, none⟩) N N) ∧ w9.cell? ⟨p, 0, none⟩ = some (.int .i64 a) ∧ w9.cell? ⟨p, 1, none⟩ = some (.int .i64 b)) := ⟨hrun, hfin⟩
        have hS0 : w7.drew.cell? ⟨g, 11, none⟩ = some (.slice (some ⟨q, 0, none⟩) N N) ∧ w7.drew.cell? ⟨p, 0, none⟩ = some (.int .i64 a) ∧ w7.drew.cell? ⟨p, 1, none⟩ = some (.int .i64 b) := by
          refine ⟨?_, H8.out.pr.c0, H8.out.pr.c1⟩
          have := H8.out.rd.at'.cell 11 rfl
          unfold slK at this
          rw [HW.out.2.2.2] at this; exact this
        clear hrun hfin H8 HV
        refine wp_region_noPanic ?_
        refine wp_region_held (S := fun V => V.cell? ⟨g, 11, none⟩ = some (.slice (some ⟨q, 0, none⟩) N N) ∧ V.cell? ⟨p, 0, none⟩ = some (.int .i64 a) ∧ V.cell? ⟨p, 1, none⟩ = some (.int .i64 b)) (by kernel_rfl) ?_
        have hS := hS0
        refine any_take 0 ?vpbvn1 rfl (by kernel_rfl) (by kernel_rfl) (by kernel_rfl) (fun _ _ _ h => h) (by rfl) ?hpbvn1 hS ?_
        case hpbvn1 => (intro w hSw; (try dsimp only at hSw); go_split_ands; go_simp; (try with_reducible rfl))
        (try simp only [Act.put, List.setIfInBounds_toArray, List.set_cons_zero, List.set_cons_succ])
        refine any_take 1 ?vpbvn2 rfl (by kernel_rfl) (by kernel_rfl) (by kernel_rfl) (fun _ _ _ h => h) (by rfl) ?hpbvn2 hS ?_
        case hpbvn2 => (intro w hSw; (try dsimp only at hSw); go_split_ands; go_simp; (try with_reducible rfl))
        (try simp only [Act.put, List.setIfInBounds_toArray, List.set_cons_zero, List.set_cons_succ])
        refine any_take 2 ?vpbvn3 rfl (by kernel_rfl) (by kernel_rfl) (by kernel_rfl) (fun _ _ _ h => h) (by rfl) ?hpbvn3 hS ?_
        case hpbvn3 => (intro w hSw; (try dsimp only at hSw); go_split_ands; go_simp; (try with_reducible rfl))
        (try simp only [Act.put, List.setIfInBounds_toArray, List.set_cons_zero, List.set_cons_succ])
        refine any_take 3 ?vpbvn4 rfl (by kernel_rfl) (by kernel_rfl) (by kernel_rfl) (fun _ _ _ h => h) (by rfl) ?hpbvn4 hS ?_
        case hpbvn4 => (intro w hSw; (try dsimp only at hSw); go_split_ands; go_simp; (try with_reducible rfl))
        (try simp only [Act.put, List.setIfInBounds_toArray, List.set_cons_zero, List.set_cons_succ])
        refine any_take 4 ?vpbvn5 rfl (by kernel_rfl) (by kernel_rfl) (by kernel_rfl) (fun _ _ _ h => h) (by rfl) ?hpbvn5 hS ?_
        case hpbvn5 => (intro w hSw; (try dsimp only at hSw); go_split_ands; go_simp; (try with_reducible rfl))
        (try simp only [Act.put, List.setIfInBounds_toArray, List.set_cons_zero, List.set_cons_succ])
        refine any_take 5 ?vpbvn6 rfl (by kernel_rfl) (by kernel_rfl) (by kernel_rfl) (fun _ _ _ h => h) (by rfl) ?hpbvn6 hS ?_
        case hpbvn6 => (intro w hSw; (try dsimp only at hSw); go_split_ands; go_simp; (try with_reducible rfl))
        (try simp only [Act.put, List.setIfInBounds_toArray, List.set_cons_zero, List.set_cons_succ])
        refine any_take 6 ?vpbvn7 rfl (by kernel_rfl) (by kernel_rfl) (by kernel_rfl) (fun _ _ _ h => h) (by rfl) ?hpbvn7 hS ?_
        case hpbvn7 => (intro w hSw; (try dsimp only at hSw); go_split_ands; go_simp; (try with_reducible rfl))
        (try simp only [Act.put, List.setIfInBounds_toArray, List.set_cons_zero, List.set_cons_succ])
        refine any_take 7 (Value.agg #[.bool true, .int .i64 a, .int .i64 b, .int .i64 t]) rfl (by kernel_rfl) (by kernel_rfl) (by kernel_rfl) (fun _ _ _ h => h) (by rfl) (fun U _ => rexec_build 78 _ rfl [(0, .bool true), (1, .agg #[.int .i64 a, .int .i64 b]), (2, .int .i64 t)] _ rfl (dbuildKn a b t U)) hS ?_
        (try simp only [Act.put, List.setIfInBounds_toArray, List.set_cons_zero, List.set_cons_succ])
        refine any_take 8 ?vpbvn8 rfl (by kernel_rfl) (by kernel_rfl) (by kernel_rfl) (fun _ _ _ h => h) (by rfl) ?hpbvn8 hS ?_
        case hpbvn8 => (intro w hSw; (try dsimp only at hSw); go_split_ands; go_simp; (try with_reducible rfl))
        (try simp only [Act.put, List.setIfInBounds_toArray, List.set_cons_zero, List.set_cons_succ])
        refine any_one 9 rfl (by kernel_rfl) (by rfl) (fun K hK => ?_)
        clear hS
        refine op_store_run 78 _ _ rfl _ _ rfl rfl HE.out.1 ?_
        refine hK.out _ _ (HE.out.2.2) (fun hS => ?_)
        clear hK
        (try simp only [Act.put])
        refine wpAnyH_done (by kernel_rfl) ?_ _
        refine NoPanic.normal ?_
        clear hS hS0
        go_wp2
        go_ret
        exact .inr ⟨HQ.out, rfl, HE.out.2.1⟩
    · have HV : Hid (putT v (j : Int) a b t = putK v (j : Int) ⟨a, b, t⟩) := by
        have e1 := HX.out
        rw [HNBd.out hz] at e1
        exact e1
      clear HX HNBd HNCd HNDd KN HP5
      generalize X.e = z at *
      go_upto_region 11 with fail
      have H8 : Hid (Qm w g q v a b p a b w5) := H5.out
      clear H5
      obtain ⟨w9, hrun, hfin⟩ := Qm.fin (H8.out.step (Below.refl _ _).drew) HW.out.1 HW.out.2.2.1 t
      rw [← HV.out] at hfin
      unfold slK at hfin
      rw [HW.out.2.2.2] at hfin
      have HE : Hid ((Instr.storeAt 78 (.pointer (some ⟨q, j * 4, none⟩)) (.agg #[.bool true, .int .i64 a, .int .i64 b, .int .i64 t])).run Try.prog w5.drew = .ok () w9 ∧ (Rd w9 g q (putT v (j : Int) a b t) ∧ Apart (fun k => k = q) w w9) ∧ w9.cell? ⟨g, 11, none⟩ = some (.slice (some ⟨q, 0, none⟩) N N) ∧ w9.cell? ⟨p, 0, none⟩ = some (.int .i64 a) ∧ w9.cell? ⟨p, 1, none⟩ = some (.int .i64 b)) := ⟨hrun, hfin⟩
      have hS0 : w5.drew.cell? ⟨g, 11, none⟩ = some (.slice (some ⟨q, 0, none⟩) N N) ∧ w5.drew.cell? ⟨p, 0, none⟩ = some (.int .i64 a) ∧ w5.drew.cell? ⟨p, 1, none⟩ = some (.int .i64 b) := by
        refine ⟨?_, H8.out.pr.c0, H8.out.pr.c1⟩
        have := H8.out.rd.at'.cell 11 rfl
        unfold slK at this
        rw [HW.out.2.2.2] at this; exact this
      clear hrun hfin H8 HV
      refine wp_region_noPanic ?_
      refine wp_region_held (S := fun V => V.cell? ⟨g, 11, none⟩ = some (.slice (some ⟨q, 0, none⟩) N N) ∧ V.cell? ⟨p, 0, none⟩ = some (.int .i64 a) ∧ V.cell? ⟨p, 1, none⟩ = some (.int .i64 b)) (by kernel_rfl) ?_
      have hS := hS0
      refine any_take 0 ?vpcvn1 rfl (by kernel_rfl) (by kernel_rfl) (by kernel_rfl) (fun _ _ _ h => h) (by rfl) ?hpcvn1 hS ?_
      case hpcvn1 => (intro w hSw; (try dsimp only at hSw); go_split_ands; go_simp; (try with_reducible rfl))
      (try simp only [Act.put, List.setIfInBounds_toArray, List.set_cons_zero, List.set_cons_succ])
      refine any_take 1 ?vpcvn2 rfl (by kernel_rfl) (by kernel_rfl) (by kernel_rfl) (fun _ _ _ h => h) (by rfl) ?hpcvn2 hS ?_
      case hpcvn2 => (intro w hSw; (try dsimp only at hSw); go_split_ands; go_simp; (try with_reducible rfl))
      (try simp only [Act.put, List.setIfInBounds_toArray, List.set_cons_zero, List.set_cons_succ])
      refine any_take 2 ?vpcvn3 rfl (by kernel_rfl) (by kernel_rfl) (by kernel_rfl) (fun _ _ _ h => h) (by rfl) ?hpcvn3 hS ?_
      case hpcvn3 => (intro w hSw; (try dsimp only at hSw); go_split_ands; go_simp; (try with_reducible rfl))
      (try simp only [Act.put, List.setIfInBounds_toArray, List.set_cons_zero, List.set_cons_succ])
      refine any_take 3 ?vpcvn4 rfl (by kernel_rfl) (by kernel_rfl) (by kernel_rfl) (fun _ _ _ h => h) (by rfl) ?hpcvn4 hS ?_
      case hpcvn4 => (intro w hSw; (try dsimp only at hSw); go_split_ands; go_simp; (try with_reducible rfl))
      (try simp only [Act.put, List.setIfInBounds_toArray, List.set_cons_zero, List.set_cons_succ])
      refine any_take 4 ?vpcvn5 rfl (by kernel_rfl) (by kernel_rfl) (by kernel_rfl) (fun _ _ _ h => h) (by rfl) ?hpcvn5 hS ?_
      case hpcvn5 => (intro w hSw; (try dsimp only at hSw); go_split_ands; go_simp; (try with_reducible rfl))
      (try simp only [Act.put, List.setIfInBounds_toArray, List.set_cons_zero, List.set_cons_succ])
      refine any_take 5 ?vpcvn6 rfl (by kernel_rfl) (by kernel_rfl) (by kernel_rfl) (fun _ _ _ h => h) (by rfl) ?hpcvn6 hS ?_
      case hpcvn6 => (intro w hSw; (try dsimp only at hSw); go_split_ands; go_simp; (try with_reducible rfl))
      (try simp only [Act.put, List.setIfInBounds_toArray, List.set_cons_zero, List.set_cons_succ])
      refine any_take 6 ?vpcvn7 rfl (by kernel_rfl) (by kernel_rfl) (by kernel_rfl) (fun _ _ _ h => h) (by rfl) ?hpcvn7 hS ?_
      case hpcvn7 => (intro w hSw; (try dsimp only at hSw); go_split_ands; go_simp; (try with_reducible rfl))
      (try simp only [Act.put, List.setIfInBounds_toArray, List.set_cons_zero, List.set_cons_succ])
      refine any_take 7 (Value.agg #[.bool true, .int .i64 a, .int .i64 b, .int .i64 t]) rfl (by kernel_rfl) (by kernel_rfl) (by kernel_rfl) (fun _ _ _ h => h) (by rfl) (fun U _ => rexec_build 78 _ rfl [(0, .bool true), (1, .agg #[.int .i64 a, .int .i64 b]), (2, .int .i64 t)] _ rfl (dbuildKn a b t U)) hS ?_
      (try simp only [Act.put, List.setIfInBounds_toArray, List.set_cons_zero, List.set_cons_succ])
      refine any_take 8 ?vpcvn8 rfl (by kernel_rfl) (by kernel_rfl) (by kernel_rfl) (fun _ _ _ h => h) (by rfl) ?hpcvn8 hS ?_
      case hpcvn8 => (intro w hSw; (try dsimp only at hSw); go_split_ands; go_simp; (try with_reducible rfl))
      (try simp only [Act.put, List.setIfInBounds_toArray, List.set_cons_zero, List.set_cons_succ])
      refine any_one 9 rfl (by kernel_rfl) (by rfl) (fun K hK => ?_)
      clear hS
      refine op_store_run 78 _ _ rfl _ _ rfl rfl HE.out.1 ?_
      refine hK.out _ _ (HE.out.2.2) (fun hS => ?_)
      clear hK
      (try simp only [Act.put])
      refine wpAnyH_done (by kernel_rfl) ?_ _
      refine NoPanic.normal ?_
      clear hS hS0
      go_wp2
      go_ret
      exact .inr ⟨HQ.out, rfl, HE.out.2.1⟩

/-- Put, whatever is put. -/
theorem dput_ok (w : World) (g q : Nat) (v : Bt) (h : Rd w g q v) (ok : v.ok) (f a b t : Int) :
    Calls Try.prog 13 #[.pointer (some ⟨g, 0, none⟩), .int .i64 f, .agg #[.int .i64 a, .int .i64 b], .int .i64 t] w fun e w' => e = .returned (.int .i64 (putE v f a b t)) ∧ Rd w' g q (putV v f a b t) ∧ Apart (fun k => k = q) w w' := by
  by_cases hb : otherB v f = true ∧ rightB a b = true ∧ timeB t = true
  · have hm : mayF v f t = true := by rw [mayF, hb.1, hb.2.2]; rfl
    refine (dput_may w g q v h ok f a b t hm hb.2.1).mono ?_
    rintro e w' (⟨h1, h2, h3⟩ | ⟨h1, h2, h3⟩)
    · have he : putE v f a b t = 10 := by rw [putE, if_pos hb, if_pos h1]
      rw [putV, he, if_neg (by decide)]
      exact ⟨h2, h.below h3, Apart.of_below h3⟩
    · have he : putE v f a b t = 0 := by rw [putE, if_pos hb, if_neg (by rw [h1]; simp)]
      rw [putV, he, if_pos rfl]
      exact ⟨h2, h3⟩
  · have he : putE v f a b t = 1 := by rw [putE, if_neg hb]
    refine (dput_bad w g q v h f a b t he).mono ?_
    rintro e w' ⟨h2, h3⟩
    rw [putV, he, if_neg (by decide)]
    exact ⟨h2, h.below h3, Apart.of_below h3⟩
end Go.Proofs.Ytoibndfiolipbaa
