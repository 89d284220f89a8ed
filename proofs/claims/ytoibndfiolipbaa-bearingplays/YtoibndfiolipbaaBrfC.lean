/-
  The contract of the document's At.
-/
import Derived.Test.YtoibndfiolipbaaBrfB
import Derived.Test.YtoibndfiolipbaaBrgC
namespace Go.Proofs.Ytoibndfiolipbaa
open Go.ChangeShapes Go.WideShapes Go.ChangeAt Go.RowKit
set_option maxRecDepth 20000

/-- What is known, in a block of its own. -/
def KdAt (w : World) (b : Nat) (k : Option Kw) : Prop := w.heap[b]? = some (.cells (kdC k).toArray 78 (0, 0))
theorem KdAt.cell {w : World} {b : Nat} {k : Option Kw} (h : KdAt w b k) (i : Nat) {u : Value} (hu : (kdC k)[i]? = some u) : w.cell? ⟨b, i, none⟩ = some u := by
  rw [cell_of_row w _ i _ _ _ h]; simpa using hu
theorem KdAt.lt {w : World} {b : Nat} {k : Option Kw} (h : KdAt w b k) : b < w.heap.size := (Array.getElem?_eq_some_iff.1 h).1
theorem KdAt.below {w w' : World} {b : Nat} {k : Option Kw} (h : KdAt w b k) (hb : Below w.heap.size w w') : KdAt w' b k := (hb.block b h.lt).trans h
theorem KdAt.new (w : World) (k : Option Kw) : KdAt (w.alloc (.cells (kdC k).toArray 78)) w.heap.size k := heap_alloc_new _ _

/-- At, under way: the table, and room for the answer. -/
structure Dm (w : World) (g q : Nat) (v : Bt) (W : World) : Prop where
  rd : Rd W g q v
  pr : Pair W w.heap.size 0 0
  bel : Below w.heap.size w W
theorem Dm.new {w : World} {g q : Nat} {v : Bt} (h : Rd w g q v) : Dm w g q v (w.alloc (.cells #[.int .i64 0, .int .i64 0] 39)) := ⟨h.below (Go.Joins.below_alloc1 _ _), Pair.new _ _ _, Go.Joins.below_alloc1 _ _⟩
theorem Dm.step {w W V : World} {g q : Nat} {v : Bt} (h : Dm w g q v W) (hb : Below W.heap.size W V) : Dm w g q v V := ⟨h.rd.below hb, h.pr.below hb, h.bel.trans (hb.mono h.bel.size)⟩
theorem Dm.drew {w W : World} {g q : Nat} {v : Bt} (h : Dm w g q v W) : Dm w g q v W.drew := ⟨h.rd.drew, h.pr, h.bel.drew⟩
theorem Dm.fin {w W : World} {g q : Nat} {v : Bt} (h : Dm w g q v W) : (W.cell? ⟨w.heap.size, 0, none⟩ = some (.int .i64 0) ∧ W.cell? ⟨w.heap.size, 1, none⟩ = some (.int .i64 0) ∧ W.frozen? ⟨w.heap.size, 0, none⟩ = false ∧ W.frozen? ⟨w.heap.size, 1, none⟩ = false) ∧
    ∀ x y, Pair ((W.setCell ⟨w.heap.size, 0, none⟩ (.int .i64 x)).setCell ⟨w.heap.size, 1, none⟩ (.int .i64 y)) w.heap.size x y ∧ Below w.heap.size w ((W.setCell ⟨w.heap.size, 0, none⟩ (.int .i64 x)).setCell ⟨w.heap.size, 1, none⟩ (.int .i64 y)) :=
  ⟨h.pr.facts, fun x y => ⟨h.pr.set x y, below_pair h.bel (Nat.le_refl _) _ _⟩⟩
/-- A region of At that draws. -/
def Dh (w : World) (g q : Nat) (v : Bt) (b : Nat) (k : Kw) (W : World) : Prop :=
  (W.cell? ⟨b, 0, none⟩ = some (.bool true) ∧ W.cell? ⟨b, 1, none⟩ = some (.int .i64 k.a) ∧ W.cell? ⟨b, 2, none⟩ = some (.int .i64 k.b) ∧ W.cell? ⟨b, 3, none⟩ = some (.int .i64 k.t) ∧ W.cell? ⟨g, 7, none⟩ = some (.int .i64 v.c.r) ∧ W.cell? ⟨g, 8, none⟩ = some (.int .i64 v.c.l) ∧ (Instr.loadAt 23 (.pointer (some ⟨g, 0, none⟩))).run Try.prog W = .ok (.agg (cfC v.c)) W) ∧ Dm w g q v W ∧ KdAt W b (some k)
theorem Dh.mk' {w W : World} {g q : Nat} {v : Bt} {b : Nat} {k : Kw} (h : Dm w g q v W) (hk : KdAt W b (some k)) : Dh w g q v b k W :=
  ⟨⟨hk.cell 0 rfl, hk.cell 1 rfl, hk.cell 2 rfl, hk.cell 3 rfl, h.rd.at'.cell 7 rfl, h.rd.at'.cell 8 rfl, h.rd.at'.loads⟩, h, hk⟩
theorem Dh.drew {w W : World} {g q : Nat} {v : Bt} {b : Nat} {k : Kw} (h : Dh w g q v b k W) : Dh w g q v b k W.drew := Dh.mk' h.2.1.drew h.2.2
theorem Dh.step {w W V : World} {g q : Nat} {v : Bt} {b : Nat} {k : Kw} (h : Dh w g q v b k W) (hb : Below W.heap.size W V) : Dh w g q v b k V := Dh.mk' (h.2.1.step hb) (h.2.2.below hb)
theorem Dh.store {w V : World} {g q : Nat} {v : Bt} {b p : Nat} {k : Kw} (h : Dh w g q v b k V) (hN : ∃ W0, Dh w g q v b k W0 ∧ W0.heap.size ≤ p) (cs : Array Value) : Dh w g q v b k (V.setRow p cs) := by
  obtain ⟨W0, h0, hp⟩ := hN
  have l1 := h0.2.1.rd.at'.lt
  have l2 := h0.2.1.rd.row.lt
  have l3 := h0.2.1.pr.lt
  have l4 := h0.2.2.lt
  refine Dh.mk' ⟨h.2.1.rd.keep fun k hk => ?_, ?_, below_setRow h.2.1.bel (by omega) _⟩ ?_
  · rw [setRow_other _ _ _ _ (by rcases hk with rfl | rfl <;> omega)]
  · show (V.setRow p cs).heap[w.heap.size]? = _
    rw [setRow_other _ _ _ _ (by omega)]; exact h.2.1.pr
  · show (V.setRow p cs).heap[b]? = _
    rw [setRow_other _ _ _ _ (by omega)]; exact h.2.2
theorem rgrow_fact (a b G D : Int) : ∀ W, Calls Try.prog 40 #[.agg #[.int .i64 a, .int .i64 b], .int .i64 G, .int .i64 D] W fun e w' => e = .returned (.tuple #[.agg #[.int .i64 (grwA a b G D).a, .int .i64 (grwA a b G D).b], .int .i64 (grwA a b G D).e]) ∧ Below W.heap.size W w' := fun W => by
  have := refgrow_ok W a b G D
  rw [grw_eq] at this
  exact this

set_option maxHeartbeats 1600000 in
theorem dat_bad (w : World) (g q : Nat) (v : Bt) (h : Rd w g q v) (f t : Int) (hf : mayF v f t = false) :
    Calls Try.prog 15 #[.pointer (some ⟨g, 0, none⟩), .int .i64 f, .int .i64 t] w fun e w' => e = .returned (.tuple #[.agg #[.int .i64 0, .int .i64 0], .int .i64 1]) ∧ Below w.heap.size w w' := by
  have HA : Hid (Dm w g q v (w.alloc (.cells #[.int .i64 0, .int .i64 0] 39))) := Dm.new h
  have KM := dmay_ok _ g v _ HA.out.rd.at' f t
  rw [hf] at KM
  obtain ⟨⟨x0, x1, x2, x3⟩, hfin⟩ := HA.out.fin
  have HF : Hid (∀ x y, Pair (((w.alloc (.cells #[.int .i64 0, .int .i64 0] 39)).setCell ⟨w.heap.size, 0, none⟩ (.int .i64 x)).setCell ⟨w.heap.size, 1, none⟩ (.int .i64 y)) w.heap.size x y ∧ Below w.heap.size w (((w.alloc (.cells #[.int .i64 0, .int .i64 0] 39)).setCell ⟨w.heap.size, 0, none⟩ (.int .i64 x)).setCell ⟨w.heap.size, 1, none⟩ (.int .i64 y))) := hfin
  clear hfin h hf HA
  go_enter Try.func15, Try.ntmps15
  go_wp2_with fail
  generalize w.alloc (.cells #[.int .i64 0, .int .i64 0] 39) = W at *
  refine KM.mono ?_
  rintro e w1 ⟨rfl, rfl⟩
  clear KM
  go_wp2
  refine bodyPost_ret (res_pair_tmp rfl rfl (HF.out 0 0).1) rfl ?_
  exact ⟨rfl, (HF.out 0 0).2⟩

set_option maxHeartbeats 1600000 in
theorem dat_none (w : World) (g q : Nat) (v : Bt) (h : Rd w g q v) (ok : v.ok) (f t : Int) (hf : mayF v f t = true) (hk : v.K f = none) :
    Calls Try.prog 15 #[.pointer (some ⟨g, 0, none⟩), .int .i64 f, .int .i64 t] w fun e w' => e = .returned (.tuple #[.agg #[.int .i64 0, .int .i64 0], .int .i64 6]) ∧ Below w.heap.size w w' := by
  have HA : Hid (Dm w g q v (w.alloc (.cells #[.int .i64 0, .int .i64 0] 39))) := Dm.new h
  have KM := dmay_ok _ g v _ HA.out.rd.at' f t
  rw [hf] at KM
  have hin := other_in (mayF_in hf).1
  obtain ⟨N, hN⟩ : ∃ N : Nat, v.c.n = (N : Int) := ⟨v.c.n.toNat, by have := (right_of ok.r).n0; omega⟩
  obtain ⟨j, rfl⟩ : ∃ j : Nat, f = (j : Int) := ⟨f.toNat, by omega⟩
  have hnt : v.c.n.toNat = N := by rw [hN]; rfl
  have hjN : j < v.c.n.toNat := by omega
  have hld := HA.out.rd.row.loads (rowK_get v hjN)
  have c11 : (w.alloc (.cells #[.int .i64 0, .int .i64 0] 39)).cell? ⟨g, 11, none⟩ = some (.slice (some ⟨q, 0, none⟩) N N) := by
    have := HA.out.rd.at'.cell 11 rfl
    unfold slK at this
    rw [hnt] at this; exact this
  have g1 : (j : Int) < (N : Int) := by omega
  have g3 : (0 : Int) ≤ (j : Int) := Int.natCast_nonneg _
  clear hin hN hnt hjN
  rw [hk] at hld
  have HLd : Hid ((Instr.loadAt 78 (.pointer (some ⟨q, j * 4, none⟩))).run Try.prog (w.alloc (.cells #[.int .i64 0, .int .i64 0] 39)) = .ok (.agg #[.bool false, .int .i64 0, .int .i64 0, .int .i64 0]) (w.alloc (.cells #[.int .i64 0, .int .i64 0] 39))) := hld
  have HK : Hid (KdAt ((w.alloc (.cells #[.int .i64 0, .int .i64 0] 39)).alloc (.cells #[.bool false, .int .i64 0, .int .i64 0, .int .i64 0] 78)) (w.alloc (.cells #[.int .i64 0, .int .i64 0] 39)).heap.size none ∧ Dm w g q v ((w.alloc (.cells #[.int .i64 0, .int .i64 0] 39)).alloc (.cells #[.bool false, .int .i64 0, .int .i64 0, .int .i64 0] 78))) := ⟨KdAt.new _ none, HA.out.step (Go.Joins.below_alloc1 _ _)⟩
  clear hld hk hf ok h HA
  go_enter Try.func15, Try.ntmps15
  go_wp2_with fail
  obtain ⟨W0, hW0⟩ : ∃ W, W = w.alloc (.cells #[.int .i64 0, .int .i64 0] 39) := ⟨_, rfl⟩
  rw [← hW0] at KM c11 HLd HK ⊢
  clear hW0
  refine KM.mono ?_
  rintro e w1 ⟨rfl, rfl⟩
  clear KM
  go_wp2_with (first | (refine wpList_gload_run rfl 78 _ rfl _ _ rfl HLd.out ?_) | fail)
  go_upto_region 4 with fail
  obtain ⟨W, hW⟩ : ∃ W, W = w1.alloc (.cells #[.bool false, .int .i64 0, .int .i64 0, .int .i64 0] 78) := ⟨_, rfl⟩
  generalize hb : w1.heap.size = b at *
  rw [← hW] at HK ⊢
  have hS0 : W.drew.cell? ⟨b, 0, none⟩ = some (.bool false) := HK.out.1.cell 0 rfl
  clear hW hb HLd c11
  refine wp_region_noPanic ?_
  refine wp_region_held (S := fun V => V.cell? ⟨b, 0, none⟩ = some (.bool false)) (by kernel_rfl) ?_
  have hS := hS0
  refine any_take 0 ?vran1 rfl (by kernel_rfl) (by kernel_rfl) (by kernel_rfl) (fun _ _ _ h => h) (by rfl) ?hran1 hS ?_
  case hran1 => (intro w hSw; (try dsimp only at hSw); go_split_ands; go_simp; (try with_reducible rfl))
  (try simp only [Act.put, List.setIfInBounds_toArray, List.set_cons_zero, List.set_cons_succ])
  refine any_take 1 ?vran2 rfl (by kernel_rfl) (by kernel_rfl) (by kernel_rfl) (fun _ _ _ h => h) (by rfl) ?hran2 hS ?_
  case hran2 => (intro w hSw; (try dsimp only at hSw); go_split_ands; go_simp; (try with_reducible rfl))
  (try simp only [Act.put, List.setIfInBounds_toArray, List.set_cons_zero, List.set_cons_succ])
  refine any_take 2 ?vran3 rfl (by kernel_rfl) (by kernel_rfl) (by kernel_rfl) (fun _ _ _ h => h) (by rfl) ?hran3 hS ?_
  case hran3 => (intro w hSw; (try dsimp only at hSw); go_split_ands; go_simp; (try with_reducible rfl))
  (try simp only [Act.put, List.setIfInBounds_toArray, List.set_cons_zero, List.set_cons_succ])
  refine any_take 3 ?vran4 rfl (by kernel_rfl) (by kernel_rfl) (by kernel_rfl) (fun _ _ _ h => h) (by rfl) ?hran4 hS ?_
  case hran4 => (intro w hSw; (try dsimp only at hSw); go_split_ands; go_simp; (try with_reducible rfl))
  (try simp only [Act.put, List.setIfInBounds_toArray, List.set_cons_zero, List.set_cons_succ])
  refine any_skip 4 rfl (by kernel_rfl) (by kernel_rfl) (by kernel_rfl) (fun _ _ _ h => h) (by rfl) hS ?_
  (try simp only [Act.put, List.setIfInBounds_toArray, List.set_cons_zero, List.set_cons_succ])
  refine any_skip 5 rfl (by kernel_rfl) (by kernel_rfl) (by kernel_rfl) (fun _ _ _ h => h) (by rfl) hS ?_
  (try simp only [Act.put, List.setIfInBounds_toArray, List.set_cons_zero, List.set_cons_succ])
  refine any_skip 6 rfl (by kernel_rfl) (by kernel_rfl) (by kernel_rfl) (fun _ _ _ h => h) (by rfl) hS ?_
  (try simp only [Act.put, List.setIfInBounds_toArray, List.set_cons_zero, List.set_cons_succ])
  refine any_skip 7 rfl (by kernel_rfl) (by kernel_rfl) (by kernel_rfl) (fun _ _ _ h => h) (by rfl) hS ?_
  (try simp only [Act.put, List.setIfInBounds_toArray, List.set_cons_zero, List.set_cons_succ])
  refine any_take 8 ?vran5 rfl (by kernel_rfl) (by kernel_rfl) (by kernel_rfl) (fun _ _ _ h => h) (by rfl) ?hran5 hS ?_
  case hran5 => (intro w hSw; (try dsimp only at hSw); go_split_ands; go_simp; (try with_reducible rfl))
  (try simp only [Act.put, List.setIfInBounds_toArray, List.set_cons_zero, List.set_cons_succ])
  refine any_take 9 ?vran6 rfl (by kernel_rfl) (by kernel_rfl) (by kernel_rfl) (fun _ _ _ h => h) (by rfl) ?hran6 hS ?_
  case hran6 => (intro w hSw; (try dsimp only at hSw); go_split_ands; go_simp; (try with_reducible rfl))
  (try simp only [Act.put, List.setIfInBounds_toArray, List.set_cons_zero, List.set_cons_succ])
  refine any_skip 10 rfl (by kernel_rfl) (by kernel_rfl) (by kernel_rfl) (fun _ _ _ h => h) (by rfl) hS ?_
  (try simp only [Act.put, List.setIfInBounds_toArray, List.set_cons_zero, List.set_cons_succ])
  refine any_skip 11 rfl (by kernel_rfl) (by kernel_rfl) (by kernel_rfl) (fun _ _ _ h => h) (by rfl) hS ?_
  (try simp only [Act.put, List.setIfInBounds_toArray, List.set_cons_zero, List.set_cons_succ])
  refine any_skip 12 rfl (by kernel_rfl) (by kernel_rfl) (by kernel_rfl) (fun _ _ _ h => h) (by rfl) hS ?_
  (try simp only [Act.put, List.setIfInBounds_toArray, List.set_cons_zero, List.set_cons_succ])
  refine any_skip 13 rfl (by kernel_rfl) (by kernel_rfl) (by kernel_rfl) (fun _ _ _ h => h) (by rfl) hS ?_
  (try simp only [Act.put, List.setIfInBounds_toArray, List.set_cons_zero, List.set_cons_succ])
  refine any_skip 14 rfl (by kernel_rfl) (by kernel_rfl) (by kernel_rfl) (fun _ _ _ h => h) (by rfl) hS ?_
  (try simp only [Act.put, List.setIfInBounds_toArray, List.set_cons_zero, List.set_cons_succ])
  refine any_skip 15 rfl (by kernel_rfl) (by kernel_rfl) (by kernel_rfl) (fun _ _ _ h => h) (by rfl) hS ?_
  (try simp only [Act.put, List.setIfInBounds_toArray, List.set_cons_zero, List.set_cons_succ])
  refine any_skip 16 rfl (by kernel_rfl) (by kernel_rfl) (by kernel_rfl) (fun _ _ _ h => h) (by rfl) hS ?_
  (try simp only [Act.put, List.setIfInBounds_toArray, List.set_cons_zero, List.set_cons_succ])
  refine any_skip 17 rfl (by kernel_rfl) (by kernel_rfl) (by kernel_rfl) (fun _ _ _ h => h) (by rfl) hS ?_
  (try simp only [Act.put, List.setIfInBounds_toArray, List.set_cons_zero, List.set_cons_succ])
  refine any_skip 18 rfl (by kernel_rfl) (by kernel_rfl) (by kernel_rfl) (fun _ _ _ h => h) (by rfl) hS ?_
  (try simp only [Act.put, List.setIfInBounds_toArray, List.set_cons_zero, List.set_cons_succ])
  refine any_skip 19 rfl (by kernel_rfl) (by kernel_rfl) (by kernel_rfl) (fun _ _ _ h => h) (by rfl) hS ?_
  (try simp only [Act.put, List.setIfInBounds_toArray, List.set_cons_zero, List.set_cons_succ])
  refine any_take 20 ?vran7 rfl (by kernel_rfl) (by kernel_rfl) (by kernel_rfl) (fun _ _ _ h => h) (by rfl) ?hran7 hS ?_
  case hran7 => (intro w hSw; (try dsimp only at hSw); go_split_ands; go_simp; (try with_reducible rfl))
  (try simp only [Act.put, List.setIfInBounds_toArray, List.set_cons_zero, List.set_cons_succ])
  refine wpAnyH_done (by kernel_rfl) ?_ _
  refine NoPanic.normal ?_
  obtain ⟨W2, hW2⟩ : ∃ W2, W2 = W.drew := ⟨_, rfl⟩
  rw [show ({ heap := W.heap, tape := W.tape, drawn := W.drawn + 1, os := W.os, output := W.output } : World) = W2 from hW2.symm]
  have hd2 : Dm w g q v W2 := by rw [hW2]; exact HK.out.2.drew
  clear hW2
  obtain ⟨⟨x0, x1, x2, x3⟩, hfin⟩ := hd2.fin
  have HF : Hid (∀ x y, Pair ((W2.setCell ⟨w.heap.size, 0, none⟩ (.int .i64 x)).setCell ⟨w.heap.size, 1, none⟩ (.int .i64 y)) w.heap.size x y ∧ Below w.heap.size w ((W2.setCell ⟨w.heap.size, 0, none⟩ (.int .i64 x)).setCell ⟨w.heap.size, 1, none⟩ (.int .i64 y))) := hfin
  clear hfin hS hS0 hd2
  go_wp2
  refine bodyPost_ret (res_pair_tmp rfl rfl (HF.out _ _).1) rfl ?_
  exact ⟨by first | rfl | (rw [HV2.out]; rfl), (HF.out _ _).2⟩

set_option maxHeartbeats 3200000 in
theorem dat_some (w : World) (g q : Nat) (v : Bt) (h : Rd w g q v) (ok : v.ok) (f t : Int) (hf : mayF v f t = true) (k : Kw) (hk : v.K f = some k) :
    Calls Try.prog 15 #[.pointer (some ⟨g, 0, none⟩), .int .i64 f, .int .i64 t] w fun e w' => e = .returned (.tuple #[.agg #[.int .i64 (freA v.c k t).a, .int .i64 (freA v.c k t).b], .int .i64 (freA v.c k t).e]) ∧ Below w.heap.size w w' := by
  have HA : Hid (Dm w g q v (w.alloc (.cells #[.int .i64 0, .int .i64 0] 39))) := Dm.new h
  have KM := dmay_ok _ g v _ HA.out.rd.at' f t
  rw [hf] at KM
  have hin := other_in (mayF_in hf).1
  obtain ⟨N, hN⟩ : ∃ N : Nat, v.c.n = (N : Int) := ⟨v.c.n.toNat, by have := (right_of ok.r).n0; omega⟩
  obtain ⟨j, rfl⟩ : ∃ j : Nat, f = (j : Int) := ⟨f.toNat, by omega⟩
  have hnt : v.c.n.toNat = N := by rw [hN]; rfl
  have hjN : j < v.c.n.toNat := by omega
  have hld := HA.out.rd.row.loads (rowK_get v hjN)
  have c11 : (w.alloc (.cells #[.int .i64 0, .int .i64 0] 39)).cell? ⟨g, 11, none⟩ = some (.slice (some ⟨q, 0, none⟩) N N) := by
    have := HA.out.rd.at'.cell 11 rfl
    unfold slK at this
    rw [hnt] at this; exact this
  have g1 : (j : Int) < (N : Int) := by omega
  have g3 : (0 : Int) ≤ (j : Int) := Int.natCast_nonneg _
  clear hin hN hnt hjN
  rw [hk] at hld
  have HLd : Hid ((Instr.loadAt 78 (.pointer (some ⟨q, j * 4, none⟩))).run Try.prog (w.alloc (.cells #[.int .i64 0, .int .i64 0] 39)) = .ok (.agg #[.bool true, .int .i64 k.a, .int .i64 k.b, .int .i64 k.t]) (w.alloc (.cells #[.int .i64 0, .int .i64 0] 39))) := hld
  have HK : Hid (Dh w g q v (w.alloc (.cells #[.int .i64 0, .int .i64 0] 39)).heap.size k ((w.alloc (.cells #[.int .i64 0, .int .i64 0] 39)).alloc (.cells #[.bool true, .int .i64 k.a, .int .i64 k.b, .int .i64 k.t] 78))) := Dh.mk' (HA.out.step (Go.Joins.below_alloc1 _ _)) (KdAt.new _ (some k))
  have hkt := (ok.k _ k hk).2
  have h2 := time_in (mayF_in hf).2
  have hr := right_of ok.r
  obtain ⟨G, hG⟩ : ∃ G, G = t - k.t := ⟨_, rfl⟩
  have e1 : IntKind.i64.wrap (t - k.t) = G := by rw [hG]; exact wrap_in (by omega) (by omega)
  have HG : Hid (G = t - k.t) := hG
  obtain ⟨D, hD⟩ : ∃ D, D = v.c.r + v.c.l := ⟨_, rfl⟩
  have e2 : IntKind.i64.wrap (v.c.r + v.c.l) = D := by
    have h1 := hr.r0; have h2 := hr.r1; have h3 := hr.l0; have h4 := hr.l1
    rw [hD]; exact wrap_in (by omega) (by omega)
  have KK : Hid (∀ W, Calls Try.prog 39 #[.agg (cfC v.c)] W fun e w' => e = .returned (.int .i64 (2 * rndN v.c)) ∧ Below W.heap.size W w') := fun W => rkeep_ok W v.c
  have K1 : Hid (∀ W, Calls Try.prog 40 #[.agg #[.int .i64 k.a, .int .i64 k.b], .int .i64 G, .int .i64 D] W fun e w' => e = .returned (.tuple #[.agg #[.int .i64 (grwA k.a k.b G D).a, .int .i64 (grwA k.a k.b G D).b], .int .i64 (grwA k.a k.b G D).e]) ∧ Below W.heap.size W w') := rgrow_fact _ _ _ _
  have HV : Hid (freA v.c k t = (if G < 0 ∨ 2 * rndN v.c < G then noA 6 else if (grwA k.a k.b G D).e = 0 then grwA k.a k.b G D else noA 6)) := by
    show freA v.c k t = _
    rw [freA, ← hG, ← hD]
  have hrn : 0 ≤ 2 * rndN v.c := by have := (rnd_le v.c).1; omega
  generalize freA v.c k t = ans at *
  generalize grwA k.a k.b G D = X at *
  generalize 2 * rndN v.c = Q at *
  obtain ⟨x, y, z⟩ := X
  dsimp only at K1 HV
  clear hld hk hf ok h HA hkt h2 hr hD hrn hG
  go_enter Try.func15, Try.ntmps15
  go_wp2_with fail
  obtain ⟨W0, hW0⟩ : ∃ W, W = w.alloc (.cells #[.int .i64 0, .int .i64 0] 39) := ⟨_, rfl⟩
  rw [← hW0] at KM c11 HLd HK ⊢
  clear hW0
  refine KM.mono ?_
  rintro e w1 ⟨rfl, rfl⟩
  clear KM
  go_wp2_with (first | (refine wpList_gload_run rfl 78 _ rfl _ _ rfl HLd.out ?_) | fail)
  go_upto_region 4 with fail
  obtain ⟨W, hW⟩ : ∃ W, W = w1.alloc (.cells #[.bool true, .int .i64 k.a, .int .i64 k.b, .int .i64 k.t] 78) := ⟨_, rfl⟩
  generalize hb : w1.heap.size = b at *
  rw [← hW] at HK ⊢
  have hS0 := HK.out.drew
  clear hW hb HLd c11
  by_cases hlt : t < k.t
  · have HV2 : Hid (ans = noA 6) := by show ans = _; rw [HV.out, if_pos (by left; rw [HG.out]; omega)]
    clear HV HG
    refine wp_region_noPanic ?_
    refine wp_region_held (S := fun V => (V.cell? ⟨b, 0, none⟩ = some (.bool true) ∧ V.cell? ⟨b, 1, none⟩ = some (.int .i64 k.a) ∧ V.cell? ⟨b, 2, none⟩ = some (.int .i64 k.b) ∧ V.cell? ⟨b, 3, none⟩ = some (.int .i64 k.t) ∧ V.cell? ⟨g, 7, none⟩ = some (.int .i64 v.c.r) ∧ V.cell? ⟨g, 8, none⟩ = some (.int .i64 v.c.l) ∧ (Instr.loadAt 23 (.pointer (some ⟨g, 0, none⟩))).run Try.prog V = .ok (.agg (cfC v.c)) V) ∧ Dm w g q v V ∧ KdAt V b (some k)) (by kernel_rfl) ?_
    have hS := hS0
    refine any_take 0 ?vrbn1 rfl (by kernel_rfl) (by kernel_rfl) (by kernel_rfl) (fun _ _ _ h => h) (by rfl) ?hrbn1 hS ?_
    case hrbn1 => (intro w hSw; (try dsimp only at hSw); go_split_ands; go_simp; (try with_reducible rfl))
    (try simp only [Act.put, List.setIfInBounds_toArray, List.set_cons_zero, List.set_cons_succ])
    refine any_take 1 ?vrbn2 rfl (by kernel_rfl) (by kernel_rfl) (by kernel_rfl) (fun _ _ _ h => h) (by rfl) ?hrbn2 hS ?_
    case hrbn2 => (intro w hSw; (try dsimp only at hSw); go_split_ands; go_simp; (try with_reducible rfl))
    (try simp only [Act.put, List.setIfInBounds_toArray, List.set_cons_zero, List.set_cons_succ])
    refine any_take 2 ?vrbn3 rfl (by kernel_rfl) (by kernel_rfl) (by kernel_rfl) (fun _ _ _ h => h) (by rfl) ?hrbn3 hS ?_
    case hrbn3 => (intro w hSw; (try dsimp only at hSw); go_split_ands; go_simp; (try with_reducible rfl))
    (try simp only [Act.put, List.setIfInBounds_toArray, List.set_cons_zero, List.set_cons_succ])
    refine any_take 3 ?vrbn4 rfl (by kernel_rfl) (by kernel_rfl) (by kernel_rfl) (fun _ _ _ h => h) (by rfl) ?hrbn4 hS ?_
    case hrbn4 => (intro w hSw; (try dsimp only at hSw); go_split_ands; go_simp; (try with_reducible rfl))
    (try simp only [Act.put, List.setIfInBounds_toArray, List.set_cons_zero, List.set_cons_succ])
    refine any_take 4 ?vrbn5 rfl (by kernel_rfl) (by kernel_rfl) (by kernel_rfl) (fun _ _ _ h => h) (by rfl) ?hrbn5 hS ?_
    case hrbn5 => (intro w hSw; (try dsimp only at hSw); go_split_ands; go_simp; (try with_reducible rfl))
    (try simp only [Act.put, List.setIfInBounds_toArray, List.set_cons_zero, List.set_cons_succ])
    refine any_take 5 ?vrbn6 rfl (by kernel_rfl) (by kernel_rfl) (by kernel_rfl) (fun _ _ _ h => h) (by rfl) ?hrbn6 hS ?_
    case hrbn6 => (intro w hSw; (try dsimp only at hSw); go_split_ands; go_simp; (try with_reducible rfl))
    (try simp only [Act.put, List.setIfInBounds_toArray, List.set_cons_zero, List.set_cons_succ])
    refine any_take 6 ?vrbn7 rfl (by kernel_rfl) (by kernel_rfl) (by kernel_rfl) (fun _ _ _ h => h) (by rfl) ?hrbn7 hS ?_
    case hrbn7 => (intro w hSw; (try dsimp only at hSw); go_split_ands; go_simp; (try with_reducible rfl))
    (try simp only [Act.put, List.setIfInBounds_toArray, List.set_cons_zero, List.set_cons_succ])
    refine any_take 7 ?vrbn8 rfl (by kernel_rfl) (by kernel_rfl) (by kernel_rfl) (fun _ _ _ h => h) (by rfl) ?hrbn8 hS ?_
    case hrbn8 => (intro w hSw; (try dsimp only at hSw); go_split_ands; go_simp; (try with_reducible rfl))
    (try simp only [Act.put, List.setIfInBounds_toArray, List.set_cons_zero, List.set_cons_succ])
    refine any_take 8 ?vrbn9 rfl (by kernel_rfl) (by kernel_rfl) (by kernel_rfl) (fun _ _ _ h => h) (by rfl) ?hrbn9 hS ?_
    case hrbn9 => (intro w hSw; (try dsimp only at hSw); go_split_ands; go_simp; (try with_reducible rfl))
    (try simp only [Act.put, List.setIfInBounds_toArray, List.set_cons_zero, List.set_cons_succ])
    refine any_take 9 ?vrbn10 rfl (by kernel_rfl) (by kernel_rfl) (by kernel_rfl) (fun _ _ _ h => h) (by rfl) ?hrbn10 hS ?_
    case hrbn10 => (intro w hSw; (try dsimp only at hSw); go_split_ands; go_simp; (try with_reducible rfl))
    (try simp only [Act.put, List.setIfInBounds_toArray, List.set_cons_zero, List.set_cons_succ])
    refine any_skip 10 rfl (by kernel_rfl) (by kernel_rfl) (by kernel_rfl) (fun _ _ _ h => h) (by rfl) hS ?_
    (try simp only [Act.put, List.setIfInBounds_toArray, List.set_cons_zero, List.set_cons_succ])
    refine any_skip 11 rfl (by kernel_rfl) (by kernel_rfl) (by kernel_rfl) (fun _ _ _ h => h) (by rfl) hS ?_
    (try simp only [Act.put, List.setIfInBounds_toArray, List.set_cons_zero, List.set_cons_succ])
    refine any_skip 12 rfl (by kernel_rfl) (by kernel_rfl) (by kernel_rfl) (fun _ _ _ h => h) (by rfl) hS ?_
    (try simp only [Act.put, List.setIfInBounds_toArray, List.set_cons_zero, List.set_cons_succ])
    refine any_skip 13 rfl (by kernel_rfl) (by kernel_rfl) (by kernel_rfl) (fun _ _ _ h => h) (by rfl) hS ?_
    (try simp only [Act.put, List.setIfInBounds_toArray, List.set_cons_zero, List.set_cons_succ])
    refine any_skip 14 rfl (by kernel_rfl) (by kernel_rfl) (by kernel_rfl) (fun _ _ _ h => h) (by rfl) hS ?_
    (try simp only [Act.put, List.setIfInBounds_toArray, List.set_cons_zero, List.set_cons_succ])
    refine any_skip 15 rfl (by kernel_rfl) (by kernel_rfl) (by kernel_rfl) (fun _ _ _ h => h) (by rfl) hS ?_
    (try simp only [Act.put, List.setIfInBounds_toArray, List.set_cons_zero, List.set_cons_succ])
    refine any_skip 16 rfl (by kernel_rfl) (by kernel_rfl) (by kernel_rfl) (fun _ _ _ h => h) (by rfl) hS ?_
    (try simp only [Act.put, List.setIfInBounds_toArray, List.set_cons_zero, List.set_cons_succ])
    refine any_skip 17 rfl (by kernel_rfl) (by kernel_rfl) (by kernel_rfl) (fun _ _ _ h => h) (by rfl) hS ?_
    (try simp only [Act.put, List.setIfInBounds_toArray, List.set_cons_zero, List.set_cons_succ])
    refine any_skip 18 rfl (by kernel_rfl) (by kernel_rfl) (by kernel_rfl) (fun _ _ _ h => h) (by rfl) hS ?_
    (try simp only [Act.put, List.setIfInBounds_toArray, List.set_cons_zero, List.set_cons_succ])
    refine any_skip 19 rfl (by kernel_rfl) (by kernel_rfl) (by kernel_rfl) (fun _ _ _ h => h) (by rfl) hS ?_
    (try simp only [Act.put, List.setIfInBounds_toArray, List.set_cons_zero, List.set_cons_succ])
    refine any_take 20 ?vrbn11 rfl (by kernel_rfl) (by kernel_rfl) (by kernel_rfl) (fun _ _ _ h => h) (by rfl) ?hrbn11 hS ?_
    case hrbn11 => (intro w hSw; (try dsimp only at hSw); go_split_ands; go_simp; (try with_reducible rfl))
    (try simp only [Act.put, List.setIfInBounds_toArray, List.set_cons_zero, List.set_cons_succ])
    refine wpAnyH_done (by kernel_rfl) ?_ _
    refine NoPanic.normal ?_
    obtain ⟨W2, hW2⟩ : ∃ W2, W2 = W.drew := ⟨_, rfl⟩
    rw [show ({ heap := W.heap, tape := W.tape, drawn := W.drawn + 1, os := W.os, output := W.output } : World) = W2 from hW2.symm]
    have hd2 : Dm w g q v W2 := by rw [hW2]; exact hS0.2.1
    clear hW2
    obtain ⟨⟨x0, x1, x2, x3⟩, hfin⟩ := hd2.fin
    have HF : Hid (∀ x y, Pair ((W2.setCell ⟨w.heap.size, 0, none⟩ (.int .i64 x)).setCell ⟨w.heap.size, 1, none⟩ (.int .i64 y)) w.heap.size x y ∧ Below w.heap.size w ((W2.setCell ⟨w.heap.size, 0, none⟩ (.int .i64 x)).setCell ⟨w.heap.size, 1, none⟩ (.int .i64 y))) := hfin
    clear hfin hS hS0 hd2
    go_wp2
    refine bodyPost_ret (res_pair_tmp rfl rfl (HF.out _ _).1) rfl ?_
    exact ⟨by first | rfl | (rw [HV2.out]; rfl), (HF.out _ _).2⟩
  have hge : ¬ G < 0 := by rw [HG.out]; omega
  by_cases hq : Q < G
  · have HV2 : Hid (ans = noA 6) := by show ans = _; rw [HV.out, if_pos (.inr hq)]
    clear HV HG hge
    refine wp_region_noPanic ?_
    refine wp_region_held (S := fun V => (V.cell? ⟨b, 0, none⟩ = some (.bool true) ∧ V.cell? ⟨b, 1, none⟩ = some (.int .i64 k.a) ∧ V.cell? ⟨b, 2, none⟩ = some (.int .i64 k.b) ∧ V.cell? ⟨b, 3, none⟩ = some (.int .i64 k.t) ∧ V.cell? ⟨g, 7, none⟩ = some (.int .i64 v.c.r) ∧ V.cell? ⟨g, 8, none⟩ = some (.int .i64 v.c.l) ∧ (Instr.loadAt 23 (.pointer (some ⟨g, 0, none⟩))).run Try.prog V = .ok (.agg (cfC v.c)) V) ∧ Dm w g q v V ∧ KdAt V b (some k)) (by kernel_rfl) ?_
    have hS := hS0
    refine any_take 0 ?vrcn1 rfl (by kernel_rfl) (by kernel_rfl) (by kernel_rfl) (fun _ _ _ h => h) (by rfl) ?hrcn1 hS ?_
    case hrcn1 => (intro w hSw; (try dsimp only at hSw); go_split_ands; go_simp; (try with_reducible rfl))
    (try simp only [Act.put, List.setIfInBounds_toArray, List.set_cons_zero, List.set_cons_succ])
    refine any_take 1 ?vrcn2 rfl (by kernel_rfl) (by kernel_rfl) (by kernel_rfl) (fun _ _ _ h => h) (by rfl) ?hrcn2 hS ?_
    case hrcn2 => (intro w hSw; (try dsimp only at hSw); go_split_ands; go_simp; (try with_reducible rfl))
    (try simp only [Act.put, List.setIfInBounds_toArray, List.set_cons_zero, List.set_cons_succ])
    refine any_take 2 ?vrcn3 rfl (by kernel_rfl) (by kernel_rfl) (by kernel_rfl) (fun _ _ _ h => h) (by rfl) ?hrcn3 hS ?_
    case hrcn3 => (intro w hSw; (try dsimp only at hSw); go_split_ands; go_simp; (try with_reducible rfl))
    (try simp only [Act.put, List.setIfInBounds_toArray, List.set_cons_zero, List.set_cons_succ])
    refine any_take 3 ?vrcn4 rfl (by kernel_rfl) (by kernel_rfl) (by kernel_rfl) (fun _ _ _ h => h) (by rfl) ?hrcn4 hS ?_
    case hrcn4 => (intro w hSw; (try dsimp only at hSw); go_split_ands; go_simp; (try with_reducible rfl))
    (try simp only [Act.put, List.setIfInBounds_toArray, List.set_cons_zero, List.set_cons_succ])
    refine any_take 4 ?vrcn5 rfl (by kernel_rfl) (by kernel_rfl) (by kernel_rfl) (fun _ _ _ h => h) (by rfl) ?hrcn5 hS ?_
    case hrcn5 => (intro w hSw; (try dsimp only at hSw); go_split_ands; go_simp; (try with_reducible rfl))
    (try simp only [Act.put, List.setIfInBounds_toArray, List.set_cons_zero, List.set_cons_succ])
    refine any_take 5 ?vrcn6 rfl (by kernel_rfl) (by kernel_rfl) (by kernel_rfl) (fun _ _ _ h => h) (by rfl) ?hrcn6 hS ?_
    case hrcn6 => (intro w hSw; (try dsimp only at hSw); go_split_ands; go_simp; (try with_reducible rfl))
    (try simp only [Act.put, List.setIfInBounds_toArray, List.set_cons_zero, List.set_cons_succ])
    refine any_take 6 ?vrcn7 rfl (by kernel_rfl) (by kernel_rfl) (by kernel_rfl) (fun _ _ _ h => h) (by rfl) ?hrcn7 hS ?_
    case hrcn7 => (intro w hSw; (try dsimp only at hSw); go_split_ands; go_simp; (try with_reducible rfl))
    (try simp only [Act.put, List.setIfInBounds_toArray, List.set_cons_zero, List.set_cons_succ])
    refine any_take 7 ?vrcn8 rfl (by kernel_rfl) (by kernel_rfl) (by kernel_rfl) (fun _ _ _ h => h) (by rfl) ?hrcn8 hS ?_
    case hrcn8 => (intro w hSw; (try dsimp only at hSw); go_split_ands; go_simp; (try with_reducible rfl))
    (try simp only [Act.put, List.setIfInBounds_toArray, List.set_cons_zero, List.set_cons_succ])
    refine any_take 8 ?vrcn9 rfl (by kernel_rfl) (by kernel_rfl) (by kernel_rfl) (fun _ _ _ h => h) (by rfl) ?hrcn9 hS ?_
    case hrcn9 => (intro w hSw; (try dsimp only at hSw); go_split_ands; go_simp; (try with_reducible rfl))
    (try simp only [Act.put, List.setIfInBounds_toArray, List.set_cons_zero, List.set_cons_succ])
    refine any_take 9 ?vrcn10 rfl (by kernel_rfl) (by kernel_rfl) (by kernel_rfl) (fun _ _ _ h => h) (by rfl) ?hrcn10 hS ?_
    case hrcn10 => (intro w hSw; (try dsimp only at hSw); go_split_ands; go_simp; (try with_reducible rfl))
    (try simp only [Act.put, List.setIfInBounds_toArray, List.set_cons_zero, List.set_cons_succ])
    refine any_take 10 ?vrcn11 rfl (by kernel_rfl) (by kernel_rfl) (by kernel_rfl) (fun _ _ _ h => h) (by rfl) ?hrcn11 hS ?_
    case hrcn11 => (intro w hSw; (try dsimp only at hSw); go_split_ands; go_simp; (try with_reducible rfl))
    (try simp only [Act.put, List.setIfInBounds_toArray, List.set_cons_zero, List.set_cons_succ])
    refine any_take 11 ?vrcn12 rfl (by kernel_rfl) (by kernel_rfl) (by kernel_rfl) (fun _ _ _ h => h) (by rfl) ?hrcn12 hS ?_
    case hrcn12 => (intro w hSw; (try dsimp only at hSw); go_split_ands; go_simp; (try with_reducible rfl))
    (try simp only [Act.put, List.setIfInBounds_toArray, List.set_cons_zero, List.set_cons_succ])
    refine any_take 12 ?vrcn13 rfl (by kernel_rfl) (by kernel_rfl) (by kernel_rfl) (fun _ _ _ h => h) (by rfl) ?hrcn13 hS ?_
    case hrcn13 => (intro w hSw; (try dsimp only at hSw); go_split_ands; go_simp; (try with_reducible rfl))
    (try simp only [Act.put, List.setIfInBounds_toArray, List.set_cons_zero, List.set_cons_succ])
    refine any_take 13 ?vrcn14 rfl (by kernel_rfl) (by kernel_rfl) (by kernel_rfl) (fun _ _ _ h => h) (by rfl) ?hrcn14 hS ?_
    case hrcn14 => (intro w hSw; (try dsimp only at hSw); go_split_ands; go_simp; (try with_reducible rfl))
    (try simp only [Act.put, List.setIfInBounds_toArray, List.set_cons_zero, List.set_cons_succ])
    refine any_take 14 ?vrcn15 rfl (by kernel_rfl) (by kernel_rfl) (by kernel_rfl) (fun _ _ _ h => h) (by rfl) ?hrcn15 hS ?_
    case hrcn15 => (intro w hSw; (try dsimp only at hSw); go_split_ands; go_simp; (try with_reducible rfl))
    (try simp only [Act.put, List.setIfInBounds_toArray, List.set_cons_zero, List.set_cons_succ])
    refine any_take 15 ?vrcn16 rfl (by kernel_rfl) (by kernel_rfl) (by kernel_rfl) (fun _ _ _ h => h) (by rfl) ?hrcn16 hS ?_
    case hrcn16 => (intro w hSw; (try dsimp only at hSw); go_split_ands; go_simp; (try with_reducible rfl))
    (try simp only [Act.put, List.setIfInBounds_toArray, List.set_cons_zero, List.set_cons_succ])
    refine any_take 16 ?vrcn17 rfl (by kernel_rfl) (by kernel_rfl) (by kernel_rfl) (fun _ _ _ h => h) (by rfl) ?hrcn17 hS ?_
    case hrcn17 => (intro w hSw; (try dsimp only at hSw); go_split_ands; go_simp; (try with_reducible rfl))
    (try simp only [Act.put, List.setIfInBounds_toArray, List.set_cons_zero, List.set_cons_succ])
    refine any_take 17 (Value.agg (cfC v.c)) rfl (by kernel_rfl) (by kernel_rfl) (by kernel_rfl) (fun _ _ _ h => h) (by rfl) (fun W hW => exec_load 23 (.tmp 40) rfl _ _ rfl hW.1.2.2.2.2.2.2) hS ?_
    (try simp only [Act.put, List.setIfInBounds_toArray, List.set_cons_zero, List.set_cons_succ])
    refine any_one 18 rfl (by kernel_rfl) (by rfl) (fun K hK => ?_)
    have hSS : _ := hS
    clear hS
    go_simp
    refine (KK.out _).mono ?_
    rintro ev wc ⟨rfl, hbc⟩
    refine hK.out _ _ (Dh.step (w := w) (g := g) (q := q) (v := v) (b := b) (k := k) hSS hbc) (fun hS => ?_)
    clear hK
    (try simp only [Act.put, List.setIfInBounds_toArray, List.set_cons_zero, List.set_cons_succ])
    refine any_take 19 ?vrcn18 rfl (by kernel_rfl) (by kernel_rfl) (by kernel_rfl) (fun _ _ _ h => h) (by rfl) ?hrcn18 hS ?_
    case hrcn18 => (intro w hSw; (try dsimp only at hSw); go_split_ands; go_simp; (try with_reducible rfl))
    (try simp only [Act.put, List.setIfInBounds_toArray, List.set_cons_zero, List.set_cons_succ])
    refine any_take 20 ?vrcn19 rfl (by kernel_rfl) (by kernel_rfl) (by kernel_rfl) (fun _ _ _ h => h) (by rfl) ?hrcn19 hS ?_
    case hrcn19 => (intro w hSw; (try dsimp only at hSw); go_split_ands; go_simp; (try with_reducible rfl))
    (try simp only [Act.put, List.setIfInBounds_toArray, List.set_cons_zero, List.set_cons_succ])
    refine wpAnyH_done (by kernel_rfl) ?_ _
    refine NoPanic.normal ?_
    have hd2 := hS.2.1
    obtain ⟨⟨x0, x1, x2, x3⟩, hfin⟩ := hd2.fin
    have HF : Hid (∀ x y, Pair ((wc.setCell ⟨w.heap.size, 0, none⟩ (.int .i64 x)).setCell ⟨w.heap.size, 1, none⟩ (.int .i64 y)) w.heap.size x y ∧ Below w.heap.size w ((wc.setCell ⟨w.heap.size, 0, none⟩ (.int .i64 x)).setCell ⟨w.heap.size, 1, none⟩ (.int .i64 y))) := hfin
    clear hfin hS hS0 hd2 hSS hbc
    go_wp2
    refine bodyPost_ret (res_pair_tmp rfl rfl (HF.out _ _).1) rfl ?_
    exact ⟨by first | rfl | (rw [HV2.out]; rfl), (HF.out _ _).2⟩
  have HV2 : Hid (ans = (if z = 0 then ⟨x, y, z⟩ else noA 6)) := by
    show ans = _
    rw [HV.out, if_neg (by rintro (h | h) <;> omega)]
  clear HV HG hge
  refine wp_region_noPanic ?_
  refine wp_region_held (S := fun V => (V.cell? ⟨b, 0, none⟩ = some (.bool true) ∧ V.cell? ⟨b, 1, none⟩ = some (.int .i64 k.a) ∧ V.cell? ⟨b, 2, none⟩ = some (.int .i64 k.b) ∧ V.cell? ⟨b, 3, none⟩ = some (.int .i64 k.t) ∧ V.cell? ⟨g, 7, none⟩ = some (.int .i64 v.c.r) ∧ V.cell? ⟨g, 8, none⟩ = some (.int .i64 v.c.l) ∧ (Instr.loadAt 23 (.pointer (some ⟨g, 0, none⟩))).run Try.prog V = .ok (.agg (cfC v.c)) V) ∧ Dm w g q v V ∧ KdAt V b (some k)) (by kernel_rfl) ?_
  have hS := hS0
  refine any_take 0 ?vrdn1 rfl (by kernel_rfl) (by kernel_rfl) (by kernel_rfl) (fun _ _ _ h => h) (by rfl) ?hrdn1 hS ?_
  case hrdn1 => (intro w hSw; (try dsimp only at hSw); go_split_ands; go_simp; (try with_reducible rfl))
  (try simp only [Act.put, List.setIfInBounds_toArray, List.set_cons_zero, List.set_cons_succ])
  refine any_take 1 ?vrdn2 rfl (by kernel_rfl) (by kernel_rfl) (by kernel_rfl) (fun _ _ _ h => h) (by rfl) ?hrdn2 hS ?_
  case hrdn2 => (intro w hSw; (try dsimp only at hSw); go_split_ands; go_simp; (try with_reducible rfl))
  (try simp only [Act.put, List.setIfInBounds_toArray, List.set_cons_zero, List.set_cons_succ])
  refine any_take 2 ?vrdn3 rfl (by kernel_rfl) (by kernel_rfl) (by kernel_rfl) (fun _ _ _ h => h) (by rfl) ?hrdn3 hS ?_
  case hrdn3 => (intro w hSw; (try dsimp only at hSw); go_split_ands; go_simp; (try with_reducible rfl))
  (try simp only [Act.put, List.setIfInBounds_toArray, List.set_cons_zero, List.set_cons_succ])
  refine any_take 3 ?vrdn4 rfl (by kernel_rfl) (by kernel_rfl) (by kernel_rfl) (fun _ _ _ h => h) (by rfl) ?hrdn4 hS ?_
  case hrdn4 => (intro w hSw; (try dsimp only at hSw); go_split_ands; go_simp; (try with_reducible rfl))
  (try simp only [Act.put, List.setIfInBounds_toArray, List.set_cons_zero, List.set_cons_succ])
  refine any_take 4 ?vrdn5 rfl (by kernel_rfl) (by kernel_rfl) (by kernel_rfl) (fun _ _ _ h => h) (by rfl) ?hrdn5 hS ?_
  case hrdn5 => (intro w hSw; (try dsimp only at hSw); go_split_ands; go_simp; (try with_reducible rfl))
  (try simp only [Act.put, List.setIfInBounds_toArray, List.set_cons_zero, List.set_cons_succ])
  refine any_take 5 ?vrdn6 rfl (by kernel_rfl) (by kernel_rfl) (by kernel_rfl) (fun _ _ _ h => h) (by rfl) ?hrdn6 hS ?_
  case hrdn6 => (intro w hSw; (try dsimp only at hSw); go_split_ands; go_simp; (try with_reducible rfl))
  (try simp only [Act.put, List.setIfInBounds_toArray, List.set_cons_zero, List.set_cons_succ])
  refine any_take 6 ?vrdn7 rfl (by kernel_rfl) (by kernel_rfl) (by kernel_rfl) (fun _ _ _ h => h) (by rfl) ?hrdn7 hS ?_
  case hrdn7 => (intro w hSw; (try dsimp only at hSw); go_split_ands; go_simp; (try with_reducible rfl))
  (try simp only [Act.put, List.setIfInBounds_toArray, List.set_cons_zero, List.set_cons_succ])
  refine any_take 7 ?vrdn8 rfl (by kernel_rfl) (by kernel_rfl) (by kernel_rfl) (fun _ _ _ h => h) (by rfl) ?hrdn8 hS ?_
  case hrdn8 => (intro w hSw; (try dsimp only at hSw); go_split_ands; go_simp; (try with_reducible rfl))
  (try simp only [Act.put, List.setIfInBounds_toArray, List.set_cons_zero, List.set_cons_succ])
  refine any_take 8 ?vrdn9 rfl (by kernel_rfl) (by kernel_rfl) (by kernel_rfl) (fun _ _ _ h => h) (by rfl) ?hrdn9 hS ?_
  case hrdn9 => (intro w hSw; (try dsimp only at hSw); go_split_ands; go_simp; (try with_reducible rfl))
  (try simp only [Act.put, List.setIfInBounds_toArray, List.set_cons_zero, List.set_cons_succ])
  refine any_take 9 ?vrdn10 rfl (by kernel_rfl) (by kernel_rfl) (by kernel_rfl) (fun _ _ _ h => h) (by rfl) ?hrdn10 hS ?_
  case hrdn10 => (intro w hSw; (try dsimp only at hSw); go_split_ands; go_simp; (try with_reducible rfl))
  (try simp only [Act.put, List.setIfInBounds_toArray, List.set_cons_zero, List.set_cons_succ])
  refine any_take 10 ?vrdn11 rfl (by kernel_rfl) (by kernel_rfl) (by kernel_rfl) (fun _ _ _ h => h) (by rfl) ?hrdn11 hS ?_
  case hrdn11 => (intro w hSw; (try dsimp only at hSw); go_split_ands; go_simp; (try with_reducible rfl))
  (try simp only [Act.put, List.setIfInBounds_toArray, List.set_cons_zero, List.set_cons_succ])
  refine any_take 11 ?vrdn12 rfl (by kernel_rfl) (by kernel_rfl) (by kernel_rfl) (fun _ _ _ h => h) (by rfl) ?hrdn12 hS ?_
  case hrdn12 => (intro w hSw; (try dsimp only at hSw); go_split_ands; go_simp; (try with_reducible rfl))
  (try simp only [Act.put, List.setIfInBounds_toArray, List.set_cons_zero, List.set_cons_succ])
  refine any_take 12 ?vrdn13 rfl (by kernel_rfl) (by kernel_rfl) (by kernel_rfl) (fun _ _ _ h => h) (by rfl) ?hrdn13 hS ?_
  case hrdn13 => (intro w hSw; (try dsimp only at hSw); go_split_ands; go_simp; (try with_reducible rfl))
  (try simp only [Act.put, List.setIfInBounds_toArray, List.set_cons_zero, List.set_cons_succ])
  refine any_take 13 ?vrdn14 rfl (by kernel_rfl) (by kernel_rfl) (by kernel_rfl) (fun _ _ _ h => h) (by rfl) ?hrdn14 hS ?_
  case hrdn14 => (intro w hSw; (try dsimp only at hSw); go_split_ands; go_simp; (try with_reducible rfl))
  (try simp only [Act.put, List.setIfInBounds_toArray, List.set_cons_zero, List.set_cons_succ])
  refine any_take 14 ?vrdn15 rfl (by kernel_rfl) (by kernel_rfl) (by kernel_rfl) (fun _ _ _ h => h) (by rfl) ?hrdn15 hS ?_
  case hrdn15 => (intro w hSw; (try dsimp only at hSw); go_split_ands; go_simp; (try with_reducible rfl))
  (try simp only [Act.put, List.setIfInBounds_toArray, List.set_cons_zero, List.set_cons_succ])
  refine any_take 15 ?vrdn16 rfl (by kernel_rfl) (by kernel_rfl) (by kernel_rfl) (fun _ _ _ h => h) (by rfl) ?hrdn16 hS ?_
  case hrdn16 => (intro w hSw; (try dsimp only at hSw); go_split_ands; go_simp; (try with_reducible rfl))
  (try simp only [Act.put, List.setIfInBounds_toArray, List.set_cons_zero, List.set_cons_succ])
  refine any_take 16 ?vrdn17 rfl (by kernel_rfl) (by kernel_rfl) (by kernel_rfl) (fun _ _ _ h => h) (by rfl) ?hrdn17 hS ?_
  case hrdn17 => (intro w hSw; (try dsimp only at hSw); go_split_ands; go_simp; (try with_reducible rfl))
  (try simp only [Act.put, List.setIfInBounds_toArray, List.set_cons_zero, List.set_cons_succ])
  refine any_take 17 (Value.agg (cfC v.c)) rfl (by kernel_rfl) (by kernel_rfl) (by kernel_rfl) (fun _ _ _ h => h) (by rfl) (fun W hW => exec_load 23 (.tmp 40) rfl _ _ rfl hW.1.2.2.2.2.2.2) hS ?_
  (try simp only [Act.put, List.setIfInBounds_toArray, List.set_cons_zero, List.set_cons_succ])
  refine any_one 18 rfl (by kernel_rfl) (by rfl) (fun K hK => ?_)
  have hSS : _ := hS
  clear hS
  go_simp
  refine (KK.out _).mono ?_
  rintro ev wc ⟨rfl, hbc⟩
  refine hK.out _ _ (Dh.step (w := w) (g := g) (q := q) (v := v) (b := b) (k := k) hSS hbc) (fun hS => ?_)
  clear hK
  (try simp only [Act.put, List.setIfInBounds_toArray, List.set_cons_zero, List.set_cons_succ])
  refine any_take 19 ?vrdn18 rfl (by kernel_rfl) (by kernel_rfl) (by kernel_rfl) (fun _ _ _ h => h) (by rfl) ?hrdn18 hS ?_
  case hrdn18 => (intro w hSw; (try dsimp only at hSw); go_split_ands; go_simp; (try with_reducible rfl))
  (try simp only [Act.put, List.setIfInBounds_toArray, List.set_cons_zero, List.set_cons_succ])
  refine any_take 20 ?vrdn19 rfl (by kernel_rfl) (by kernel_rfl) (by kernel_rfl) (fun _ _ _ h => h) (by rfl) ?hrdn19 hS ?_
  case hrdn19 => (intro w hSw; (try dsimp only at hSw); go_split_ands; go_simp; (try with_reducible rfl))
  (try simp only [Act.put, List.setIfInBounds_toArray, List.set_cons_zero, List.set_cons_succ])
  refine wpAnyH_done (by kernel_rfl) ?_ _
  refine NoPanic.normal ?_
  have H4 : Hid (Dh w g q v b k wc) := hS
  clear hS hS0 hSS hbc HK KK
  go_upto_region 6 with fail
  by_cases hz : z = 0
  · have HV3 : Hid (ans = ⟨x, y, z⟩) := by show ans = _; rw [HV2.out, if_pos hz]
    clear HV2
    subst hz
    refine wp_region_noPanic ?_
    refine wp_region_held (S := fun V => (V.cell? ⟨b, 0, none⟩ = some (.bool true) ∧ V.cell? ⟨b, 1, none⟩ = some (.int .i64 k.a) ∧ V.cell? ⟨b, 2, none⟩ = some (.int .i64 k.b) ∧ V.cell? ⟨b, 3, none⟩ = some (.int .i64 k.t) ∧ V.cell? ⟨g, 7, none⟩ = some (.int .i64 v.c.r) ∧ V.cell? ⟨g, 8, none⟩ = some (.int .i64 v.c.l) ∧ (Instr.loadAt 23 (.pointer (some ⟨g, 0, none⟩))).run Try.prog V = .ok (.agg (cfC v.c)) V) ∧ Dm w g q v V ∧ KdAt V b (some k)) (by kernel_rfl) ?_
    have hS := H4.out.drew
    refine any_take 0 ?vren1 rfl (by kernel_rfl) (by kernel_rfl) (by kernel_rfl) (fun _ _ _ h => h) (by rfl) ?hren1 hS ?_
    case hren1 => (intro w hSw; (try dsimp only at hSw); go_split_ands; go_simp; (try with_reducible rfl))
    (try simp only [Act.put, List.setIfInBounds_toArray, List.set_cons_zero, List.set_cons_succ])
    refine any_take 1 ?vren2 rfl (by kernel_rfl) (by kernel_rfl) (by kernel_rfl) (fun _ _ _ h => h) (by rfl) ?hren2 hS ?_
    case hren2 => (intro w hSw; (try dsimp only at hSw); go_split_ands; go_simp; (try with_reducible rfl))
    (try simp only [Act.put, List.setIfInBounds_toArray, List.set_cons_zero, List.set_cons_succ])
    refine any_take 2 ?vren3 rfl (by kernel_rfl) (by kernel_rfl) (by kernel_rfl) (fun _ _ _ h => h) (by rfl) ?hren3 hS ?_
    case hren3 => (intro w hSw; (try dsimp only at hSw); go_split_ands; go_simp; (try with_reducible rfl))
    (try simp only [Act.put, List.setIfInBounds_toArray, List.set_cons_zero, List.set_cons_succ])
    refine any_take 3 ?vren4 rfl (by kernel_rfl) (by kernel_rfl) (by kernel_rfl) (fun _ _ _ h => h) (by rfl) ?hren4 hS ?_
    case hren4 => (intro w hSw; (try dsimp only at hSw); go_split_ands; go_simp; (try with_reducible rfl))
    (try simp only [Act.put, List.setIfInBounds_toArray, List.set_cons_zero, List.set_cons_succ])
    refine any_take 4 ?vren5 rfl (by kernel_rfl) (by kernel_rfl) (by kernel_rfl) (fun _ _ _ h => h) (by rfl) ?hren5 hS ?_
    case hren5 => (intro w hSw; (try dsimp only at hSw); go_split_ands; go_simp; (try with_reducible rfl))
    (try simp only [Act.put, List.setIfInBounds_toArray, List.set_cons_zero, List.set_cons_succ])
    refine any_take 5 ?vren6 rfl (by kernel_rfl) (by kernel_rfl) (by kernel_rfl) (fun _ _ _ h => h) (by rfl) ?hren6 hS ?_
    case hren6 => (intro w hSw; (try dsimp only at hSw); go_split_ands; go_simp; (try with_reducible rfl))
    (try simp only [Act.put, List.setIfInBounds_toArray, List.set_cons_zero, List.set_cons_succ])
    refine any_take 6 ?vren7 rfl (by kernel_rfl) (by kernel_rfl) (by kernel_rfl) (fun _ _ _ h => h) (by rfl) ?hren7 hS ?_
    case hren7 => (intro w hSw; (try dsimp only at hSw); go_split_ands; go_simp; (try with_reducible rfl))
    (try simp only [Act.put, List.setIfInBounds_toArray, List.set_cons_zero, List.set_cons_succ])
    refine any_take 7 ?vren8 rfl (by kernel_rfl) (by kernel_rfl) (by kernel_rfl) (fun _ _ _ h => h) (by rfl) ?hren8 hS ?_
    case hren8 => (intro w hSw; (try dsimp only at hSw); go_split_ands; go_simp; (try with_reducible rfl))
    (try simp only [Act.put, List.setIfInBounds_toArray, List.set_cons_zero, List.set_cons_succ])
    refine any_take 8 ?vren9 rfl (by kernel_rfl) (by kernel_rfl) (by kernel_rfl) (fun _ _ _ h => h) (by rfl) ?hren9 hS ?_
    case hren9 => (intro w hSw; (try dsimp only at hSw); go_split_ands; go_simp; (try with_reducible rfl))
    (try simp only [Act.put, List.setIfInBounds_toArray, List.set_cons_zero, List.set_cons_succ])
    refine any_take 9 ?vren10 rfl (by kernel_rfl) (by kernel_rfl) (by kernel_rfl) (fun _ _ _ h => h) (by rfl) ?hren10 hS ?_
    case hren10 => (intro w hSw; (try dsimp only at hSw); go_split_ands; go_simp; (try with_reducible rfl))
    (try simp only [Act.put, List.setIfInBounds_toArray, List.set_cons_zero, List.set_cons_succ])
    refine any_take 10 ?vren11 rfl (by kernel_rfl) (by kernel_rfl) (by kernel_rfl) (fun _ _ _ h => h) (by rfl) ?hren11 hS ?_
    case hren11 => (intro w hSw; (try dsimp only at hSw); go_split_ands; go_simp; (try with_reducible rfl))
    (try simp only [Act.put, List.setIfInBounds_toArray, List.set_cons_zero, List.set_cons_succ])
    refine any_take 11 ?vren12 rfl (by kernel_rfl) (by kernel_rfl) (by kernel_rfl) (fun _ _ _ h => h) (by rfl) ?hren12 hS ?_
    case hren12 => (intro w hSw; (try dsimp only at hSw); go_split_ands; go_simp; (try with_reducible rfl))
    (try simp only [Act.put, List.setIfInBounds_toArray, List.set_cons_zero, List.set_cons_succ])
    refine any_take 12 ?vren13 rfl (by kernel_rfl) (by kernel_rfl) (by kernel_rfl) (fun _ _ _ h => h) (by rfl) ?hren13 hS ?_
    case hren13 => (intro w hSw; (try dsimp only at hSw); go_split_ands; go_simp; (try with_reducible rfl))
    (try simp only [Act.put, List.setIfInBounds_toArray, List.set_cons_zero, List.set_cons_succ])
    refine any_take 13 ?vren14 rfl (by kernel_rfl) (by kernel_rfl) (by kernel_rfl) (fun _ _ _ h => h) (by rfl) ?hren14 hS ?_
    case hren14 => (intro w hSw; (try dsimp only at hSw); go_split_ands; go_simp; (try with_reducible rfl))
    (try simp only [Act.put, List.setIfInBounds_toArray, List.set_cons_zero, List.set_cons_succ])
    refine any_take 14 ?vren15 rfl (by kernel_rfl) (by kernel_rfl) (by kernel_rfl) (fun _ _ _ h => h) (by rfl) ?hren15 hS ?_
    case hren15 => (intro w hSw; (try dsimp only at hSw); go_split_ands; go_simp; (try with_reducible rfl))
    (try simp only [Act.put, List.setIfInBounds_toArray, List.set_cons_zero, List.set_cons_succ])
    refine any_take 15 ?vren16 rfl (by kernel_rfl) (by kernel_rfl) (by kernel_rfl) (fun _ _ _ h => h) (by rfl) ?hren16 hS ?_
    case hren16 => (intro w hSw; (try dsimp only at hSw); go_split_ands; go_simp; (try with_reducible rfl))
    (try simp only [Act.put, List.setIfInBounds_toArray, List.set_cons_zero, List.set_cons_succ])
    refine any_take 16 ?vren17 rfl (by kernel_rfl) (by kernel_rfl) (by kernel_rfl) (fun _ _ _ h => h) (by rfl) ?hren17 hS ?_
    case hren17 => (intro w hSw; (try dsimp only at hSw); go_split_ands; go_simp; (try with_reducible rfl))
    (try simp only [Act.put, List.setIfInBounds_toArray, List.set_cons_zero, List.set_cons_succ])
    refine any_two 17 21 rfl rfl (by kernel_rfl) (by rfl) (by rfl) (fun K hK => ?_) (fun K hK => ?_)
    · have hSS : _ := hS
      clear hS
      go_simp
      refine (K1.out _).mono ?_
      rintro ev wd ⟨rfl, hbd⟩
      (try have hPc := hP.below hbd)
      refine hK.out _ _ (Dh.step (w := w) (g := g) (q := q) (v := v) (b := b) (k := k) hSS hbd) (fun hS => ?_)
      clear hK
      (try simp only [Act.put, List.setIfInBounds_toArray, List.set_cons_zero, List.set_cons_succ])
      refine any_take 18 ?vren18 rfl (by kernel_rfl) (by kernel_rfl) (by kernel_rfl) (fun _ _ _ h => h) (by rfl) ?hren18 hS ?_
      case hren18 => (intro w hSw; (try dsimp only at hSw); go_split_ands; go_simp; (try with_reducible rfl))
      (try simp only [Act.put, List.setIfInBounds_toArray, List.set_cons_zero, List.set_cons_succ])
      refine any_take 19 ?vren19 rfl (by kernel_rfl) (by kernel_rfl) (by kernel_rfl) (fun _ _ _ h => h) (by rfl) ?hren19 hS ?_
      case hren19 => (intro w hSw; (try dsimp only at hSw); go_split_ands; go_simp; (try with_reducible rfl))
      (try simp only [Act.put, List.setIfInBounds_toArray, List.set_cons_zero, List.set_cons_succ])
      refine any_take 20 ?vren20 rfl (by kernel_rfl) (by kernel_rfl) (by kernel_rfl) (fun _ _ _ h => h) (by rfl) ?hren20 hS ?_
      case hren20 => (intro w hSw; (try dsimp only at hSw); go_split_ands; go_simp; (try with_reducible rfl))
      (try simp only [Act.put, List.setIfInBounds_toArray, List.set_cons_zero, List.set_cons_succ])
      refine any_one 21 rfl (by kernel_rfl) (by rfl) (fun K hK => ?_)
      have hSS : _ := hS
      clear hS
      go_simp
      first | (have hPc := Pair.new wd 0 0; have hN : ∃ W0, Dh w g q v b k W0 ∧ W0.heap.size ≤ wd.heap.size := ⟨_, hSS, Nat.le_refl _⟩) | (have hP : Pair (wc.drew.alloc (.cells #[.int .i64 0, .int .i64 0] 39)) wc.heap.size 0 0 := Pair.new wc.drew 0 0; have hN : ∃ W0, Dh w g q v b k W0 ∧ W0.heap.size ≤ wc.heap.size := ⟨_, hSS, Nat.le_refl _⟩)
      refine hK.out _ _ (Dh.step (w := w) (g := g) (q := q) (v := v) (b := b) (k := k) hSS (Go.Joins.below_alloc1 _ _)) (fun hS => ?_)
      clear hK
      (try simp only [Act.put, List.setIfInBounds_toArray, List.set_cons_zero, List.set_cons_succ])
      refine any_one 22 rfl (by kernel_rfl) (by rfl) (fun K hK => ?_)
      have hSS : _ := hS
      clear hS
      refine op_store_run 39 _ _ rfl _ _ rfl rfl (hPc.stores x y) ?_
      have hPd := hPc.stored x y
      have hAd := Dh.store (w := w) (g := g) (q := q) (v := v) (b := b) (k := k) hSS hN #[.int .i64 x, .int .i64 y]
      refine hK.out _ _ (hAd) (fun hS => ?_)
      clear hK
      (try simp only [Act.put])
      refine any_take 23 ?vren21 rfl (by kernel_rfl) (by kernel_rfl) (by kernel_rfl) (fun _ _ _ h => h) (by rfl) ?hren21 hS ?_
      case hren21 => (intro w hSw; (try dsimp only at hSw); go_split_ands; go_simp; (try with_reducible rfl))
      (try simp only [Act.put, List.setIfInBounds_toArray, List.set_cons_zero, List.set_cons_succ])
      refine wpAnyH_done (by kernel_rfl) ?_ _
      refine NoPanic.normal ?_
      obtain ⟨⟨x0, x1, x2, x3⟩, hfin⟩ := hAd.2.1.fin
      obtain ⟨y0, y1, y2, y3⟩ := hPd.facts
      generalize World.setRow _ _ _ = V9 at *
      have HF : Hid (∀ x y, Pair ((V9.setCell ⟨w.heap.size, 0, none⟩ (.int .i64 x)).setCell ⟨w.heap.size, 1, none⟩ (.int .i64 y)) w.heap.size x y ∧ Below w.heap.size w ((V9.setCell ⟨w.heap.size, 0, none⟩ (.int .i64 x)).setCell ⟨w.heap.size, 1, none⟩ (.int .i64 y))) := hfin
      clear hfin hS hAd hPd hN hSS
      go_wp2
      refine bodyPost_ret (res_pair_tmp rfl rfl (HF.out _ _).1) rfl ?_
      exact ⟨by first | rfl | (rw [HV3.out]; rfl), (HF.out _ _).2⟩
    · have hSS : _ := hS
      clear hS
      go_simp
      first | (have hPc := Pair.new wd 0 0; have hN : ∃ W0, Dh w g q v b k W0 ∧ W0.heap.size ≤ wd.heap.size := ⟨_, hSS, Nat.le_refl _⟩) | (have hP : Pair (wc.drew.alloc (.cells #[.int .i64 0, .int .i64 0] 39)) wc.heap.size 0 0 := Pair.new wc.drew 0 0; have hN : ∃ W0, Dh w g q v b k W0 ∧ W0.heap.size ≤ wc.heap.size := ⟨_, hSS, Nat.le_refl _⟩)
      refine hK.out _ _ (Dh.step (w := w) (g := g) (q := q) (v := v) (b := b) (k := k) hSS (Go.Joins.below_alloc1 _ _)) (fun hS => ?_)
      clear hK
      (try simp only [Act.put, List.setIfInBounds_toArray, List.set_cons_zero, List.set_cons_succ])
      refine any_one 17 rfl (by kernel_rfl) (by rfl) (fun K hK => ?_)
      have hSS : _ := hS
      clear hS
      go_simp
      refine (K1.out _).mono ?_
      rintro ev wd ⟨rfl, hbd⟩
      (try have hPc := hP.below hbd)
      refine hK.out _ _ (Dh.step (w := w) (g := g) (q := q) (v := v) (b := b) (k := k) hSS hbd) (fun hS => ?_)
      clear hK
      (try simp only [Act.put, List.setIfInBounds_toArray, List.set_cons_zero, List.set_cons_succ])
      refine any_take 18 ?vren22 rfl (by kernel_rfl) (by kernel_rfl) (by kernel_rfl) (fun _ _ _ h => h) (by rfl) ?hren22 hS ?_
      case hren22 => (intro w hSw; (try dsimp only at hSw); go_split_ands; go_simp; (try with_reducible rfl))
      (try simp only [Act.put, List.setIfInBounds_toArray, List.set_cons_zero, List.set_cons_succ])
      refine any_take 19 ?vren23 rfl (by kernel_rfl) (by kernel_rfl) (by kernel_rfl) (fun _ _ _ h => h) (by rfl) ?hren23 hS ?_
      case hren23 => (intro w hSw; (try dsimp only at hSw); go_split_ands; go_simp; (try with_reducible rfl))
      (try simp only [Act.put, List.setIfInBounds_toArray, List.set_cons_zero, List.set_cons_succ])
      refine any_take 20 ?vren24 rfl (by kernel_rfl) (by kernel_rfl) (by kernel_rfl) (fun _ _ _ h => h) (by rfl) ?hren24 hS ?_
      case hren24 => (intro w hSw; (try dsimp only at hSw); go_split_ands; go_simp; (try with_reducible rfl))
      (try simp only [Act.put, List.setIfInBounds_toArray, List.set_cons_zero, List.set_cons_succ])
      refine any_one 22 rfl (by kernel_rfl) (by rfl) (fun K hK => ?_)
      have hSS : _ := hS
      clear hS
      refine op_store_run 39 _ _ rfl _ _ rfl rfl (hPc.stores x y) ?_
      have hPd := hPc.stored x y
      have hAd := Dh.store (w := w) (g := g) (q := q) (v := v) (b := b) (k := k) hSS hN #[.int .i64 x, .int .i64 y]
      refine hK.out _ _ (hAd) (fun hS => ?_)
      clear hK
      (try simp only [Act.put])
      refine any_take 23 ?vren25 rfl (by kernel_rfl) (by kernel_rfl) (by kernel_rfl) (fun _ _ _ h => h) (by rfl) ?hren25 hS ?_
      case hren25 => (intro w hSw; (try dsimp only at hSw); go_split_ands; go_simp; (try with_reducible rfl))
      (try simp only [Act.put, List.setIfInBounds_toArray, List.set_cons_zero, List.set_cons_succ])
      refine wpAnyH_done (by kernel_rfl) ?_ _
      refine NoPanic.normal ?_
      obtain ⟨⟨x0, x1, x2, x3⟩, hfin⟩ := hAd.2.1.fin
      obtain ⟨y0, y1, y2, y3⟩ := hPd.facts
      generalize World.setRow _ _ _ = V9 at *
      have HF : Hid (∀ x y, Pair ((V9.setCell ⟨w.heap.size, 0, none⟩ (.int .i64 x)).setCell ⟨w.heap.size, 1, none⟩ (.int .i64 y)) w.heap.size x y ∧ Below w.heap.size w ((V9.setCell ⟨w.heap.size, 0, none⟩ (.int .i64 x)).setCell ⟨w.heap.size, 1, none⟩ (.int .i64 y))) := hfin
      clear hfin hS hAd hPd hN hSS
      go_wp2
      refine bodyPost_ret (res_pair_tmp rfl rfl (HF.out _ _).1) rfl ?_
      exact ⟨by first | rfl | (rw [HV3.out]; rfl), (HF.out _ _).2⟩
  · have HV3 : Hid (ans = noA 6) := by show ans = _; rw [HV2.out, if_neg hz]
    clear HV2
    refine wp_region_noPanic ?_
    refine wp_region_held (S := fun V => (V.cell? ⟨b, 0, none⟩ = some (.bool true) ∧ V.cell? ⟨b, 1, none⟩ = some (.int .i64 k.a) ∧ V.cell? ⟨b, 2, none⟩ = some (.int .i64 k.b) ∧ V.cell? ⟨b, 3, none⟩ = some (.int .i64 k.t) ∧ V.cell? ⟨g, 7, none⟩ = some (.int .i64 v.c.r) ∧ V.cell? ⟨g, 8, none⟩ = some (.int .i64 v.c.l) ∧ (Instr.loadAt 23 (.pointer (some ⟨g, 0, none⟩))).run Try.prog V = .ok (.agg (cfC v.c)) V) ∧ Dm w g q v V ∧ KdAt V b (some k)) (by kernel_rfl) ?_
    have hS := H4.out.drew
    refine any_take 0 ?vrfn1 rfl (by kernel_rfl) (by kernel_rfl) (by kernel_rfl) (fun _ _ _ h => h) (by rfl) ?hrfn1 hS ?_
    case hrfn1 => (intro w hSw; (try dsimp only at hSw); go_split_ands; go_simp; (try with_reducible rfl))
    (try simp only [Act.put, List.setIfInBounds_toArray, List.set_cons_zero, List.set_cons_succ])
    refine any_take 1 ?vrfn2 rfl (by kernel_rfl) (by kernel_rfl) (by kernel_rfl) (fun _ _ _ h => h) (by rfl) ?hrfn2 hS ?_
    case hrfn2 => (intro w hSw; (try dsimp only at hSw); go_split_ands; go_simp; (try with_reducible rfl))
    (try simp only [Act.put, List.setIfInBounds_toArray, List.set_cons_zero, List.set_cons_succ])
    refine any_take 2 ?vrfn3 rfl (by kernel_rfl) (by kernel_rfl) (by kernel_rfl) (fun _ _ _ h => h) (by rfl) ?hrfn3 hS ?_
    case hrfn3 => (intro w hSw; (try dsimp only at hSw); go_split_ands; go_simp; (try with_reducible rfl))
    (try simp only [Act.put, List.setIfInBounds_toArray, List.set_cons_zero, List.set_cons_succ])
    refine any_take 3 ?vrfn4 rfl (by kernel_rfl) (by kernel_rfl) (by kernel_rfl) (fun _ _ _ h => h) (by rfl) ?hrfn4 hS ?_
    case hrfn4 => (intro w hSw; (try dsimp only at hSw); go_split_ands; go_simp; (try with_reducible rfl))
    (try simp only [Act.put, List.setIfInBounds_toArray, List.set_cons_zero, List.set_cons_succ])
    refine any_take 4 ?vrfn5 rfl (by kernel_rfl) (by kernel_rfl) (by kernel_rfl) (fun _ _ _ h => h) (by rfl) ?hrfn5 hS ?_
    case hrfn5 => (intro w hSw; (try dsimp only at hSw); go_split_ands; go_simp; (try with_reducible rfl))
    (try simp only [Act.put, List.setIfInBounds_toArray, List.set_cons_zero, List.set_cons_succ])
    refine any_take 5 ?vrfn6 rfl (by kernel_rfl) (by kernel_rfl) (by kernel_rfl) (fun _ _ _ h => h) (by rfl) ?hrfn6 hS ?_
    case hrfn6 => (intro w hSw; (try dsimp only at hSw); go_split_ands; go_simp; (try with_reducible rfl))
    (try simp only [Act.put, List.setIfInBounds_toArray, List.set_cons_zero, List.set_cons_succ])
    refine any_take 6 ?vrfn7 rfl (by kernel_rfl) (by kernel_rfl) (by kernel_rfl) (fun _ _ _ h => h) (by rfl) ?hrfn7 hS ?_
    case hrfn7 => (intro w hSw; (try dsimp only at hSw); go_split_ands; go_simp; (try with_reducible rfl))
    (try simp only [Act.put, List.setIfInBounds_toArray, List.set_cons_zero, List.set_cons_succ])
    refine any_take 7 ?vrfn8 rfl (by kernel_rfl) (by kernel_rfl) (by kernel_rfl) (fun _ _ _ h => h) (by rfl) ?hrfn8 hS ?_
    case hrfn8 => (intro w hSw; (try dsimp only at hSw); go_split_ands; go_simp; (try with_reducible rfl))
    (try simp only [Act.put, List.setIfInBounds_toArray, List.set_cons_zero, List.set_cons_succ])
    refine any_take 8 ?vrfn9 rfl (by kernel_rfl) (by kernel_rfl) (by kernel_rfl) (fun _ _ _ h => h) (by rfl) ?hrfn9 hS ?_
    case hrfn9 => (intro w hSw; (try dsimp only at hSw); go_split_ands; go_simp; (try with_reducible rfl))
    (try simp only [Act.put, List.setIfInBounds_toArray, List.set_cons_zero, List.set_cons_succ])
    refine any_take 9 ?vrfn10 rfl (by kernel_rfl) (by kernel_rfl) (by kernel_rfl) (fun _ _ _ h => h) (by rfl) ?hrfn10 hS ?_
    case hrfn10 => (intro w hSw; (try dsimp only at hSw); go_split_ands; go_simp; (try with_reducible rfl))
    (try simp only [Act.put, List.setIfInBounds_toArray, List.set_cons_zero, List.set_cons_succ])
    refine any_take 10 ?vrfn11 rfl (by kernel_rfl) (by kernel_rfl) (by kernel_rfl) (fun _ _ _ h => h) (by rfl) ?hrfn11 hS ?_
    case hrfn11 => (intro w hSw; (try dsimp only at hSw); go_split_ands; go_simp; (try with_reducible rfl))
    (try simp only [Act.put, List.setIfInBounds_toArray, List.set_cons_zero, List.set_cons_succ])
    refine any_take 11 ?vrfn12 rfl (by kernel_rfl) (by kernel_rfl) (by kernel_rfl) (fun _ _ _ h => h) (by rfl) ?hrfn12 hS ?_
    case hrfn12 => (intro w hSw; (try dsimp only at hSw); go_split_ands; go_simp; (try with_reducible rfl))
    (try simp only [Act.put, List.setIfInBounds_toArray, List.set_cons_zero, List.set_cons_succ])
    refine any_take 12 ?vrfn13 rfl (by kernel_rfl) (by kernel_rfl) (by kernel_rfl) (fun _ _ _ h => h) (by rfl) ?hrfn13 hS ?_
    case hrfn13 => (intro w hSw; (try dsimp only at hSw); go_split_ands; go_simp; (try with_reducible rfl))
    (try simp only [Act.put, List.setIfInBounds_toArray, List.set_cons_zero, List.set_cons_succ])
    refine any_take 13 ?vrfn14 rfl (by kernel_rfl) (by kernel_rfl) (by kernel_rfl) (fun _ _ _ h => h) (by rfl) ?hrfn14 hS ?_
    case hrfn14 => (intro w hSw; (try dsimp only at hSw); go_split_ands; go_simp; (try with_reducible rfl))
    (try simp only [Act.put, List.setIfInBounds_toArray, List.set_cons_zero, List.set_cons_succ])
    refine any_take 14 ?vrfn15 rfl (by kernel_rfl) (by kernel_rfl) (by kernel_rfl) (fun _ _ _ h => h) (by rfl) ?hrfn15 hS ?_
    case hrfn15 => (intro w hSw; (try dsimp only at hSw); go_split_ands; go_simp; (try with_reducible rfl))
    (try simp only [Act.put, List.setIfInBounds_toArray, List.set_cons_zero, List.set_cons_succ])
    refine any_take 15 ?vrfn16 rfl (by kernel_rfl) (by kernel_rfl) (by kernel_rfl) (fun _ _ _ h => h) (by rfl) ?hrfn16 hS ?_
    case hrfn16 => (intro w hSw; (try dsimp only at hSw); go_split_ands; go_simp; (try with_reducible rfl))
    (try simp only [Act.put, List.setIfInBounds_toArray, List.set_cons_zero, List.set_cons_succ])
    refine any_take 16 ?vrfn17 rfl (by kernel_rfl) (by kernel_rfl) (by kernel_rfl) (fun _ _ _ h => h) (by rfl) ?hrfn17 hS ?_
    case hrfn17 => (intro w hSw; (try dsimp only at hSw); go_split_ands; go_simp; (try with_reducible rfl))
    (try simp only [Act.put, List.setIfInBounds_toArray, List.set_cons_zero, List.set_cons_succ])
    refine any_two 17 21 rfl rfl (by kernel_rfl) (by rfl) (by rfl) (fun K hK => ?_) (fun K hK => ?_)
    · have hSS : _ := hS
      clear hS
      go_simp
      refine (K1.out _).mono ?_
      rintro ev wd ⟨rfl, hbd⟩
      (try have hPc := hP.below hbd)
      refine hK.out _ _ (Dh.step (w := w) (g := g) (q := q) (v := v) (b := b) (k := k) hSS hbd) (fun hS => ?_)
      clear hK
      (try simp only [Act.put, List.setIfInBounds_toArray, List.set_cons_zero, List.set_cons_succ])
      refine any_take 18 ?vrfn18 rfl (by kernel_rfl) (by kernel_rfl) (by kernel_rfl) (fun _ _ _ h => h) (by rfl) ?hrfn18 hS ?_
      case hrfn18 => (intro w hSw; (try dsimp only at hSw); go_split_ands; go_simp; (try with_reducible rfl))
      (try simp only [Act.put, List.setIfInBounds_toArray, List.set_cons_zero, List.set_cons_succ])
      refine any_take 19 ?vrfn19 rfl (by kernel_rfl) (by kernel_rfl) (by kernel_rfl) (fun _ _ _ h => h) (by rfl) ?hrfn19 hS ?_
      case hrfn19 => (intro w hSw; (try dsimp only at hSw); go_split_ands; go_simp; (try with_reducible rfl))
      (try simp only [Act.put, List.setIfInBounds_toArray, List.set_cons_zero, List.set_cons_succ])
      refine any_take 20 ?vrfn20 rfl (by kernel_rfl) (by kernel_rfl) (by kernel_rfl) (fun _ _ _ h => h) (by rfl) ?hrfn20 hS ?_
      case hrfn20 => (intro w hSw; (try dsimp only at hSw); go_split_ands; go_simp; (try with_reducible rfl))
      (try simp only [Act.put, List.setIfInBounds_toArray, List.set_cons_zero, List.set_cons_succ])
      refine any_one 21 rfl (by kernel_rfl) (by rfl) (fun K hK => ?_)
      have hSS : _ := hS
      clear hS
      go_simp
      first | (have hPc := Pair.new wd 0 0; have hN : ∃ W0, Dh w g q v b k W0 ∧ W0.heap.size ≤ wd.heap.size := ⟨_, hSS, Nat.le_refl _⟩) | (have hP : Pair (wc.drew.alloc (.cells #[.int .i64 0, .int .i64 0] 39)) wc.heap.size 0 0 := Pair.new wc.drew 0 0; have hN : ∃ W0, Dh w g q v b k W0 ∧ W0.heap.size ≤ wc.heap.size := ⟨_, hSS, Nat.le_refl _⟩)
      refine hK.out _ _ (Dh.step (w := w) (g := g) (q := q) (v := v) (b := b) (k := k) hSS (Go.Joins.below_alloc1 _ _)) (fun hS => ?_)
      clear hK
      (try simp only [Act.put, List.setIfInBounds_toArray, List.set_cons_zero, List.set_cons_succ])
      refine any_one 22 rfl (by kernel_rfl) (by rfl) (fun K hK => ?_)
      have hSS : _ := hS
      clear hS
      refine op_store_run 39 _ _ rfl _ _ rfl rfl (hPc.stores x y) ?_
      have hPd := hPc.stored x y
      have hAd := Dh.store (w := w) (g := g) (q := q) (v := v) (b := b) (k := k) hSS hN #[.int .i64 x, .int .i64 y]
      refine hK.out _ _ (hAd) (fun hS => ?_)
      clear hK
      (try simp only [Act.put])
      refine any_take 23 ?vrfn21 rfl (by kernel_rfl) (by kernel_rfl) (by kernel_rfl) (fun _ _ _ h => h) (by rfl) ?hrfn21 hS ?_
      case hrfn21 => (intro w hSw; (try dsimp only at hSw); go_split_ands; go_simp; (try with_reducible rfl))
      (try simp only [Act.put, List.setIfInBounds_toArray, List.set_cons_zero, List.set_cons_succ])
      refine wpAnyH_done (by kernel_rfl) ?_ _
      refine NoPanic.normal ?_
      obtain ⟨⟨x0, x1, x2, x3⟩, hfin⟩ := hAd.2.1.fin
      obtain ⟨y0, y1, y2, y3⟩ := hPd.facts
      generalize World.setRow _ _ _ = V9 at *
      have HF : Hid (∀ x y, Pair ((V9.setCell ⟨w.heap.size, 0, none⟩ (.int .i64 x)).setCell ⟨w.heap.size, 1, none⟩ (.int .i64 y)) w.heap.size x y ∧ Below w.heap.size w ((V9.setCell ⟨w.heap.size, 0, none⟩ (.int .i64 x)).setCell ⟨w.heap.size, 1, none⟩ (.int .i64 y))) := hfin
      clear hfin hS hAd hPd hN hSS
      go_wp2
      refine bodyPost_ret (res_pair_tmp rfl rfl (HF.out _ _).1) rfl ?_
      exact ⟨by first | rfl | (rw [HV3.out]; rfl), (HF.out _ _).2⟩
    · have hSS : _ := hS
      clear hS
      go_simp
      first | (have hPc := Pair.new wd 0 0; have hN : ∃ W0, Dh w g q v b k W0 ∧ W0.heap.size ≤ wd.heap.size := ⟨_, hSS, Nat.le_refl _⟩) | (have hP : Pair (wc.drew.alloc (.cells #[.int .i64 0, .int .i64 0] 39)) wc.heap.size 0 0 := Pair.new wc.drew 0 0; have hN : ∃ W0, Dh w g q v b k W0 ∧ W0.heap.size ≤ wc.heap.size := ⟨_, hSS, Nat.le_refl _⟩)
      refine hK.out _ _ (Dh.step (w := w) (g := g) (q := q) (v := v) (b := b) (k := k) hSS (Go.Joins.below_alloc1 _ _)) (fun hS => ?_)
      clear hK
      (try simp only [Act.put, List.setIfInBounds_toArray, List.set_cons_zero, List.set_cons_succ])
      refine any_one 17 rfl (by kernel_rfl) (by rfl) (fun K hK => ?_)
      have hSS : _ := hS
      clear hS
      go_simp
      refine (K1.out _).mono ?_
      rintro ev wd ⟨rfl, hbd⟩
      (try have hPc := hP.below hbd)
      refine hK.out _ _ (Dh.step (w := w) (g := g) (q := q) (v := v) (b := b) (k := k) hSS hbd) (fun hS => ?_)
      clear hK
      (try simp only [Act.put, List.setIfInBounds_toArray, List.set_cons_zero, List.set_cons_succ])
      refine any_take 18 ?vrfn22 rfl (by kernel_rfl) (by kernel_rfl) (by kernel_rfl) (fun _ _ _ h => h) (by rfl) ?hrfn22 hS ?_
      case hrfn22 => (intro w hSw; (try dsimp only at hSw); go_split_ands; go_simp; (try with_reducible rfl))
      (try simp only [Act.put, List.setIfInBounds_toArray, List.set_cons_zero, List.set_cons_succ])
      refine any_take 19 ?vrfn23 rfl (by kernel_rfl) (by kernel_rfl) (by kernel_rfl) (fun _ _ _ h => h) (by rfl) ?hrfn23 hS ?_
      case hrfn23 => (intro w hSw; (try dsimp only at hSw); go_split_ands; go_simp; (try with_reducible rfl))
      (try simp only [Act.put, List.setIfInBounds_toArray, List.set_cons_zero, List.set_cons_succ])
      refine any_take 20 ?vrfn24 rfl (by kernel_rfl) (by kernel_rfl) (by kernel_rfl) (fun _ _ _ h => h) (by rfl) ?hrfn24 hS ?_
      case hrfn24 => (intro w hSw; (try dsimp only at hSw); go_split_ands; go_simp; (try with_reducible rfl))
      (try simp only [Act.put, List.setIfInBounds_toArray, List.set_cons_zero, List.set_cons_succ])
      refine any_one 22 rfl (by kernel_rfl) (by rfl) (fun K hK => ?_)
      have hSS : _ := hS
      clear hS
      refine op_store_run 39 _ _ rfl _ _ rfl rfl (hPc.stores x y) ?_
      have hPd := hPc.stored x y
      have hAd := Dh.store (w := w) (g := g) (q := q) (v := v) (b := b) (k := k) hSS hN #[.int .i64 x, .int .i64 y]
      refine hK.out _ _ (hAd) (fun hS => ?_)
      clear hK
      (try simp only [Act.put])
      refine any_take 23 ?vrfn25 rfl (by kernel_rfl) (by kernel_rfl) (by kernel_rfl) (fun _ _ _ h => h) (by rfl) ?hrfn25 hS ?_
      case hrfn25 => (intro w hSw; (try dsimp only at hSw); go_split_ands; go_simp; (try with_reducible rfl))
      (try simp only [Act.put, List.setIfInBounds_toArray, List.set_cons_zero, List.set_cons_succ])
      refine wpAnyH_done (by kernel_rfl) ?_ _
      refine NoPanic.normal ?_
      obtain ⟨⟨x0, x1, x2, x3⟩, hfin⟩ := hAd.2.1.fin
      obtain ⟨y0, y1, y2, y3⟩ := hPd.facts
      generalize World.setRow _ _ _ = V9 at *
      have HF : Hid (∀ x y, Pair ((V9.setCell ⟨w.heap.size, 0, none⟩ (.int .i64 x)).setCell ⟨w.heap.size, 1, none⟩ (.int .i64 y)) w.heap.size x y ∧ Below w.heap.size w ((V9.setCell ⟨w.heap.size, 0, none⟩ (.int .i64 x)).setCell ⟨w.heap.size, 1, none⟩ (.int .i64 y))) := hfin
      clear hfin hS hAd hPd hN hSS
      go_wp2
      refine bodyPost_ret (res_pair_tmp rfl rfl (HF.out _ _).1) rfl ?_
      exact ⟨by first | rfl | (rw [HV3.out]; rfl), (HF.out _ _).2⟩

theorem dat_ok (w : World) (g q : Nat) (v : Bt) (h : Rd w g q v) (ok : v.ok) (f t : Int) :
    Calls Try.prog 15 #[.pointer (some ⟨g, 0, none⟩), .int .i64 f, .int .i64 t] w fun e w' => e = .returned (.tuple #[.agg #[.int .i64 (atA v f t).a, .int .i64 (atA v f t).b], .int .i64 (atA v f t).e]) ∧ Below w.heap.size w w' := by
  cases hf : mayF v f t
  · rw [atA, hf, if_neg Bool.false_ne_true]
    exact dat_bad w g q v h f t hf
  · rw [atA, hf, if_pos rfl]
    cases hk : v.K f with
    | none => exact dat_none w g q v h ok f t hf hk
    | some k => exact dat_some w g q v h ok f t hf k hk
end Go.Proofs.Ytoibndfiolipbaa
