/-
  The record from and to three words; the two changes that are saved first.
-/
import Derived.Test.YtjmbioedpghopaaResB
namespace Go.Proofs.Ytjmbioedpghopaa
open Go.ChangeShapes Go.WideShapes Go.ChangeAt Go.RowKit

def recV (x y z : Nat) : Value := .agg #[.int .u32 (x : Int), .int .u32 (y : Int), .int .u32 (z : Int)]

theorem words_ok (w : World) (x y z : Nat) : Calls Try.prog 51 #[.agg #[.int .u32 (x : Int), .int .u32 (y : Int), .int .u32 (z : Int)]] w fun e w' => e = .returned (.agg #[.int .u32 (x : Int), .int .u32 (y : Int), .int .u32 (z : Int)]) ∧ Below w.heap.size w w' := by
  obtain ⟨W, hW⟩ : ∃ W, W = (w.alloc (.cells #[.int .u32 (x : Int), .int .u32 (y : Int), .int .u32 (z : Int)] 58)).alloc (.cells #[.int .u32 0, .int .u32 0, .int .u32 0] 102) := ⟨_, rfl⟩
  have hb : Below w.heap.size w W := by rw [hW]; exact ((Below.refl _ _).alloc (Nat.le_refl _) _).alloc (by simp) _
  have t1 : Three 58 W w.heap.size x y z := by rw [hW]; exact (Three.new 58 w x y z).alloc _
  have t2 : Three 102 W (w.heap.size + 1) 0 0 0 := by rw [hW]; have := Three.new 102 (w.alloc (.cells #[.int .u32 (x : Int), .int .u32 (y : Int), .int .u32 (z : Int)] 58)) 0 0 0; simpa using this
  have a0 := t1.c0
  have a1 := t1.c1
  have a2 := t1.c2
  have b0 := t2.c0
  have b1 := t2.c1
  have b2 := t2.c2
  have f0 := t2.fz 0
  have f1 := t2.fz 1
  have f2 := t2.fz 2
  have HT := t2.set x y z
  have HT : Hid (Three 102 (((W.setCell ⟨w.heap.size + 1, 0, none⟩ (.int .u32 (x : Int))).setCell ⟨w.heap.size + 1, 1, none⟩ (.int .u32 (y : Int))).setCell ⟨w.heap.size + 1, 2, none⟩ (.int .u32 (z : Int))) (w.heap.size + 1) x y z) := HT
  have HB : Hid (Below w.heap.size w (((W.setCell ⟨w.heap.size + 1, 0, none⟩ (.int .u32 (x : Int))).setCell ⟨w.heap.size + 1, 1, none⟩ (.int .u32 (y : Int))).setCell ⟨w.heap.size + 1, 2, none⟩ (.int .u32 (z : Int)))) := below_three hb (by omega) _ _ _
  have HW : Hid (W = (w.alloc (.cells #[.int .u32 (x : Int), .int .u32 (y : Int), .int .u32 (z : Int)] 58)).alloc (.cells #[.int .u32 0, .int .u32 0, .int .u32 0] 102)) := hW
  clear hb t1 t2 hW
  go_enter Try.func51, Try.ntmps51
  go_upto_region 1 with fail
  rw [← HW.out]
  go_wp2
  refine bodyPost_ret (res_arr rfl rfl HT.out) rfl ?_
  exact ⟨rfl, HB.out⟩
theorem recOf_ok (w : World) (x y z : Nat) : Calls Try.prog 60 #[.agg #[.int .u32 (x : Int), .int .u32 (y : Int), .int .u32 (z : Int)]] w fun e w' => e = .returned (.agg #[.int .u32 (x : Int), .int .u32 (y : Int), .int .u32 0]) ∧ Below w.heap.size w w' := by
  obtain ⟨W, hW⟩ : ∃ W, W = (w.alloc (.cells #[.int .u32 (x : Int), .int .u32 (y : Int), .int .u32 (z : Int)] 102)).alloc (.cells #[.int .u32 0, .int .u32 0, .int .u32 0] 58) := ⟨_, rfl⟩
  have hb : Below w.heap.size w W := by rw [hW]; exact ((Below.refl _ _).alloc (Nat.le_refl _) _).alloc (by simp) _
  have t1 : Three 102 W w.heap.size x y z := by rw [hW]; exact (Three.new 102 w x y z).alloc _
  have t2 : Three 58 W (w.heap.size + 1) 0 0 0 := by rw [hW]; have := Three.new 58 (w.alloc (.cells #[.int .u32 (x : Int), .int .u32 (y : Int), .int .u32 (z : Int)] 102)) 0 0 0; simpa using this
  have a0 := t1.c0
  have a1 := t1.c1
  have a2 := t1.c2
  have b0 := t2.c0
  have b1 := t2.c1
  have b2 := t2.c2
  have f0 := t2.fz 0
  have f1 := t2.fz 1
  have f2 := t2.fz 2
  have HT := t2.set x y 0
  have HT : Hid (Three 58 (((W.setCell ⟨w.heap.size + 1, 0, none⟩ (.int .u32 (x : Int))).setCell ⟨w.heap.size + 1, 1, none⟩ (.int .u32 (y : Int))).setCell ⟨w.heap.size + 1, 2, none⟩ (.int .u32 0)) (w.heap.size + 1) x y 0) := HT
  have HB : Hid (Below w.heap.size w (((W.setCell ⟨w.heap.size + 1, 0, none⟩ (.int .u32 (x : Int))).setCell ⟨w.heap.size + 1, 1, none⟩ (.int .u32 (y : Int))).setCell ⟨w.heap.size + 1, 2, none⟩ (.int .u32 0))) := below_three hb (by omega) _ _ _
  have HW : Hid (W = (w.alloc (.cells #[.int .u32 (x : Int), .int .u32 (y : Int), .int .u32 (z : Int)] 102)).alloc (.cells #[.int .u32 0, .int .u32 0, .int .u32 0] 58)) := hW
  clear hb t1 t2 hW
  go_enter Try.func60, Try.ntmps60
  go_upto_region 1 with fail
  rw [← HW.out]
  go_wp2
  refine bodyPost_ret (res_rec rfl rfl HT.out) rfl ?_
  exact ⟨rfl, HB.out⟩
theorem born1_ok (w : World) (x y z : Nat) (hx : x ≤ 65535) : Calls Try.prog 40 #[.agg #[.int .u32 (x : Int), .int .u32 (y : Int), .int .u32 (z : Int)]] w fun e w' => e = .returned (.agg #[.int .u32 ((x + 1 : Nat) : Int), .int .u32 (y : Int), .int .u32 (z : Int)]) ∧ Below w.heap.size w w' := by
  obtain ⟨W, hW⟩ : ∃ W, W = (w.alloc (.cells #[.int .u32 (x : Int), .int .u32 (y : Int), .int .u32 (z : Int)] 58)).alloc (.cells #[.int .u32 0, .int .u32 0, .int .u32 0] 58) := ⟨_, rfl⟩
  have hb : Below w.heap.size w W := by rw [hW]; exact ((Below.refl _ _).alloc (Nat.le_refl _) _).alloc (by simp) _
  have t1 : Three 58 W w.heap.size x y z := by rw [hW]; exact (Three.new 58 w x y z).alloc _
  have t2 : Three 58 W (w.heap.size + 1) 0 0 0 := by rw [hW]; have := Three.new 58 (w.alloc (.cells #[.int .u32 (x : Int), .int .u32 (y : Int), .int .u32 (z : Int)] 58)) 0 0 0; simpa using this
  obtain ⟨X, hX⟩ : ∃ X, X = x + 1 := ⟨_, rfl⟩
  rw [← hX]
  have eX : (x : Int) + 1 = (X : Int) := by omega
  have wX : IntKind.u32.wrap (X : Int) = (X : Int) := by rw [IntKind.wrap_u32]; omega
  obtain ⟨V, hV⟩ : ∃ V, V = W.setCell ⟨w.heap.size, 0, none⟩ (.int .u32 (X : Int)) := ⟨_, rfl⟩
  have v1 : Three 58 V w.heap.size X y z := by
    rw [hV]; show (W.setCell ⟨w.heap.size, 0, none⟩ (.int .u32 (X : Int))).heap[w.heap.size]? = _
    rw [heap_setCell_same _ _ _ _ _ _ t1]; rfl
  have v2 : Three 58 V (w.heap.size + 1) 0 0 0 := by
    rw [hV]; show (W.setCell ⟨w.heap.size, 0, none⟩ (.int .u32 (X : Int))).heap[w.heap.size + 1]? = _
    rw [heap_setCell_other _ _ _ _ (by show w.heap.size + 1 ≠ w.heap.size; omega)]; exact t2
  have a0 := t1.c0
  have fa := t1.fz 0
  have HV : Hid (V = W.setCell ⟨w.heap.size, 0, none⟩ (.int .u32 (X : Int))) := hV
  have HW : Hid (W = (w.alloc (.cells #[.int .u32 (x : Int), .int .u32 (y : Int), .int .u32 (z : Int)] 58)).alloc (.cells #[.int .u32 0, .int .u32 0, .int .u32 0] 58)) := hW
  have HVV : Hid (Three 58 V w.heap.size X y z ∧ Three 58 V (w.heap.size + 1) 0 0 0) := ⟨v1, v2⟩
  have HBV : Hid (Below w.heap.size w V) := by rw [hV]; exact hb.setCell (p := ⟨w.heap.size, 0, none⟩) (Nat.le_refl _) _
  clear hb t1 t2 hW hV hX v1 v2
  go_enter Try.func40, Try.ntmps40
  go_upto_region 1 with fail
  rw [← HW.out]
  go_upto_region 2 with fail
  rw [← HV.out]
  clear a0 fa HW HV
  obtain ⟨v1, v2⟩ := HVV.out
  have a0 := v1.c0
  have a1 := v1.c1
  have a2 := v1.c2
  have b0 := v2.c0
  have b1 := v2.c1
  have b2 := v2.c2
  have f0 := v2.fz 0
  have f1 := v2.fz 1
  have f2 := v2.fz 2
  have HT := v2.set X y z
  have HT : Hid (Three 58 (((V.setCell ⟨w.heap.size + 1, 0, none⟩ (.int .u32 (X : Int))).setCell ⟨w.heap.size + 1, 1, none⟩ (.int .u32 (y : Int))).setCell ⟨w.heap.size + 1, 2, none⟩ (.int .u32 (z : Int))) (w.heap.size + 1) X y z) := HT
  have HB : Hid (Below w.heap.size w (((V.setCell ⟨w.heap.size + 1, 0, none⟩ (.int .u32 (X : Int))).setCell ⟨w.heap.size + 1, 1, none⟩ (.int .u32 (y : Int))).setCell ⟨w.heap.size + 1, 2, none⟩ (.int .u32 (z : Int)))) := below_three HBV.out (by omega) _ _ _
  clear v1 v2 HVV HBV
  go_wp2
  refine bodyPost_ret (res_rec rfl rfl HT.out) rfl ?_
  exact ⟨rfl, HB.out⟩

/-- What Take saves first: the mark stays, or is n and a block's numbers. -/
def newM (v : VS) (n : Nat) : Nat := min (n + v.blk) 1048576

theorem take1_low (w : World) (R b pn pr : Nat) (v : VS) (h : RC w R b v) (hm : v.mark ≤ 1048576) (n : Nat) (hn : n < v.mark) (cn : w.cell? ⟨pn, 0, none⟩ = some (.int .i64 (n : Int))) (cr : w.cell? ⟨pr, 0, none⟩ = some (.pointer (some ⟨R, 0, none⟩))) (x y z : Nat) :
    Calls Try.prog 38 #[.agg #[.int .u32 (x : Int), .int .u32 (y : Int), .int .u32 (z : Int)], .pointer (some ⟨pn, 0, none⟩), .pointer (some ⟨pr, 0, none⟩)] w fun e w' => e = .returned (.agg #[.int .u32 (x : Int), .int .u32 (y : Int), .int .u32 (z : Int)]) ∧ Below w.heap.size w w' := by
  obtain ⟨W, hW⟩ : ∃ W, W = (w.alloc (.cells #[.int .u32 (x : Int), .int .u32 (y : Int), .int .u32 (z : Int)] 58)).alloc (.cells #[.int .u32 0, .int .u32 0, .int .u32 0] 58) := ⟨_, rfl⟩
  have hb : Below w.heap.size w W := by rw [hW]; exact ((Below.refl _ _).alloc (Nat.le_refl _) _).alloc (by simp) _
  have t1 : Three 58 W w.heap.size x y z := by rw [hW]; exact (Three.new 58 w x y z).alloc _
  have t2 : Three 58 W (w.heap.size + 1) 0 0 0 := by rw [hW]; have := Three.new 58 (w.alloc (.cells #[.int .u32 (x : Int), .int .u32 (y : Int), .int .u32 (z : Int)] 58)) 0 0 0; simpa using this
  have cn' : W.cell? ⟨pn, 0, none⟩ = some (.int .i64 (n : Int)) := by rw [hb.cell (World.block_lt_of_cell? w _ cn)]; exact cn
  have cr' : W.cell? ⟨pr, 0, none⟩ = some (.pointer (some ⟨R, 0, none⟩)) := by rw [hb.cell (World.block_lt_of_cell? w _ cr)]; exact cr
  have K : Hid (∀ V, Below W.heap.size W V → Calls Try.prog 23 #[.pointer (some ⟨R, 0, none⟩)] V fun e w' => e = .returned (.int .i64 (v.mark : Int)) ∧ w' = V) := fun V hV => mark_ok V R b v ((h.below hb).below hV) hm
  obtain ⟨m, hmm⟩ : ∃ m, m = v.mark := ⟨_, rfl⟩
  rw [← hmm] at K hn
  have hlt : (n : Int) < (m : Int) := by omega
  have H0 : Hid ((W.cell? ⟨pn, 0, none⟩ = some (.int .i64 (n : Int)) ∧ W.cell? ⟨pr, 0, none⟩ = some (.pointer (some ⟨R, 0, none⟩))) ∧ Below W.heap.size W W) := ⟨⟨cn', cr'⟩, Below.refl _ _⟩
  have HD : Hid (∀ V, ((V.cell? ⟨pn, 0, none⟩ = some (.int .i64 (n : Int)) ∧ V.cell? ⟨pr, 0, none⟩ = some (.pointer (some ⟨R, 0, none⟩))) ∧ Below W.heap.size W V) → ((V.drew.cell? ⟨pn, 0, none⟩ = some (.int .i64 (n : Int)) ∧ V.drew.cell? ⟨pr, 0, none⟩ = some (.pointer (some ⟨R, 0, none⟩))) ∧ Below W.heap.size W V.drew)) := fun V hV => ⟨hV.1, hV.2.drew⟩
  have HT12 : Hid (Three 58 W w.heap.size x y z ∧ Three 58 W (w.heap.size + 1) 0 0 0 ∧ Below w.heap.size w W) := ⟨t1, t2, hb⟩
  have HW : Hid (W = (w.alloc (.cells #[.int .u32 (x : Int), .int .u32 (y : Int), .int .u32 (z : Int)] 58)).alloc (.cells #[.int .u32 0, .int .u32 0, .int .u32 0] 58)) := hW
  clear hb t1 t2 hW cn cr h hm hmm hn
  go_enter Try.func38, Try.ntmps38
  go_upto_region 1 with fail
  rw [← HW.out]
  clear HW
  go_region_held3 (fun V => (V.cell? ⟨pn, 0, none⟩ = some (.int .i64 (n : Int)) ∧ V.cell? ⟨pr, 0, none⟩ = some (.pointer (some ⟨R, 0, none⟩))) ∧ Below W.heap.size W V)
    (first | exact H0.out | assumption | exact HD.out _ H0.out | exact HD.out _ (by assumption))
    (first | (go_at_call 23; (with_reducible refine (K.out _ ?_).mono ?_); (focus (first | exact (Below.refl _ _) | exact (Below.refl _ _).drew | assumption)); rintro e w9 ⟨rfl, rfl⟩))
  have dm : decide (m ≤ n) = false := by simp; omega
  rw [dm]
  clear dm
  obtain ⟨V, hV⟩ : ∃ V, V = W.drew := ⟨_, rfl⟩
  have HVV : Hid (Three 58 V w.heap.size x y z ∧ Three 58 V (w.heap.size + 1) 0 0 0 ∧ Below w.heap.size w V) := by rw [hV]; exact ⟨HT12.out.1, HT12.out.2.1, HT12.out.2.2.drew⟩
  rw [← hV]
  clear hV cn' cr' H0 HD K HT12 hlt
  obtain ⟨v1, v2, hbv⟩ := HVV.out
  have a0 := v1.c0
  have a1 := v1.c1
  have a2 := v1.c2
  have b0 := v2.c0
  have b1 := v2.c1
  have b2 := v2.c2
  have f0 := v2.fz 0
  have f1 := v2.fz 1
  have f2 := v2.fz 2
  have HT := v2.set x y z
  have HT : Hid (Three 58 (((V.setCell ⟨w.heap.size + 1, 0, none⟩ (.int .u32 (x : Int))).setCell ⟨w.heap.size + 1, 1, none⟩ (.int .u32 (y : Int))).setCell ⟨w.heap.size + 1, 2, none⟩ (.int .u32 (z : Int))) (w.heap.size + 1) x y z) := HT
  have HB : Hid (Below w.heap.size w (((V.setCell ⟨w.heap.size + 1, 0, none⟩ (.int .u32 (x : Int))).setCell ⟨w.heap.size + 1, 1, none⟩ (.int .u32 (y : Int))).setCell ⟨w.heap.size + 1, 2, none⟩ (.int .u32 (z : Int)))) := below_three hbv (by omega) _ _ _
  clear v1 v2 hbv HVV
  go_wp2
  refine bodyPost_ret (res_rec rfl rfl HT.out) rfl ?_
  exact ⟨rfl, HB.out⟩
theorem take1_high (w : World) (R b pn pr : Nat) (v : VS) (h : RC w R b v) (hm : v.mark ≤ 1048576) (n : Nat) (hn : v.mark ≤ n) (hn2 : n < 1048576) (hb1 : v.blk ≤ 1024) (cn : w.cell? ⟨pn, 0, none⟩ = some (.int .i64 (n : Int))) (cr : w.cell? ⟨pr, 0, none⟩ = some (.pointer (some ⟨R, 0, none⟩))) (x y z : Nat) :
    Calls Try.prog 38 #[.agg #[.int .u32 (x : Int), .int .u32 (y : Int), .int .u32 (z : Int)], .pointer (some ⟨pn, 0, none⟩), .pointer (some ⟨pr, 0, none⟩)] w fun e w' => e = .returned (.agg #[.int .u32 (x : Int), .int .u32 ((newM v n : Nat) : Int), .int .u32 (z : Int)]) ∧ Below w.heap.size w w' := by
  obtain ⟨W, hW⟩ : ∃ W, W = (w.alloc (.cells #[.int .u32 (x : Int), .int .u32 (y : Int), .int .u32 (z : Int)] 58)).alloc (.cells #[.int .u32 0, .int .u32 0, .int .u32 0] 58) := ⟨_, rfl⟩
  have hb : Below w.heap.size w W := by rw [hW]; exact ((Below.refl _ _).alloc (Nat.le_refl _) _).alloc (by simp) _
  have t1 : Three 58 W w.heap.size x y z := by rw [hW]; exact (Three.new 58 w x y z).alloc _
  have t2 : Three 58 W (w.heap.size + 1) 0 0 0 := by rw [hW]; have := Three.new 58 (w.alloc (.cells #[.int .u32 (x : Int), .int .u32 (y : Int), .int .u32 (z : Int)] 58)) 0 0 0; simpa using this
  have cn' : W.cell? ⟨pn, 0, none⟩ = some (.int .i64 (n : Int)) := by rw [hb.cell (World.block_lt_of_cell? w _ cn)]; exact cn
  have cr' : W.cell? ⟨pr, 0, none⟩ = some (.pointer (some ⟨R, 0, none⟩)) := by rw [hb.cell (World.block_lt_of_cell? w _ cr)]; exact cr
  have K : Hid (∀ V, Below W.heap.size W V → Calls Try.prog 23 #[.pointer (some ⟨R, 0, none⟩)] V fun e w' => e = .returned (.int .i64 (v.mark : Int)) ∧ w' = V) := fun V hV => mark_ok V R b v ((h.below hb).below hV) hm
  obtain ⟨m, hmm⟩ : ∃ m, m = v.mark := ⟨_, rfl⟩
  rw [← hmm] at K hn
  have hlt : (m : Int) ≤ (n : Int) := by omega
  have d1 := (h.below hb).c1
  obtain ⟨k, hk⟩ : ∃ k, k = v.blk := ⟨_, rfl⟩
  obtain ⟨M, hM⟩ : ∃ M, M = newM v n := ⟨_, rfl⟩
  rw [← hM]
  have HM : Hid (M = min (n + k) 1048576) := by show M = _; rw [hM, hk]; rfl
  rw [← hk] at d1 hb1
  have HC : Hid (W.cell? ⟨R, 1, none⟩ = some (.int .i64 (k : Int))) := d1
  have H0 : Hid ((W.cell? ⟨pn, 0, none⟩ = some (.int .i64 (n : Int)) ∧ W.cell? ⟨pr, 0, none⟩ = some (.pointer (some ⟨R, 0, none⟩))) ∧ Below W.heap.size W W) := ⟨⟨cn', cr'⟩, Below.refl _ _⟩
  have HD : Hid (∀ V, ((V.cell? ⟨pn, 0, none⟩ = some (.int .i64 (n : Int)) ∧ V.cell? ⟨pr, 0, none⟩ = some (.pointer (some ⟨R, 0, none⟩))) ∧ Below W.heap.size W V) → ((V.drew.cell? ⟨pn, 0, none⟩ = some (.int .i64 (n : Int)) ∧ V.drew.cell? ⟨pr, 0, none⟩ = some (.pointer (some ⟨R, 0, none⟩))) ∧ Below W.heap.size W V.drew)) := fun V hV => ⟨hV.1, hV.2.drew⟩
  have HT12 : Hid (Three 58 W w.heap.size x y z ∧ Three 58 W (w.heap.size + 1) 0 0 0 ∧ Below w.heap.size w W) := ⟨t1, t2, hb⟩
  have HW : Hid (W = (w.alloc (.cells #[.int .u32 (x : Int), .int .u32 (y : Int), .int .u32 (z : Int)] 58)).alloc (.cells #[.int .u32 0, .int .u32 0, .int .u32 0] 58)) := hW
  clear hb t1 t2 hW cn cr h hm hmm hn hM hk d1
  go_enter Try.func38, Try.ntmps38
  go_upto_region 1 with fail
  rw [← HW.out]
  clear HW
  go_region_held3 (fun V => (V.cell? ⟨pn, 0, none⟩ = some (.int .i64 (n : Int)) ∧ V.cell? ⟨pr, 0, none⟩ = some (.pointer (some ⟨R, 0, none⟩))) ∧ Below W.heap.size W V)
    (first | exact H0.out | assumption | exact HD.out _ H0.out | exact HD.out _ (by assumption))
    (first | (go_at_call 23; (with_reducible refine (K.out _ ?_).mono ?_); (focus (first | exact (Below.refl _ _) | exact (Below.refl _ _).drew | assumption)); rintro e w9 ⟨rfl, rfl⟩))
  obtain ⟨V, hV⟩ : ∃ V, V = W.drew := ⟨_, rfl⟩
  have HVV : Hid (Three 58 V w.heap.size x y z ∧ Three 58 V (w.heap.size + 1) 0 0 0 ∧ Below w.heap.size w V) := by rw [hV]; exact ⟨HT12.out.1, HT12.out.2.1, HT12.out.2.2.drew⟩
  have d1 : V.cell? ⟨R, 1, none⟩ = some (.int .i64 (k : Int)) := by rw [hV]; exact HC.out
  have cn : V.cell? ⟨pn, 0, none⟩ = some (.int .i64 (n : Int)) := by rw [hV]; exact cn'
  have cr : V.cell? ⟨pr, 0, none⟩ = some (.pointer (some ⟨R, 0, none⟩)) := by rw [hV]; exact cr'
  rw [← hV]
  clear hV cn' cr' H0 HD K HT12 HC
  obtain ⟨N, hN⟩ : ∃ N, N = n + k := ⟨_, rfl⟩
  have eN : (n : Int) + (k : Int) = (N : Int) := by omega
  have wN : IntKind.i64.wrap (N : Int) = (N : Int) := by rw [IntKind.wrap_i64]; omega
  have fa := HVV.out.1.fz 1
  have ha := HVV.out.1.c1
  have HM2 : Hid (M ≤ 1048576) := by show M ≤ 1048576; rw [HM.out]; omega
  have HMN : Hid (M = min N 1048576) := by show M = _; rw [HM.out, hN]
  clear hN HM
  have HD : Hid (∀ X, X = (V.setCell ⟨w.heap.size, 1, none⟩ (.int .u32 (M : Int))).drew → Three 58 X w.heap.size x M z ∧ Three 58 X (w.heap.size + 1) 0 0 0 ∧ Below w.heap.size w X) := fun X hX => by
    have t1 : Three 58 V w.heap.size x y z := HVV.out.1
    have t2 : Three 58 V (w.heap.size + 1) 0 0 0 := HVV.out.2.1
    refine ⟨?_, ?_, ?_⟩
    · rw [hX]; show (V.setCell ⟨w.heap.size, 1, none⟩ (.int .u32 (M : Int))).heap[w.heap.size]? = _
      rw [heap_setCell_same _ _ _ _ _ _ t1]; rfl
    · rw [hX]; show (V.setCell ⟨w.heap.size, 1, none⟩ (.int .u32 (M : Int))).heap[w.heap.size + 1]? = _
      rw [heap_setCell_other _ _ _ _ (by show w.heap.size + 1 ≠ w.heap.size; omega)]; exact t2
    · rw [hX]; exact (HVV.out.2.2.setCell (p := ⟨w.heap.size, 1, none⟩) (Nat.le_refl _) _).drew
  by_cases hle : N ≤ 1048576
  · have eM : M = N := by have := HMN.out; omega
    have hlI : ¬ (1048576 : Int) < (M : Int) := by omega
    have cM : IntKind.u32.wrap (M : Int) = (M : Int) := by rw [IntKind.wrap_u32]; have := HM2.out; omega
    subst eM
    clear HMN
    go_wp2
    go_big_region
    obtain ⟨X, hX⟩ : ∃ X, X = (V.setCell ⟨w.heap.size, 1, none⟩ (.int .u32 (M : Int))).drew := ⟨_, rfl⟩
    obtain ⟨v1, v2, hbv⟩ := HD.out X hX
    rw [← hX]
    clear hX HD HVV fa ha d1 cn cr
    have a0 := v1.c0
    have a1 := v1.c1
    have a2 := v1.c2
    have b0 := v2.c0
    have b1 := v2.c1
    have b2 := v2.c2
    have f0 := v2.fz 0
    have f1 := v2.fz 1
    have f2 := v2.fz 2
    have HT := v2.set x M z
    have HT : Hid (Three 58 (((X.setCell ⟨w.heap.size + 1, 0, none⟩ (.int .u32 (x : Int))).setCell ⟨w.heap.size + 1, 1, none⟩ (.int .u32 (M : Int))).setCell ⟨w.heap.size + 1, 2, none⟩ (.int .u32 (z : Int))) (w.heap.size + 1) x M z) := HT
    have HB : Hid (Below w.heap.size w (((X.setCell ⟨w.heap.size + 1, 0, none⟩ (.int .u32 (x : Int))).setCell ⟨w.heap.size + 1, 1, none⟩ (.int .u32 (M : Int))).setCell ⟨w.heap.size + 1, 2, none⟩ (.int .u32 (z : Int)))) := below_three hbv (by omega) _ _ _
    clear v1 v2 hbv
    go_wp2
    refine bodyPost_ret (res_rec rfl rfl HT.out) rfl ?_
    exact ⟨rfl, HB.out⟩
  · have eM : M = 1048576 := by have := HMN.out; omega
    have hlI : (1048576 : Int) < (N : Int) := by omega
    subst eM
    clear HMN
    go_wp2
    go_big_region
    obtain ⟨X, hX⟩ : ∃ X, X = (V.setCell ⟨w.heap.size, 1, none⟩ (.int .u32 (1048576 : Int))).drew := ⟨_, rfl⟩
    obtain ⟨v1, v2, hbv⟩ := HD.out X hX
    rw [← hX]
    clear hX HD HVV fa ha d1 cn cr
    have a0 := v1.c0
    have a1 := v1.c1
    have a2 := v1.c2
    have b0 := v2.c0
    have b1 := v2.c1
    have b2 := v2.c2
    have f0 := v2.fz 0
    have f1 := v2.fz 1
    have f2 := v2.fz 2
    have HT := v2.set x 1048576 z
    have HT : Hid (Three 58 (((X.setCell ⟨w.heap.size + 1, 0, none⟩ (.int .u32 (x : Int))).setCell ⟨w.heap.size + 1, 1, none⟩ (.int .u32 (1048576 : Int))).setCell ⟨w.heap.size + 1, 2, none⟩ (.int .u32 (z : Int))) (w.heap.size + 1) x 1048576 z) := HT
    have HB : Hid (Below w.heap.size w (((X.setCell ⟨w.heap.size + 1, 0, none⟩ (.int .u32 (x : Int))).setCell ⟨w.heap.size + 1, 1, none⟩ (.int .u32 (1048576 : Int))).setCell ⟨w.heap.size + 1, 2, none⟩ (.int .u32 (z : Int)))) := below_three hbv (by omega) _ _ _
    clear v1 v2 hbv
    go_wp2
    refine bodyPost_ret (res_rec rfl rfl HT.out) rfl ?_
    exact ⟨rfl, HB.out⟩
end Go.Proofs.Ytjmbioedpghopaa
