/-
  A row of bits in memory, at the head of an object; what an append and the stores leave. No contract here.

  The contract of row.add.
-/
import Derived.Test.YtaihjnaggmmiiaaGreatDoorBitsC
namespace Go.Proofs.YtaihjnaggmmiiaaGreatDoor
open Go.ChangeShapes Go.WideShapes Go.ChangeAt Go.RowKit

theorem packN_more (B : List Bool) (m : Nat) (h : B.length ≤ 8 * m) : packN B (m + 1) = packN B m ++ [0] := by
  unfold packN
  rw [List.range_succ, List.map_append, List.map_singleton]
  congr 2
  have : (fun k => B.getD (8 * m + k) false) = fun _ => false := by
    funext k
    rw [List.getD_eq_getElem?_getD, List.getElem?_eq_none (by omega)]; rfl
  rw [this]; rfl
theorem bitsN_at (n : Nat) : ∀ (w i : Nat), i < w → (bitsN n w)[i]? = some (n.testBit (w - 1 - i))
  | 0, i, h => by omega
  | w + 1, 0, _ => by simp [bitsN]
  | w + 1, i + 1, h => by
    rw [bitsN, List.getElem?_cons_succ, bitsN_at n w i (by omega)]
    congr 2
    omega
/-- s bits more, that lie in one byte. -/
theorem pack_add (B : List Bool) (q u N s : Nat) (hB : B.length = 8 * q + u) (h : u + s ≤ 8) (x : UInt8) (hx : (packN B (q + 1))[q]? = some x) :
    packN (B ++ bitsN N s) (q + 1) = (packN B (q + 1)).set q (x ||| UInt8.ofNat (N % 2 ^ s * 2 ^ (8 - u - s))) := by
  have hc : N % 2 ^ s * 2 ^ (8 - u - s) < 256 := by
    have h1 : N % 2 ^ s < 2 ^ s := Nat.mod_lt _ (Nat.two_pow_pos s)
    have h2 : N % 2 ^ s * 2 ^ (8 - u - s) < 2 ^ s * 2 ^ (8 - u - s) := Nat.mul_lt_mul_of_pos_right h1 (Nat.two_pow_pos _)
    rw [← Nat.pow_add] at h2
    exact Nat.lt_of_lt_of_le h2 (Nat.pow_le_pow_right (n := 2) (j := 8) (by omega) (by omega))
  apply List.ext_getElem?
  intro j
  rw [List.getElem?_set]
  rcases Nat.lt_trichotomy j q with hj | rfl | hj
  · rw [if_neg (by omega), packN_at _ _ _ (by omega), packN_at _ _ _ (by omega)]
    congr 1
    apply byteOf_same
    intro k hk
    rw [List.getD_eq_getElem?_getD, List.getD_eq_getElem?_getD, List.getElem?_append_left (by omega)]
  · rw [packN_at _ _ _ (by omega)] at hx ⊢
    rw [if_pos rfl, if_pos (by rw [packN_length]; omega)]
    congr 1
    simp only [Option.some.injEq] at hx
    rw [← hx]
    apply u8_ext
    intro i hi
    obtain ⟨k, rfl⟩ : ∃ k, i = 7 - k := ⟨7 - i, by omega⟩
    obtain ⟨k', hk', e⟩ : ∃ k', k' < 8 ∧ 7 - k = 7 - k' := ⟨min k 7, by omega, by omega⟩
    rw [e, byteOf_test _ k' hk', UInt8.toNat_or, Nat.testBit_or, byteOf_test _ k' hk', UInt8.toNat_ofNat', Nat.mod_eq_of_lt hc, Nat.testBit_mul_two_pow, Nat.testBit_mod_two_pow]
    rw [List.getD_eq_getElem?_getD, List.getD_eq_getElem?_getD]
    by_cases h1 : k' < u
    · rw [List.getElem?_append_left (by omega)]
      have : ¬ (7 - k' - (8 - u - s) < s) := by omega
      simp [this]
    · rw [List.getElem?_append_right (by omega), List.getElem?_eq_none (l := B) (by omega), show 8 * j + k' - B.length = k' - u by omega]
      by_cases h2 : k' - u < s
      · rw [bitsN_at _ _ _ h2]
        have a1 : 8 - u - s ≤ 7 - k' := by omega
        have a3 : 7 - k' - (8 - u - s) = s - 1 - (k' - u) := by omega
        simp [a1, a3]
        intro h3; omega
      · rw [List.getElem?_eq_none (by rw [bitsN_length]; omega)]
        have a1 : ¬ (8 - u - s ≤ 7 - k') := by omega
        simp [a1]
  · rw [if_neg (by omega), List.getElem?_eq_none (by rw [packN_length]; omega), List.getElem?_eq_none (by rw [packN_length]; omega)]
theorem add_byte (N u s : Nat) (h : u + s ≤ 8) : (N % 256 * 2 ^ (8 - s) % 256) / 2 ^ u = N % 2 ^ s * 2 ^ (8 - u - s) := by
  have e1 : 256 = 2 ^ s * 2 ^ (8 - s) := by rw [← Nat.pow_add, Nat.add_sub_cancel' (by omega)]
  have e2 : 2 ^ (8 - s) = 2 ^ (8 - u - s) * 2 ^ u := by rw [← Nat.pow_add]; congr 1; omega
  have e3 : N % 256 * 2 ^ (8 - s) % 256 = N % 2 ^ s * 2 ^ (8 - s) := by
    conv => lhs; rhs; rw [e1]
    rw [Nat.mul_mod_mul_right]
    congr 1
    rw [e1, Nat.mod_mul_right_mod]
  rw [e3, e2, ← Nat.mul_assoc, Nat.mul_div_cancel _ (Nat.two_pow_pos u)]
theorem packL_part (B : List Bool) (q : Nat) (h1 : 8 * q < B.length) (h2 : B.length ≤ 8 * q + 8) : packL B = packN B (q + 1) := by
  unfold packL; congr 1; omega

/-- A row at the head of the object at block b: how many bits, its bytes; the blocks that it lies in. -/
def RowP (ty : TypeId) (R : List Value) (w : World) (b : Nat) (s : Nat × List UInt8) (F : Nat → Prop) : Prop :=
  ∃ v, w.heap[b]? = some (.cells (.bool true :: v :: .int .i64 (s.1 : Int) :: R).toArray ty (0, 0)) ∧ w.ownsRow 0 5 1 v s.2.length (s.2.map cellOf) ∧ F b ∧ (∀ k, v.ownBlock = some k → F k) ∧ ∀ k, F k → k < w.heap.size
/-- .. that is the bits bs. -/
def RowB (ty : TypeId) (R : List Value) (w : World) (b : Nat) (bs : List Bool) (F : Nat → Prop) : Prop := RowP ty R w b (bs.length, packL bs) F

theorem rowP_kept (ty : TypeId) (R : List Value) : Kept (RowP ty R) where
  lt := fun ⟨_, _, _, _, _, h⟩ => h
  keep := fun {w w' b s F} ⟨v, h1, h2, h3, h4, h5⟩ hk => by
    refine ⟨v, (hk b h3).trans h1, ?_, h3, h4, fun k hF => ?_⟩
    · refine ⟨h2.1, ?_⟩
      rcases h2.2 with h0 | ⟨g, cap, cur, rfl, hlow, hg, h7⟩
      · exact .inl h0
      · exact .inr ⟨g, cap, cur, rfl, hlow, (hk g (h4 g rfl)).trans hg, h7⟩
    · have h8 : w'.heap[k]? = some (w.heap[k]'(h5 k hF)) := by rw [hk k hF]; simp [h5 k hF]
      exact (Array.getElem?_eq_some_iff.1 h8).1
theorem rowB_kept (ty : TypeId) (R : List Value) : Kept (RowB ty R) where
  lt := fun h => (rowP_kept ty R).lt h
  keep := fun h hk => (rowP_kept ty R).keep h hk

/-- What is read of it. -/
theorem RowP.reads {ty : TypeId} {R : List Value} {w : World} {b : Nat} {s : Nat × List UInt8} {F : Nat → Prop} (h : RowP ty R w b s F) :
    ∃ d cd, w.cell? ⟨b, 0, none⟩ = some (.bool true) ∧ w.cell? ⟨b, 1, none⟩ = some (.slice d s.2.length cd) ∧ w.cell? ⟨b, 2, none⟩ = some (.int .i64 (s.1 : Int)) ∧ (∀ i, w.frozen? ⟨b, i, none⟩ = false) ∧
      Sees w d cd s.2 ∧ (d = none ∨ ∃ g o, d = some ⟨g, o, none⟩) ∧ w.ownsRow 0 5 1 (.slice d s.2.length cd) s.2.length (s.2.map cellOf) := by
  obtain ⟨v, h1, h2, h3, h4, h5⟩ := h
  obtain ⟨d, cd, rfl, hs⟩ := Sees.of_own h2
  refine ⟨d, cd, cell_of_row _ _ 0 _ _ _ h1, cell_of_row _ _ 1 _ _ _ h1, cell_of_row _ _ 2 _ _ _ h1, fun i => frozen_of_row _ _ i _ _ h1, hs, ?_, h2⟩
  rcases h2.2 with ⟨h0, _⟩ | ⟨g, cap, cur, he, _⟩
  · simp only [Value.slice.injEq] at h0; exact .inl h0.1
  · simp only [Value.slice.injEq] at he; exact .inr ⟨g, 0, he.1⟩

/-- One byte more: what the append and the store leave. -/
theorem row_more {ty : TypeId} {R : List Value} {w : World} {b sz : Nat} {P : List UInt8} {F : Nat → Prop} {v : Value} (hty : ty ≠ 5) (h1 : w.heap[b]? = some (.cells (.bool true :: v :: .int .i64 (sz : Int) :: R).toArray ty (0, 0))) (h2 : w.ownsRow 0 5 1 v P.length (P.map cellOf)) (h3 : F b) (h4 : ∀ k, v.ownBlock = some k → F k) (h5 : ∀ k, F k → k < w.heap.size) (hl : P.length ≤ 10000)
    (x : UInt8) :
    ∃ d cd w1, (Builtin.append_ #[23, 23] 23 #[v, .slice (some ⟨w.heap.size, 0, none⟩) 1 1]).run Tryz.prog (w.alloc (.cells #[.int .u8 (x.toNat : Int)] 5)) = .ok (.slice d (P.length + 1) cd) w1 ∧ w1.cell? ⟨b, 1, none⟩ = some v ∧ w1.frozen? ⟨b, 1, none⟩ = false ∧
      Left (RowP ty R) w F b (sz, P ++ [x]) (w1.setCell ⟨b, 1, none⟩ (.slice d (P.length + 1) cd)) := by
  obtain ⟨i5, hi, hz0, hz1, hz2⟩ := info_parts Tryz.info5
  obtain ⟨w0, hw0⟩ : ∃ w0, w0 = w.alloc (.cells #[.int .u8 (x.toNat : Int)] 5) := ⟨_, rfl⟩
  rw [← hw0]
  have hb0 : Below w.heap.size w w0 := by rw [hw0]; exact (Below.refl _ _).alloc (Nat.le_refl _) _
  have hg : b < w.heap.size := h5 b h3
  have ho0 : w0.ownsRow 0 5 1 v P.length (P.map cellOf) := by
    refine ⟨h2.1, ?_⟩
    rcases h2.2 with h0 | ⟨q, cap, cur, rfl, hlow, hq, h7⟩
    · exact .inl h0
    · exact .inr ⟨q, cap, cur, rfl, hlow, by rw [hb0.block q (Array.getElem?_eq_some_iff.1 hq).1]; exact hq, h7⟩
  have hcell : ∀ j u, ([.int .u8 (x.toNat : Int)] : List Value)[j]? = some u → w0.cell? ((⟨w.heap.size, 0, none⟩ : Addr).add j) = some u := by
    rw [hw0]; exact World.news_of_block (w := w.alloc (.cells #[.int .u8 (x.toNat : Int)] 5)) (cs := #[.int .u8 (x.toNat : Int)]) (t := 5) (fr := (0, 0)) (heap_alloc_new w _)
  have hs0 : w0.heap.size = w.heap.size + 1 := by rw [hw0]; simp
  obtain ⟨v', w1, hrun, ho1, hgr, _, hown⟩ := run_append_own_at (P := Tryz.prog) w0 0 23 23 5 i5 (.int .u8 0) 1 1 Tryz.underlying23 hi hz0 hz1 hz2 rfl (by omega) v P.length (P.map cellOf) ho0 ⟨w.heap.size, 0, none⟩ 1 1 [.int .u8 (x.toNat : Int)] rfl hcell (by simp [Value.oneCell']) (by unfold maxLen; omega) (by omega) (by omega)
  obtain ⟨q, cap, rfl⟩ : ∃ q cap, v' = .slice (some ⟨q, 0, none⟩) (P.length + 1) cap := by
    rcases ho1.2 with ⟨_, h0⟩ | ⟨q, cap, cur, rfl, _⟩
    · omega
    · exact ⟨q, cap, rfl⟩
  have hgv : v.ownBlock ≠ some b := by
    intro e
    rcases h2.2 with ⟨rfl, _⟩ | ⟨q, cap, cur, rfl, _, hq, _⟩
    · simp [Value.ownBlock] at e
    · obtain rfl : q = b := by simpa [Value.ownBlock] using e
      rw [h1] at hq; simp at hq; exact hty hq.2
  have hg1 : w1.heap[b]? = some (.cells (.bool true :: v :: .int .i64 (sz : Int) :: R).toArray ty (0, 0)) := by rw [hgr.block b (by omega) (fun e => hgv e.symm), hb0.block b hg]; exact h1
  have hap : Apart F w w1 := (Apart.of_below hb0).grown hgr (fun k hk => .inl (h4 k hk))
  have hqn : q ≠ b := by
    rintro rfl
    rcases ho1.2 with ⟨_, h0⟩ | ⟨q', cap', cur', he, _, hq', _⟩
    · omega
    · simp only [Value.slice.injEq, Option.some.injEq, Addr.mk.injEq] at he
      rw [← he.1.1, hg1] at hq'; simp at hq'; exact hty hq'.2
  refine ⟨some ⟨q, 0, none⟩, cap, w1, hrun, cell_of_row _ _ 1 _ _ _ hg1, frozen_of_row _ _ 1 _ _ hg1, fun k => k = b ∨ (k = q ∧ k < w1.heap.size), ⟨.slice (some ⟨q, 0, none⟩) (P.length + 1) cap, ?_, ?_, .inl rfl, ?_, ?_⟩, hap.setCell (.inl h3) 1 _, ?_⟩
  · rw [heap_setCell_same _ _ _ _ _ _ hg1]; rfl
  · have h6 : w1.ownsRow 0 5 1 (.slice (some ⟨q, 0, none⟩) (P.length + 1) cap) (P ++ [x]).length ((P ++ [x]).map cellOf) := by rw [List.map_append, List.length_append]; exact ho1
    refine ⟨h6.1, ?_⟩
    rcases h6.2 with ⟨h0, _⟩ | ⟨q', cap', cur, he, hlow, hq', h7⟩
    · cases h0
    · refine .inr ⟨q', cap', cur, he, hlow, ?_, h7⟩
      simp only [Value.slice.injEq, Option.some.injEq, Addr.mk.injEq] at he
      rw [heap_setCell_other _ _ _ _ (by rw [← he.1.1]; exact hqn)]; exact hq'
  · intro k hk
    obtain rfl : q = k := by simpa [Value.ownBlock] using hk
    rcases ho1.2 with ⟨h0, _⟩ | ⟨q', cap', cur, he, hlow, hq', h7⟩
    · cases h0
    · simp only [Value.slice.injEq, Option.some.injEq, Addr.mk.injEq] at he
      exact .inr ⟨rfl, by rw [he.1.1]; exact (Array.getElem?_eq_some_iff.1 hq').1⟩
  · rintro k (rfl | ⟨_, hk⟩)
    · simpa using (show k < w1.heap.size from (Array.getElem?_eq_some_iff.1 hg1).1)
    · simpa using hk
  · rintro k (rfl | ⟨rfl, _⟩)
    · exact .inl h3
    · rcases hown with h | h
      · exact .inl (h4 k (by rw [← h]; rfl))
      · have h9 : k = w0.heap.size := by simpa [Value.ownBlock] using h
        exact .inr (by omega)

/-- A byte is stored. -/
theorem row_store {ty : TypeId} {R : List Value} {w : World} {b sz : Nat} {P : List UInt8} {F : Nat → Prop} (hty : ty ≠ 5) (h : RowP ty R w b (sz, P) F) (q cd j : Nat) (hc : w.cell? ⟨b, 1, none⟩ = some (.slice (some ⟨q, 0, none⟩) P.length cd)) (y : UInt8) :
    RowP ty R (w.setCell ⟨q, j, none⟩ (.int .u8 (y.toNat : Int))) b (sz, P.set j y) F ∧ F q := by
  obtain ⟨v, h1, h2, h3, h4, h5⟩ := h
  have hv : v = .slice (some ⟨q, 0, none⟩) P.length cd := by
    have h6 := cell_of_row _ _ 1 _ _ _ h1
    rw [hc] at h6
    simpa using h6.symm
  subst hv
  have hqb : b ≠ q := by
    rintro rfl
    rcases h2.2 with ⟨h0, _⟩ | ⟨q', cap', cur', he, _, hq', _⟩
    · cases h0
    · simp only [Value.slice.injEq, Option.some.injEq, Addr.mk.injEq] at he
      rw [← he.1.1, h1] at hq'; simp at hq'; exact hty hq'.2
  have hFq : F q := h4 q rfl
  obtain ⟨h6, _⟩ := h2.stored j (.int .u8 (y.toNat : Int))
  refine ⟨⟨.slice (some ⟨q, 0, none⟩) P.length cd, by rw [heap_setCell_other _ _ _ _ hqb]; exact h1, ?_, h3, h4, fun k hk => by simpa using h5 k hk⟩, hFq⟩
  simp only [List.length_set, List.map_set]
  exact h6
/-- The number of bits is set. -/
theorem row_size {ty : TypeId} {R : List Value} {w : World} {b sz : Nat} {P : List UInt8} {F : Nat → Prop} (hty : ty ≠ 5) (h : RowP ty R w b (sz, P) F) (m : Nat) : RowP ty R (w.setCell ⟨b, 2, none⟩ (.int .i64 (m : Int))) b (m, P) F := by
  obtain ⟨v, h1, h2, h3, h4, h5⟩ := h
  refine ⟨v, by rw [heap_setCell_same _ _ _ _ _ _ h1]; rfl, ?_, h3, h4, fun k hk => by simpa using h5 k hk⟩
  refine ⟨h2.1, ?_⟩
  rcases h2.2 with h0 | ⟨q, cap, cur, rfl, hlow, hq, h7⟩
  · exact .inl h0
  · refine .inr ⟨q, cap, cur, rfl, hlow, ?_, h7⟩
    rw [heap_setCell_other _ _ _ _ (by rintro rfl; rw [h1] at hq; simp at hq; exact hty hq.2)]; exact hq
end Go.Proofs.YtaihjnaggmmiiaaGreatDoor

namespace Go.Proofs.YtaihjnaggmmiiaaGreatDoor
open Go.ChangeShapes Go.WideShapes Go.ChangeAt Go.RowKit

/-- A store whose run is known. -/
theorem wpList_bstore_run {P : Program} {ops : Array Oper} {rest : List Oper} {o : Oper} {a : Act} {w w' : World} {Q : Exit → Act → World → Prop} (hgd : o.guard = none) (ty : TypeId) (x y : Operand) (ho : o.op = .store ty x y)
    (v u : Value) (hx : a.eval x = v) (hy : a.eval y = u) (hrun : (Instr.storeAt ty v u).run P w = .ok () w') (h : wpList P ops Q rest (a.put o.dst undef) w') : wpList P ops Q (o :: rest) a w := by
  refine wpList_plain hgd fun K hK => ?_
  unfold Oper.wp execOp
  simp only [ho, hx, hy, Sem.run_bind, hrun, Result.andThen_ok, Sem.run_pure]
  exact hK _ _ h

set_option maxHeartbeats 6400000 in
set_option maxRecDepth 20000 in
theorem add_ok (ty : TypeId) (R : List Value) (hty : ty ≠ 5) (w : World) (b : Nat) (bs : List Bool) (F : Nat → Prop) (h : RowB ty R w b bs F) (n W : Nat) (hn : n < 18446744073709551616) (hW : W ≤ 64) (hl : bs.length + W ≤ 8192) :
    Calls Tryz.prog 111 #[.pointer (some ⟨b, 0, none⟩), .int .u64 (n : Int), .int .i64 (W : Int)] w fun e w' => (∃ r, e = .returned r) ∧ Left (RowB ty R) w F b (bs ++ bitsN n W) w' := by
  have HN : Hid (n < 18446744073709551616) := hn
  have hbl : Hid (bs.length + W ≤ 8192) := hl
  have hLw : Left (RowB ty R) w F b (bs ++ (bitsN n W).take 0) w := ⟨F, by rw [List.take_zero, List.append_nil]; exact h, Apart.refl _ _, fun _ h => .inl h⟩
  clear hn hl h
  go_enter Tryz.func111, Tryz.ntmps111
  go_wp2
  go_loopw [2, 6, 7] (fun v _ _ wr => ∃ k : Nat, k ≤ W ∧ v = .int .i64 ((W - k : Nat) : Int) ∧ Left (RowB ty R) w F b (bs ++ (bitsN n W).take k) wr) (fun v _ _ _ => (intOf v).toNat)
  case atStart => exact ⟨0, Nat.zero_le _, rfl, hLw⟩
  case round =>
    obtain ⟨k, hk, rfl, F1, hM, hap, hF1⟩ := hrel
    clear hLw
    by_cases hlt : k < W
    · obtain ⟨B, hB⟩ : ∃ B, B = bs ++ (bitsN n W).take k := ⟨_, rfl⟩
      have hBl : B.length = bs.length + k := by rw [hB, List.length_append, List.length_take, bitsN_length]; omega
      rw [← hB] at hM
      obtain ⟨L, hL⟩ : ∃ L, L = B.length := ⟨_, rfl⟩
      obtain ⟨v, hv⟩ : ∃ v, v = W - k := ⟨_, rfl⟩
      obtain ⟨q, hq⟩ : ∃ q, q = L / 8 := ⟨_, rfl⟩
      obtain ⟨u, hu⟩ : ∃ u, u = L % 8 := ⟨_, rfl⟩
      obtain ⟨y, hy⟩ : ∃ y, y = 8 - u := ⟨_, rfl⟩
      obtain ⟨s, hs⟩ : ∃ s, s = min y v := ⟨_, rfl⟩
      obtain ⟨t, ht⟩ : ∃ t, t = 8 - s := ⟨_, rfl⟩
      obtain ⟨v2, hv2⟩ : ∃ v2, v2 = v - s := ⟨_, rfl⟩
      obtain ⟨x, hx⟩ : ∃ x, (packN B (q + 1))[q]? = some x := ⟨_, packN_at _ _ _ (by omega)⟩
      obtain ⟨N, hN⟩ : ∃ N, N = n / 2 ^ v2 := ⟨_, rfl⟩
      obtain ⟨c, hc⟩ : ∃ c, c = UInt8.ofNat (N % 2 ^ s * 2 ^ (8 - u - s)) := ⟨_, rfl⟩
      have hadd := pack_add B q u N s (by omega) (by omega) x hx
      rw [← hc] at hadd
      obtain ⟨z, hz⟩ : ∃ z, z = x ||| c := ⟨_, rfl⟩
      rw [← hz] at hadd
      have hBs : bs ++ (bitsN n W).take (k + s) = B ++ bitsN N s := by
        rw [hB, List.append_assoc, List.take_add, bitsN_drop, bitsN_first n (W - k) s (by omega), hN, hv2, hv]
      have hfin : packL (B ++ bitsN N s) = (packN B (q + 1)).set q z := by
        rw [← hadd]; exact packL_part _ q (by rw [List.length_append, bitsN_length]; omega) (by rw [List.length_append, bitsN_length]; omega)
      have hlen : (B ++ bitsN N s).length = L + s := by rw [List.length_append, bitsN_length, hL]
      -- what the row is, once its last byte is there
      have hrest : ∀ w2 F2, RowP ty R w2 b (L, packN B (q + 1)) F2 → Apart F w w2 → (∀ i, F2 i → F i ∨ w.heap.size ≤ i) → ∀ qb cd, w2.cell? ⟨b, 1, none⟩ = some (.slice (some ⟨qb, 0, none⟩) (q + 1) cd) →
          ∀ m, Left (RowB ty R) w F b (bs ++ (bitsN n W).take (k + s)) (((w2.setCell ⟨qb, q, none⟩ (.int .u8 (z.toNat : Int))).drewN m).setCell ⟨b, 2, none⟩ (.int .i64 ((L + s : Nat) : Int))) := by
        intro w2 F2 hR ha2 hF2 qb cd hcell m
        obtain ⟨h1, h2⟩ := row_store hty hR qb cd q (by rw [packN_length]; exact hcell) z
        refine ⟨F2, ?_, ?_, hF2⟩
        · rw [hBs]
          unfold RowB
          rw [hlen, hfin]
          exact row_size hty ((rowP_kept ty R).keep h1 (w' := (w2.setCell ⟨qb, q, none⟩ (.int .u8 (z.toNat : Int))).drewN m) (fun _ _ => rfl)) (L + s)
        · have h3 : Apart F w (w2.setCell ⟨qb, q, none⟩ (.int .u8 (z.toNat : Int))) := ha2.setCell (hF2 qb h2) q _
          have h4 : Apart F w ((w2.setCell ⟨qb, q, none⟩ (.int .u8 (z.toNat : Int))).drewN m) := ⟨h3.os, h3.tape, h3.output, h3.size, h3.block⟩
          exact h4.setCell (hF2 b (by obtain ⟨_, _, _, h5, _⟩ := hR; exact h5)) 2 _
      -- numbers
      have hs0 : 0 < s := by omega
      have hNm : N < 18446744073709551616 := by rw [hN]; exact Nat.lt_of_le_of_lt (Nat.div_le_self _ _) HN.out
      obtain ⟨N8, hN8⟩ : ∃ N8, N8 = N % 256 := ⟨_, rfl⟩
      obtain ⟨X, hX⟩ : ∃ X, X = N8 * 2 ^ t % 256 := ⟨_, rfl⟩
      have dN : (n : Int) / 2 ^ v2 = (N : Int) := by rw [hN]; simp
      have wN : IntKind.u8.wrap (N : Int) = (N8 : Int) := by rw [IntKind.wrap_u8]; omega
      have wX : IntKind.u8.wrap ((N8 : Int) * 2 ^ t) = (X : Int) := by
        have h1 : (N8 : Int) * 2 ^ t = ((N8 * 2 ^ t : Nat) : Int) := by simp
        rw [h1, IntKind.wrap_u8, hX]; omega
      have dX : (X : Int) / 2 ^ u = (c.toNat : Int) := by
        have h1 : (X : Int) / 2 ^ u = ((X / 2 ^ u : Nat) : Int) := by simp
        have h2 := add_byte N u s (by omega)
        have h3 : X / 2 ^ u < 256 := by
          have : X < 256 := by rw [hX]; exact Nat.mod_lt _ (by omega)
          exact Nat.lt_of_le_of_lt (Nat.div_le_self _ _) this
        rw [← hN8, ← ht, ← hX] at h2
        rw [h1, hc, UInt8.toNat_ofNat', ← h2, Nat.mod_eq_of_lt h3]
      have eor : bits .or .u8 (x.toNat : Int) (c.toNat : Int) = (z.toNat : Int) := by rw [hz]; exact bor x c
      have u1 : (L : Int) % 8 = (u : Int) := by omega
      have u2 : (L : Int).tmod 8 = (u : Int) := by rw [Int.tmod_eq_emod_of_nonneg (by omega)]; exact u1
      have y1 : 8 - (u : Int) = (y : Int) := by omega
      have y2 : IntKind.i64.wrap (8 - (u : Int)) = (y : Int) := by rw [IntKind.wrap_i64]; omega
      have t1 : 8 - (s : Int) = (t : Int) := by omega
      have t2 : IntKind.i64.wrap (8 - (s : Int)) = (t : Int) := by rw [IntKind.wrap_i64]; omega
      have v1 : (v : Int) - (s : Int) = (v2 : Int) := by omega
      have v3 : IntKind.i64.wrap ((v : Int) - (s : Int)) = (v2 : Int) := by rw [IntKind.wrap_i64]; omega
      obtain ⟨L2, hL2⟩ : ∃ L2, L2 = L + s := ⟨_, rfl⟩
      have l1 : (L : Int) + (s : Int) = (L2 : Int) := by omega
      have hv64 : v ≤ 64 := by omega
      have hv0 : 0 < v := by omega
      have hu8 : u < 8 := by omega
      have hLm : L ≤ 8192 := by have := hbl.out; omega
      have m1 : min v2 64 = v2 := by omega
      have m2 : min u 8 = u := by omega
      have m3 : min t 8 = t := by omega
      have HP : Hid (v = W - k ∧ v2 = v - s ∧ s ≤ v ∧ 0 < s ∧ k ≤ W) := ⟨hv, hv2, by omega, hs0, hk⟩
      have hsc : s = y ∧ y ≤ v ∨ s = v ∧ ¬ y ≤ v := by omega
      obtain ⟨q3, hq3⟩ : ∃ q3, q3 = q + 1 := ⟨_, rfl⟩
      have lq : (q3 : Int) - 1 = (q : Int) := by omega
      have lq2 : IntKind.i64.wrap ((q3 : Int) - 1) = (q : Int) := by rw [IntKind.wrap_i64]; omega
      have gq1 : (q : Int) < (q3 : Int) := by omega
      have gq0 : (0 : Int) ≤ (q : Int) := Int.natCast_nonneg _
      have hq3m : q3 ≤ 2000 := by omega
      rw [← hv]
      by_cases hu0 : u = 0
      · have du : ((u : Int) == 0) = true := by simp [hu0]
        have hPl : packL B = packN B q := by unfold packL; congr 1; omega
        obtain ⟨vv, g1, g2, g3, g4, g5⟩ := hM
        obtain ⟨d1, cd1, w1, hrun, e1, e2, F2, hM2, hap2, hF2⟩ := row_more hty g1 g2 g3 g4 g5 (by simp only [packL_length]; omega) 0
        have hq4 : (packL B).length + 1 = q3 := by rw [hPl, packN_length]; omega
        simp only [hq4] at hrun hM2 hap2
        rw [hPl, ← packN_more B q (by omega), ← hL] at hM2
        obtain ⟨W2, hW2⟩ : ∃ W2, W2 = w1.setCell ⟨b, 1, none⟩ (.slice d1 q3 cd1) := ⟨_, rfl⟩
        rw [← hW2] at hM2 hap2
        have hap' : Apart F w W2 := hap.trans hap2 hF1
        have hF' : ∀ i, F2 i → F i ∨ w.heap.size ≤ i := fun i hi => by
          rcases hF2 i hi with h | h
          · exact hF1 i h
          · have := hap.size; exact .inr (by omega)
        obtain ⟨d, cd, c0, c1, c2, fz, hse, hdd, hown⟩ := hM2.reads
        rw [packN_length, ← hq3] at c1
        obtain ⟨qb, rfl⟩ : ∃ qb, d = some ⟨qb, 0, none⟩ := by
          rcases hown.2 with ⟨h0, _⟩ | ⟨g, cap, cur, he, _⟩
          · simp [packN_length] at h0
          · simp only [Value.slice.injEq] at he; exact ⟨g, he.1⟩
        obtain ⟨b1, o1, hb1, hcx⟩ := hse.get hx
        simp only [Option.some.injEq, Addr.mk.injEq, and_true] at hb1
        obtain ⟨rfl, rfl⟩ := hb1
        have fq : W2.frozen? ⟨qb, q, none⟩ = false := hown.frozenAt q
        have f2 : W2.frozen? ⟨b, 2, none⟩ = false := fz 2
        have HE := hrest W2 F2 hM2 hap' hF' qb cd (by rw [c1, hq3])
        rw [← hL2] at HE
        have HE2 : Hid (∀ m, Left (RowB ty R) w F b (bs ++ (bitsN n W).take (k + s)) (((W2.setCell ⟨qb, q, none⟩ (.int .u8 (z.toNat : Int))).drewN m).setCell ⟨b, 2, none⟩ (.int .i64 (L2 : Int)))) := HE
        have hqb : qb ≠ b := by
          rintro rfl
          have h5 : W2.cell? ⟨qb, 0, none⟩ = some (.bool true) := c0
          have h6 := hse.get (k := 0) (List.getElem?_eq_getElem (by rw [packN_length]; omega))
          obtain ⟨b2, o2, hb2, hc2⟩ := h6
          simp only [Option.some.injEq, Addr.mk.injEq, and_true] at hb2
          rw [← hb2.1, ← hb2.2, h5] at hc2
          simp at hc2
        simp only [Nat.zero_add] at hcx
        have c2' : ∀ m, ((W2.setCell ⟨qb, q, none⟩ (.int .u8 (z.toNat : Int))).drewN m).cell? ⟨b, 2, none⟩ = some (.int .i64 (L : Int)) := fun m => by
          have h7 : (W2.setCell ⟨qb, q, none⟩ (.int .u8 (z.toNat : Int))).cell? ⟨b, 2, none⟩ = W2.cell? ⟨b, 2, none⟩ := World.cell?_of_block (heap_setCell_other _ _ _ _ hqb.symm)
          have h8 : (W2.setCell ⟨qb, q, none⟩ (.int .u8 (z.toNat : Int))).cell? ⟨b, 2, none⟩ = some (.int .i64 (L : Int)) := h7.trans c2
          exact h8
        have k1 : wr.cell? ⟨b, 1, none⟩ = some vv := cell_of_row _ _ 1 _ _ _ g1
        have k2 : wr.cell? ⟨b, 2, none⟩ = some (.int .i64 (L : Int)) := by rw [hL]; exact cell_of_row _ _ 2 _ _ _ g1
        have HR : Hid ((Builtin.append_ #[23, 23] 23 #[vv, .slice (some ⟨wr.heap.size, 0, none⟩) 1 1]).run Tryz.prog (wr.alloc (.cells #[.int .u8 0] 5)) = .ok (.slice d1 q3 cd1) w1) := hrun
        have hst : (Instr.storeAt 23 (.pointer (some ⟨b, 1, none⟩)) (.slice d1 q3 cd1)).run Tryz.prog w1 = .ok () W2 := by
          rw [hW2]
          simp [Instr.storeAt, Instr.sureAddr, e1, e2, go_sem]
        have HST : Hid ((Instr.storeAt 23 (.pointer (some ⟨b, 1, none⟩)) (.slice d1 q3 cd1)).run Tryz.prog w1 = .ok () W2) := hst
        clear hM2 hPl g1 g2 g3 g4 g5 hse hdd hown HE hrest hap hap2 hap' hF1 hF2 hF' hadd hBs hfin hlen hB hBl hL hv hq hu hy hs ht hv2 hN hc hz hx hNm hN8 hX fz hq3 c0 hk hlt hs0 hL2 hW2 hrun hq4 e1 e2 hu0 hst
        rcases hsc with ⟨rfl, hyv⟩ | ⟨rfl, hyv⟩
        all_goals
          go_wp2_with (first | refine wpList_append_run rfl _ _ 23 rfl _ _ _ rfl rfl HR.out ?_ | refine wpList_bstore_run rfl 23 _ _ rfl _ _ rfl rfl HST.out ?_)
          go_region
          go_wp2
          go_roundw
          case rel =>
            have h1 := HP.out
            exact ⟨k + s, by omega, by first | go_num | (congr 1; omega), HE2.out 1⟩
          case measure => have h1 := HP.out; simp [intOf]; omega
      · have hP : packL B = packN B (q + 1) := packL_part B q (by omega) (by omega)
        have hM2 : RowP ty R wr b (L, packN B (q + 1)) F1 := by rw [← hP, hL]; exact hM
        obtain ⟨d, cd, c0, c1, c2, fz, hse, hdd, hown⟩ := hM2.reads
        rw [packN_length, ← hq3] at c1
        obtain ⟨qb, rfl⟩ : ∃ qb, d = some ⟨qb, 0, none⟩ := by
          rcases hown.2 with ⟨h0, _⟩ | ⟨g, cap, cur, he, _⟩
          · simp [packN_length] at h0
          · simp only [Value.slice.injEq] at he; exact ⟨g, he.1⟩
        obtain ⟨b1, o1, hb1, hcx⟩ := hse.get hx
        simp only [Option.some.injEq, Addr.mk.injEq, and_true] at hb1
        obtain ⟨rfl, rfl⟩ := hb1
        have fq : wr.frozen? ⟨qb, q, none⟩ = false := hown.frozenAt q
        have f2 : wr.frozen? ⟨b, 2, none⟩ = false := fz 2
        have HE := hrest wr F1 hM2 hap hF1 qb cd (by rw [c1, hq3])
        rw [← hL2] at HE
        have HE2 : Hid (∀ m, Left (RowB ty R) w F b (bs ++ (bitsN n W).take (k + s)) (((wr.setCell ⟨qb, q, none⟩ (.int .u8 (z.toNat : Int))).drewN m).setCell ⟨b, 2, none⟩ (.int .i64 (L2 : Int)))) := HE
        have du : ((u : Int) == 0) = false := by simp [hu0]
        have hqb : qb ≠ b := by
          rintro rfl
          have h5 : wr.cell? ⟨qb, 0, none⟩ = some (.bool true) := c0
          have h6 := hse.get (k := 0) (List.getElem?_eq_getElem (by rw [packN_length]; omega))
          obtain ⟨b2, o2, hb2, hc2⟩ := h6
          simp only [Option.some.injEq, Addr.mk.injEq, and_true] at hb2
          rw [← hb2.1, ← hb2.2, h5] at hc2
          simp at hc2
        simp only [Nat.zero_add] at hcx
        have c2' : ∀ m, ((wr.setCell ⟨qb, q, none⟩ (.int .u8 (z.toNat : Int))).drewN m).cell? ⟨b, 2, none⟩ = some (.int .i64 (L : Int)) := fun m => by
          have h7 : (wr.setCell ⟨qb, q, none⟩ (.int .u8 (z.toNat : Int))).cell? ⟨b, 2, none⟩ = wr.cell? ⟨b, 2, none⟩ := World.cell?_of_block (heap_setCell_other _ _ _ _ hqb.symm)
          have h8 : (wr.setCell ⟨qb, q, none⟩ (.int .u8 (z.toNat : Int))).cell? ⟨b, 2, none⟩ = some (.int .i64 (L : Int)) := h7.trans c2
          exact h8
        clear hM hM2 hP hse hdd hown HE hrest hap hF1 hadd hBs hfin hlen hB hBl hL hv hq hu hy hs ht hv2 hN hc hz hx hNm hN8 hX fz hq3 c0 hk hlt hs0 hL2
        rcases hsc with ⟨rfl, hyv⟩ | ⟨rfl, hyv⟩
        all_goals
          go_wp2
          go_region
          go_wp2
          go_roundw
          case rel =>
            have h1 := HP.out
            exact ⟨k + s, by omega, by first | go_num | (congr 1; omega), HE2.out 1⟩
          case measure => have h1 := HP.out; simp [intOf]; omega
    · obtain rfl : k = W := by omega
      have hz : k - k = 0 := by omega
      rw [hz]
      have hT : (bitsN n k).take k = bitsN n k := by rw [List.take_of_length_le]; rw [bitsN_length]; exact Nat.le_refl _
      have HE : Hid (Left (RowB ty R) w F b (bs ++ bitsN n k) wr) := ⟨F1, by rw [← hT]; exact hM, hap, hF1⟩
      clear hM hap hF1 hT
      go_wp2
      go_end0
      exact ⟨⟨_, rfl⟩, HE.out⟩
end Go.Proofs.YtaihjnaggmmiiaaGreatDoor
