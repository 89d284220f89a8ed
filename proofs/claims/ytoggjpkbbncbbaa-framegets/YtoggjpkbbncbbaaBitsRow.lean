/-
  A row of bits in memory, at the head of an object; what an append and the stores leave. No contract here.
-/
import Derived.Test.YtoggjpkbbncbbaaBitsCut
import Derived.Test.YtoggjpkbbncbbaaGrow
namespace Go.Proofs.Ytoggjpkbbncbbaa
open Go.ChangeShapes Go.WideShapes Go.ChangeAt Go.RowKit

theorem packN_more (B : List Bool) (m : Nat) (h : B.length ≤ 8 * m) : packN B (m + 1) = packN B m ++ [0] := by
  unfold packN
  rw [List.range_succ, List.map_append, List.map_singleton]
  congr 2
  have : (fun k => B.getD (8 * m + k) false) = fun _ => false := by
    funext k
    rw [List.getD_eq_getElem?_getD, List.getElem?_eq_none (by omega)]; rfl
  rw [this]; rfl
theorem bitsN_at (n : Nat) : ∀ (w i : Nat), i < w → (bitsN n w)[i]? = some (n.testBit (w - 1 - i))
  | 0, i, h => by omega
  | w + 1, 0, _ => by simp [bitsN]
  | w + 1, i + 1, h => by
    rw [bitsN, List.getElem?_cons_succ, bitsN_at n w i (by omega)]
    congr 2
    omega
/-- s bits more, that lie in one byte. -/
theorem pack_add (B : List Bool) (q u N s : Nat) (hB : B.length = 8 * q + u) (h : u + s ≤ 8) (x : UInt8) (hx : (packN B (q + 1))[q]? = some x) :
    packN (B ++ bitsN N s) (q + 1) = (packN B (q + 1)).set q (x ||| UInt8.ofNat (N % 2 ^ s * 2 ^ (8 - u - s))) := by
  have hc : N % 2 ^ s * 2 ^ (8 - u - s) < 256 := by
    have h1 : N % 2 ^ s < 2 ^ s := Nat.mod_lt _ (Nat.two_pow_pos s)
    have h2 : N % 2 ^ s * 2 ^ (8 - u - s) < 2 ^ s * 2 ^ (8 - u - s) := Nat.mul_lt_mul_of_pos_right h1 (Nat.two_pow_pos _)
    rw [← Nat.pow_add] at h2
    exact Nat.lt_of_lt_of_le h2 (Nat.pow_le_pow_right (n := 2) (j := 8) (by omega) (by omega))
  apply List.ext_getElem?
  intro j
  rw [List.getElem?_set]
  rcases Nat.lt_trichotomy j q with hj | rfl | hj
  · rw [if_neg (by omega), packN_at _ _ _ (by omega), packN_at _ _ _ (by omega)]
    congr 1
    apply byteOf_same
    intro k hk
    rw [List.getD_eq_getElem?_getD, List.getD_eq_getElem?_getD, List.getElem?_append_left (by omega)]
  · rw [packN_at _ _ _ (by omega)] at hx ⊢
    rw [if_pos rfl, if_pos (by rw [packN_length]; omega)]
    congr 1
    simp only [Option.some.injEq] at hx
    rw [← hx]
    apply u8_ext
    intro i hi
    obtain ⟨k, rfl⟩ : ∃ k, i = 7 - k := ⟨7 - i, by omega⟩
    obtain ⟨k', hk', e⟩ : ∃ k', k' < 8 ∧ 7 - k = 7 - k' := ⟨min k 7, by omega, by omega⟩
    rw [e, byteOf_test _ k' hk', UInt8.toNat_or, Nat.testBit_or, byteOf_test _ k' hk', UInt8.toNat_ofNat', Nat.mod_eq_of_lt hc, Nat.testBit_mul_two_pow, Nat.testBit_mod_two_pow]
    rw [List.getD_eq_getElem?_getD, List.getD_eq_getElem?_getD]
    by_cases h1 : k' < u
    · rw [List.getElem?_append_left (by omega)]
      have : ¬ (7 - k' - (8 - u - s) < s) := by omega
      simp [this]
    · rw [List.getElem?_append_right (by omega), List.getElem?_eq_none (l := B) (by omega), show 8 * j + k' - B.length = k' - u by omega]
      by_cases h2 : k' - u < s
      · rw [bitsN_at _ _ _ h2]
        have a1 : 8 - u - s ≤ 7 - k' := by omega
        have a3 : 7 - k' - (8 - u - s) = s - 1 - (k' - u) := by omega
        simp [a1, a3]
        intro h3; omega
      · rw [List.getElem?_eq_none (by rw [bitsN_length]; omega)]
        have a1 : ¬ (8 - u - s ≤ 7 - k') := by omega
        simp [a1]
  · rw [if_neg (by omega), List.getElem?_eq_none (by rw [packN_length]; omega), List.getElem?_eq_none (by rw [packN_length]; omega)]
theorem add_byte (N u s : Nat) (h : u + s ≤ 8) : (N % 256 * 2 ^ (8 - s) % 256) / 2 ^ u = N % 2 ^ s * 2 ^ (8 - u - s) := by
  have e1 : 256 = 2 ^ s * 2 ^ (8 - s) := by rw [← Nat.pow_add, Nat.add_sub_cancel' (by omega)]
  have e2 : 2 ^ (8 - s) = 2 ^ (8 - u - s) * 2 ^ u := by rw [← Nat.pow_add]; congr 1; omega
  have e3 : N % 256 * 2 ^ (8 - s) % 256 = N % 2 ^ s * 2 ^ (8 - s) := by
    conv => lhs; rhs; rw [e1]
    rw [Nat.mul_mod_mul_right]
    congr 1
    rw [e1, Nat.mod_mul_right_mod]
  rw [e3, e2, ← Nat.mul_assoc, Nat.mul_div_cancel _ (Nat.two_pow_pos u)]
theorem packL_part (B : List Bool) (q : Nat) (h1 : 8 * q < B.length) (h2 : B.length ≤ 8 * q + 8) : packL B = packN B (q + 1) := by
  unfold packL; congr 1; omega

/-- A row at the head of the object at block b: how many bits, its bytes; the blocks that it lies in. -/
def RowP (ty : TypeId) (R : List Value) (w : World) (b : Nat) (s : Nat × List UInt8) (F : Nat → Prop) : Prop :=
  ∃ v, w.heap[b]? = some (.cells (.bool true :: v :: .int .i64 (s.1 : Int) :: R).toArray ty (0, 0)) ∧ w.ownsRow 0 5 1 v s.2.length (s.2.map cellOf) ∧ F b ∧ (∀ k, v.ownBlock = some k → F k) ∧ ∀ k, F k → k < w.heap.size
/-- .. that is the bits bs. -/
def RowB (ty : TypeId) (R : List Value) (w : World) (b : Nat) (bs : List Bool) (F : Nat → Prop) : Prop := RowP ty R w b (bs.length, packL bs) F

theorem rowP_kept (ty : TypeId) (R : List Value) : Kept (RowP ty R) where
  lt := fun ⟨_, _, _, _, _, h⟩ => h
  keep := fun {w w' b s F} ⟨v, h1, h2, h3, h4, h5⟩ hk => by
    refine ⟨v, (hk b h3).trans h1, ?_, h3, h4, fun k hF => ?_⟩
    · refine ⟨h2.1, ?_⟩
      rcases h2.2 with h0 | ⟨g, cap, cur, rfl, hlow, hg, h7⟩
      · exact .inl h0
      · exact .inr ⟨g, cap, cur, rfl, hlow, (hk g (h4 g rfl)).trans hg, h7⟩
    · have h8 : w'.heap[k]? = some (w.heap[k]'(h5 k hF)) := by rw [hk k hF]; simp [h5 k hF]
      exact (Array.getElem?_eq_some_iff.1 h8).1
theorem rowB_kept (ty : TypeId) (R : List Value) : Kept (RowB ty R) where
  lt := fun h => (rowP_kept ty R).lt h
  keep := fun h hk => (rowP_kept ty R).keep h hk

/-- What is read of it. -/
theorem RowP.reads {ty : TypeId} {R : List Value} {w : World} {b : Nat} {s : Nat × List UInt8} {F : Nat → Prop} (h : RowP ty R w b s F) :
    ∃ d cd, w.cell? ⟨b, 0, none⟩ = some (.bool true) ∧ w.cell? ⟨b, 1, none⟩ = some (.slice d s.2.length cd) ∧ w.cell? ⟨b, 2, none⟩ = some (.int .i64 (s.1 : Int)) ∧ (∀ i, w.frozen? ⟨b, i, none⟩ = false) ∧
      Sees w d cd s.2 ∧ (d = none ∨ ∃ g o, d = some ⟨g, o, none⟩) ∧ w.ownsRow 0 5 1 (.slice d s.2.length cd) s.2.length (s.2.map cellOf) := by
  obtain ⟨v, h1, h2, h3, h4, h5⟩ := h
  obtain ⟨d, cd, rfl, hs⟩ := Sees.of_own h2
  refine ⟨d, cd, cell_of_row _ _ 0 _ _ _ h1, cell_of_row _ _ 1 _ _ _ h1, cell_of_row _ _ 2 _ _ _ h1, fun i => frozen_of_row _ _ i _ _ h1, hs, ?_, h2⟩
  rcases h2.2 with ⟨h0, _⟩ | ⟨g, cap, cur, he, _⟩
  · simp only [Value.slice.injEq] at h0; exact .inl h0.1
  · simp only [Value.slice.injEq] at he; exact .inr ⟨g, 0, he.1⟩

/-- One byte more: what the append and the store leave. -/
theorem row_more {ty : TypeId} {R : List Value} {w : World} {b sz : Nat} {P : List UInt8} {F : Nat → Prop} {v : Value} (hty : ty ≠ 5) (h1 : w.heap[b]? = some (.cells (.bool true :: v :: .int .i64 (sz : Int) :: R).toArray ty (0, 0))) (h2 : w.ownsRow 0 5 1 v P.length (P.map cellOf)) (h3 : F b) (h4 : ∀ k, v.ownBlock = some k → F k) (h5 : ∀ k, F k → k < w.heap.size) (hl : P.length ≤ 10000)
    (x : UInt8) :
    ∃ d cd w1, (Builtin.append_ #[23, 23] 23 #[v, .slice (some ⟨w.heap.size, 0, none⟩) 1 1]).run Try.prog (w.alloc (.cells #[.int .u8 (x.toNat : Int)] 5)) = .ok (.slice d (P.length + 1) cd) w1 ∧ w1.cell? ⟨b, 1, none⟩ = some v ∧ w1.frozen? ⟨b, 1, none⟩ = false ∧
      Left (RowP ty R) w F b (sz, P ++ [x]) (w1.setCell ⟨b, 1, none⟩ (.slice d (P.length + 1) cd)) := by
  obtain ⟨i5, hi, hz0, hz1, hz2⟩ := info_parts Try.info5
  obtain ⟨w0, hw0⟩ : ∃ w0, w0 = w.alloc (.cells #[.int .u8 (x.toNat : Int)] 5) := ⟨_, rfl⟩
  rw [← hw0]
  have hb0 : Below w.heap.size w w0 := by rw [hw0]; exact (Below.refl _ _).alloc (Nat.le_refl _) _
  have hg : b < w.heap.size := h5 b h3
  have ho0 : w0.ownsRow 0 5 1 v P.length (P.map cellOf) := by
    refine ⟨h2.1, ?_⟩
    rcases h2.2 with h0 | ⟨q, cap, cur, rfl, hlow, hq, h7⟩
    · exact .inl h0
    · exact .inr ⟨q, cap, cur, rfl, hlow, by rw [hb0.block q (Array.getElem?_eq_some_iff.1 hq).1]; exact hq, h7⟩
  have hcell : ∀ j u, ([.int .u8 (x.toNat : Int)] : List Value)[j]? = some u → w0.cell? ((⟨w.heap.size, 0, none⟩ : Addr).add j) = some u := by
    rw [hw0]; exact World.news_of_block (w := w.alloc (.cells #[.int .u8 (x.toNat : Int)] 5)) (cs := #[.int .u8 (x.toNat : Int)]) (t := 5) (fr := (0, 0)) (heap_alloc_new w _)
  have hs0 : w0.heap.size = w.heap.size + 1 := by rw [hw0]; simp
  obtain ⟨v', w1, hrun, ho1, hgr, _, hown⟩ := run_append_own_at (P := Try.prog) w0 0 23 23 5 i5 (.int .u8 0) 1 1 Try.underlying23 hi hz0 hz1 hz2 rfl (by omega) v P.length (P.map cellOf) ho0 ⟨w.heap.size, 0, none⟩ 1 1 [.int .u8 (x.toNat : Int)] rfl hcell (by simp [Value.oneCell']) (by unfold maxLen; omega) (by omega) (by omega)
  obtain ⟨q, cap, rfl⟩ : ∃ q cap, v' = .slice (some ⟨q, 0, none⟩) (P.length + 1) cap := by
    rcases ho1.2 with ⟨_, h0⟩ | ⟨q, cap, cur, rfl, _⟩
    · omega
    · exact ⟨q, cap, rfl⟩
  have hgv : v.ownBlock ≠ some b := by
    intro e
    rcases h2.2 with ⟨rfl, _⟩ | ⟨q, cap, cur, rfl, _, hq, _⟩
    · simp [Value.ownBlock] at e
    · obtain rfl : q = b := by simpa [Value.ownBlock] using e
      rw [h1] at hq; simp at hq; exact hty hq.2
  have hg1 : w1.heap[b]? = some (.cells (.bool true :: v :: .int .i64 (sz : Int) :: R).toArray ty (0, 0)) := by rw [hgr.block b (by omega) (fun e => hgv e.symm), hb0.block b hg]; exact h1
  have hap : Apart F w w1 := (Apart.of_below hb0).grown hgr (fun k hk => .inl (h4 k hk))
  have hqn : q ≠ b := by
    rintro rfl
    rcases ho1.2 with ⟨_, h0⟩ | ⟨q', cap', cur', he, _, hq', _⟩
    · omega
    · simp only [Value.slice.injEq, Option.some.injEq, Addr.mk.injEq] at he
      rw [← he.1.1, hg1] at hq'; simp at hq'; exact hty hq'.2
  refine ⟨some ⟨q, 0, none⟩, cap, w1, hrun, cell_of_row _ _ 1 _ _ _ hg1, frozen_of_row _ _ 1 _ _ hg1, fun k => k = b ∨ (k = q ∧ k < w1.heap.size), ⟨.slice (some ⟨q, 0, none⟩) (P.length + 1) cap, ?_, ?_, .inl rfl, ?_, ?_⟩, hap.setCell (.inl h3) 1 _, ?_⟩
  · rw [heap_setCell_same _ _ _ _ _ _ hg1]; rfl
  · have h6 : w1.ownsRow 0 5 1 (.slice (some ⟨q, 0, none⟩) (P.length + 1) cap) (P ++ [x]).length ((P ++ [x]).map cellOf) := by rw [List.map_append, List.length_append]; exact ho1
    refine ⟨h6.1, ?_⟩
    rcases h6.2 with ⟨h0, _⟩ | ⟨q', cap', cur, he, hlow, hq', h7⟩
    · cases h0
    · refine .inr ⟨q', cap', cur, he, hlow, ?_, h7⟩
      simp only [Value.slice.injEq, Option.some.injEq, Addr.mk.injEq] at he
      rw [heap_setCell_other _ _ _ _ (by rw [← he.1.1]; exact hqn)]; exact hq'
  · intro k hk
    obtain rfl : q = k := by simpa [Value.ownBlock] using hk
    rcases ho1.2 with ⟨h0, _⟩ | ⟨q', cap', cur, he, hlow, hq', h7⟩
    · cases h0
    · simp only [Value.slice.injEq, Option.some.injEq, Addr.mk.injEq] at he
      exact .inr ⟨rfl, by rw [he.1.1]; exact (Array.getElem?_eq_some_iff.1 hq').1⟩
  · rintro k (rfl | ⟨_, hk⟩)
    · simpa using (show k < w1.heap.size from (Array.getElem?_eq_some_iff.1 hg1).1)
    · simpa using hk
  · rintro k (rfl | ⟨rfl, _⟩)
    · exact .inl h3
    · rcases hown with h | h
      · exact .inl (h4 k (by rw [← h]; rfl))
      · have h9 : k = w0.heap.size := by simpa [Value.ownBlock] using h
        exact .inr (by omega)

/-- A byte is stored. -/
theorem row_store {ty : TypeId} {R : List Value} {w : World} {b sz : Nat} {P : List UInt8} {F : Nat → Prop} (hty : ty ≠ 5) (h : RowP ty R w b (sz, P) F) (q cd j : Nat) (hc : w.cell? ⟨b, 1, none⟩ = some (.slice (some ⟨q, 0, none⟩) P.length cd)) (y : UInt8) :
    RowP ty R (w.setCell ⟨q, j, none⟩ (.int .u8 (y.toNat : Int))) b (sz, P.set j y) F ∧ F q := by
  obtain ⟨v, h1, h2, h3, h4, h5⟩ := h
  have hv : v = .slice (some ⟨q, 0, none⟩) P.length cd := by
    have h6 := cell_of_row _ _ 1 _ _ _ h1
    rw [hc] at h6
    simpa using h6.symm
  subst hv
  have hqb : b ≠ q := by
    rintro rfl
    rcases h2.2 with ⟨h0, _⟩ | ⟨q', cap', cur', he, _, hq', _⟩
    · cases h0
    · simp only [Value.slice.injEq, Option.some.injEq, Addr.mk.injEq] at he
      rw [← he.1.1, h1] at hq'; simp at hq'; exact hty hq'.2
  have hFq : F q := h4 q rfl
  obtain ⟨h6, _⟩ := h2.stored j (.int .u8 (y.toNat : Int))
  refine ⟨⟨.slice (some ⟨q, 0, none⟩) P.length cd, by rw [heap_setCell_other _ _ _ _ hqb]; exact h1, ?_, h3, h4, fun k hk => by simpa using h5 k hk⟩, hFq⟩
  simp only [List.length_set, List.map_set]
  exact h6
/-- The number of bits is set. -/
theorem row_size {ty : TypeId} {R : List Value} {w : World} {b sz : Nat} {P : List UInt8} {F : Nat → Prop} (hty : ty ≠ 5) (h : RowP ty R w b (sz, P) F) (m : Nat) : RowP ty R (w.setCell ⟨b, 2, none⟩ (.int .i64 (m : Int))) b (m, P) F := by
  obtain ⟨v, h1, h2, h3, h4, h5⟩ := h
  refine ⟨v, by rw [heap_setCell_same _ _ _ _ _ _ h1]; rfl, ?_, h3, h4, fun k hk => by simpa using h5 k hk⟩
  refine ⟨h2.1, ?_⟩
  rcases h2.2 with h0 | ⟨q, cap, cur, rfl, hlow, hq, h7⟩
  · exact .inl h0
  · refine .inr ⟨q, cap, cur, rfl, hlow, ?_, h7⟩
    rw [heap_setCell_other _ _ _ _ (by rintro rfl; rw [h1] at hq; simp at hq; exact hty hq.2)]; exact hq
end Go.Proofs.Ytoggjpkbbncbbaa
