/-
  Bytes behind a row of whole bytes: what Grow, the store and 'copy' leave. No contract here.
-/
import Derived.Test.YtoggjpkbbncbbaaBitsRow
namespace Go.Proofs.Ytoggjpkbbncbbaa
open Go.ChangeShapes Go.WideShapes Go.ChangeAt Go.RowKit

theorem packL_even (bs : List Bool) (q : Nat) (h : bs.length = 8 * q) (l : List UInt8) : packL (bs ++ bitsOf l) = packL bs ++ l := by
  have h1 := packL_bits bs
  rw [h, show 8 * ((8 * q + 7) / 8) - 8 * q = 0 by omega, List.replicate_zero, List.append_nil] at h1
  conv => lhs; rw [← h1]
  rw [← bitsOf_app, packL_bytes]

theorem row_put {ty : TypeId} {R : List Value} {w w1 : World} {b sz : Nat} {P : List UInt8} {F : Nat → Prop} (hty : ty ≠ 5) (h : RowP ty R w b (sz, P) F) (hbel : Below w.heap.size w w1) (g cap : Nat) (cur : Array Value) (hg : w1.heap[g]? = some (.cells cur 5 (0, 0)))
    (x : Option Addr) (cx : Nat) (l : List UInt8) (hs : Sees w x cx l) (hsn : ∀ b off, x = some ⟨b, off, none⟩ → l ≠ [] → ¬ F b) (hcap : P.length + l.length ≤ cap) (hcm : cap ≤ maxLen) (hcs : cur.size = cap) (htk : cur.toList.take P.length = P.map cellOf) (hgF : F g ∨ w.heap.size ≤ g) :
    w1.cell? ⟨b, 1, none⟩ = w.cell? ⟨b, 1, none⟩ ∧ w1.frozen? ⟨b, 1, none⟩ = false ∧
    ∃ W3, (∀ D, D = .slice (some ⟨g, P.length, none⟩) l.length (cap - P.length) ∨ l = [] ∧ D = .slice (some ⟨g, 0, none⟩) 0 0 →
      (Builtin.copy_ #[23, 23] 3 #[D, .slice x l.length cx]).run Try.prog (w1.setCell ⟨b, 1, none⟩ (.slice (some ⟨g, 0, none⟩) (P.length + l.length) cap)) = .ok (.int .i64 (l.length : Int)) W3) ∧
      Left (RowP ty R) w F b (sz, P ++ l) W3 := by
  obtain ⟨v, h1, h2, h3, h4, h5⟩ := h
  have hb : b < w.heap.size := h5 b h3
  have h1' : w1.heap[b]? = some (.cells (.bool true :: v :: .int .i64 (sz : Int) :: R).toArray ty (0, 0)) := by rw [hbel.block b hb]; exact h1
  have hbg : b ≠ g := by rintro rfl; rw [h1'] at hg; simp at hg; exact hty hg.2
  refine ⟨by rw [cell_of_row _ _ 1 _ _ _ h1', cell_of_row _ _ 1 _ _ _ h1], frozen_of_row _ _ 1 _ _ h1', ?_⟩
  obtain ⟨W2, hW2⟩ : ∃ W2, W2 = w1.setCell ⟨b, 1, none⟩ (.slice (some ⟨g, 0, none⟩) (P.length + l.length) cap) := ⟨_, rfl⟩
  rw [← hW2]
  have hap2 : Apart F w W2 := by rw [hW2]; exact (Apart.of_below hbel).setCell (.inl h3) 1 _
  have hg2 : W2.heap[g]? = some (.cells cur 5 (0, 0)) := by rw [hW2, heap_setCell_other _ _ _ _ hbg.symm]; exact hg
  have hb2 : W2.heap[b]? = some (.cells (.bool true :: .slice (some ⟨g, 0, none⟩) (P.length + l.length) cap :: .int .i64 (sz : Int) :: R).toArray ty (0, 0)) := by
    rw [hW2, heap_setCell_same _ _ _ _ _ _ h1']; rfl
  obtain ⟨W3, hrun, hg3, hap3, hsz⟩ := copy_row W2 g P.length l.length (cap - P.length) cur hg2 (by omega) x cx l (hap2.sees hs hsn) l.length (by omega)
  have hb3 : W3.heap[b]? = some (.cells (.bool true :: .slice (some ⟨g, 0, none⟩) (P.length + l.length) cap :: .int .i64 (sz : Int) :: R).toArray ty (0, 0)) := by
    rw [hap3.block b (Array.getElem?_eq_some_iff.1 hb2).1 hbg]; exact hb2
  refine ⟨W3, ?_, fun k => k = b ∨ k = g ∧ k < W3.heap.size, ⟨.slice (some ⟨g, 0, none⟩) (P.length + l.length) cap, hb3, ?_, .inl rfl, ?_, ?_⟩, ?_, ?_⟩
  · rintro D (rfl | ⟨rfl, rfl⟩)
    · exact hrun
    · have e1 := copy_nil W2 (some ⟨g, P.length, none⟩) (cap - P.length) x cx 0
      have e2 : (Builtin.copy_ #[23, 23] 3 #[.slice (some ⟨g, P.length, none⟩) 0 (cap - P.length), .slice x 0 cx]).run Try.prog W2 = .ok (.int .i64 0) W3 := hrun
      rw [e1] at e2
      have e3 : W2 = W3 := by injection e2
      rw [← e3]
      exact copy_nil W2 (some ⟨g, 0, none⟩) 0 x cx 0
  · refine ⟨by simp, .inr ⟨g, cap, _, by rw [List.length_append], Nat.zero_le _, hg3, by rw [List.length_append]; exact hcap, hcm, ?_, ?_⟩⟩
    · simp [hcs]; omega
    · rw [List.take_length, htk, ← List.map_append, Nat.mul_one, List.take_append_of_le_length (by simp), List.take_of_length_le (by simp)]
  · intro k hk
    obtain rfl : g = k := by simpa [Value.ownBlock] using hk
    exact .inr ⟨rfl, (Array.getElem?_eq_some_iff.1 hg3).1⟩
  · rintro k (rfl | ⟨_, hk⟩)
    · exact (Array.getElem?_eq_some_iff.1 hb3).1
    · exact hk
  · exact hap2.trans hap3 (fun i hi => by rw [hi]; exact hgF)
  · rintro k (rfl | ⟨rfl, _⟩)
    · exact .inl h3
    · exact hgF
/-- .. of nothing, to nothing. -/
theorem row_none {ty : TypeId} {R : List Value} {w w1 : World} {b sz : Nat} {F : Nat → Prop} (h : RowP ty R w b (sz, []) F) (hbel : Below w.heap.size w w1) :
    w1.cell? ⟨b, 1, none⟩ = w.cell? ⟨b, 1, none⟩ ∧ w1.frozen? ⟨b, 1, none⟩ = false ∧ Left (RowP ty R) w F b (sz, []) (w1.setCell ⟨b, 1, none⟩ (.slice none 0 0)) := by
  obtain ⟨v, h1, h2, h3, h4, h5⟩ := h
  have hb : b < w.heap.size := h5 b h3
  have h1' : w1.heap[b]? = some (.cells (.bool true :: v :: .int .i64 (sz : Int) :: R).toArray ty (0, 0)) := by rw [hbel.block b hb]; exact h1
  refine ⟨by rw [cell_of_row _ _ 1 _ _ _ h1', cell_of_row _ _ 1 _ _ _ h1], frozen_of_row _ _ 1 _ _ h1', fun k => k = b, ⟨.slice none 0 0, by rw [heap_setCell_same _ _ _ _ _ _ h1']; rfl, ⟨rfl, .inl ⟨rfl, rfl⟩⟩, rfl, ?_, ?_⟩, (Apart.of_below hbel).setCell (.inl h3) 1 _, ?_⟩
  · intro k hk; simp [Value.ownBlock] at hk
  · rintro k rfl; have := hbel.size; simp; omega
  · rintro k rfl; exact .inl h3
end Go.Proofs.Ytoggjpkbbncbbaa
