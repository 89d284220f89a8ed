/-
  The contract of slices.Reverse, of a list of bytes.
-/
import Derived.Test.YteehkekmaikeiaaBufD
namespace Go.Proofs.Yteehkekmaikeiaa
open Go.ChangeShapes Go.WideShapes Go.ChangeAt Go.RowKit

/-- One of the list is put. -/
theorem Row.set22 {w : World} {q cap len : Nat} {xs : List Bl} (h : Row E22 w (.slice (some ⟨q, 0, none⟩) len cap) xs) (t : Nat) (_ht : t < xs.length) (x : Bl) : Row E22 (w.setCell ⟨q, t, none⟩ (.slice x.2.1 x.1.length x.2.2)) (.slice (some ⟨q, 0, none⟩) len cap) (xs.set t x) := by
  rcases h with ⟨e, _⟩ | ⟨q', cap', cur, e, h1, h2, h3, h4, h5, h6⟩
  · cases e
  cases e
  have hn1 : E22.n = 1 := rfl
  rw [hn1, Nat.mul_one] at h4 h5
  have hcs : ∀ l : List Bl, E22.cs l = l.map fun s => Value.slice s.2.1 s.1.length s.2.2 := by
    intro l
    induction l with
    | nil => rfl
    | cons y l ih => rw [E22.cs_cons, ih]; rfl
  have hh := heap_setCell_same w q t cur E22.T (.slice x.2.1 x.1.length x.2.2) h1
  refine .inr ⟨q, cap, _, by rw [List.length_set], hh, by rw [List.length_set]; exact h2, h3, ?_, ?_, ?_⟩
  · rw [hn1, Nat.mul_one]; simpa using h4
  · rw [hn1, Nat.mul_one, List.length_set, hcs, Array.toList_setIfInBounds, List.take_set, h5, hcs, List.map_set]
  · intro u hu
    rw [Array.toList_setIfInBounds] at hu
    rcases List.mem_or_eq_of_mem_set hu with hu | rfl
    · exact h6 u hu
    · intro k y e; cases e

/-- The first i and the last i have changed places. -/
def Swapped {α : Type} (xs ys : List α) (i : Nat) : Prop := ys.length = xs.length ∧ ∀ t, t < xs.length → ys[t]? = if t < i ∨ xs.length - 1 - t < i then xs[xs.length - 1 - t]? else xs[t]?
theorem Swapped.zero {α : Type} (xs : List α) : Swapped xs xs 0 := ⟨rfl, fun t _ => by simp⟩
theorem Swapped.step {α : Type} {xs ys : List α} {i j : Nat} (h : Swapped xs ys i) (hij : i < j) (hj : i + j + 1 = xs.length) {a b : α} (ha : ys[i]? = some a) (hb : ys[j]? = some b) : Swapped xs ((ys.set i b).set j a) (i + 1) := by
  refine ⟨by simp [h.1], fun t ht => ?_⟩
  have hi' := h.2 i (by omega)
  have hj' := h.2 j (by omega)
  rw [if_neg (by omega)] at hi' hj'
  rw [List.getElem?_set, List.getElem?_set]
  by_cases e1 : j = t
  · subst e1
    rw [if_pos rfl, if_pos (by simp [h.1]; omega), if_pos (by omega), show xs.length - 1 - j = i by omega, ← hi', ha]
  · rw [if_neg e1]
    by_cases e2 : i = t
    · subst e2
      rw [if_pos rfl, if_pos (by rw [h.1]; omega), if_pos (by omega), show xs.length - 1 - i = j by omega, ← hj', hb]
    · rw [if_neg e2, h.2 t ht]
      by_cases e3 : t < i ∨ xs.length - 1 - t < i
      · rw [if_pos e3, if_pos (by omega)]
      · rw [if_neg e3, if_neg (by omega)]
theorem Swapped.done {α : Type} {xs ys : List α} {i : Nat} (h : Swapped xs ys i) (hi : xs.length ≤ 2 * i + 1) : ys = xs.reverse := by
  apply List.ext_getElem?
  intro t
  by_cases ht : t < xs.length
  · rw [h.2 t ht, List.getElem?_reverse ht]
    by_cases e : t < i ∨ xs.length - 1 - t < i
    · rw [if_pos e]
    · rw [if_neg e, show xs.length - 1 - t = t by omega]
  · rw [List.getElem?_eq_none (by rw [h.1]; omega), List.getElem?_eq_none (by simp; omega)]

set_option maxHeartbeats 1600000 in
set_option maxRecDepth 20000 in
theorem reverse_ok (w : World) (v : Value) (xs : List Bl) (h : Row E22 w v xs) (hl : xs.length ≤ 1000) :
    Calls Try.prog 34 #[v] w fun e w' => e = .returned (.tuple #[]) ∧ Row E22 w' v xs.reverse ∧ Apart (fun k => v.ownBlock = some k) w w' := by
  obtain ⟨a, cap, rfl, hcap, hmax, hnil, hq, hcell⟩ := h.shape
  have HS : Hid (Row E22 w (.slice a xs.length cap) xs ∧ Swapped xs xs 0 ∧ Apart (fun k => (Value.slice a xs.length cap).ownBlock = some k) w w) := ⟨h, Swapped.zero xs, Apart.refl _ _⟩
  have HQ : Hid (∀ b, a = some b → ∃ q, b = ⟨q, 0, none⟩) := hq
  have hcm : cap ≤ 9223372036854775807 := by unfold maxLen at hmax; omega
  clear h hcell hnil hmax hq
  obtain ⟨N, hN⟩ : ∃ N, N = xs.length := ⟨_, rfl⟩
  rw [← hN] at hl hcap HS ⊢
  have HN : Hid (N = xs.length) := hN
  clear hN
  go_enter Try.func34, Try.ntmps34
  go_wp2
  go_loopw [2, 3] (fun s2 s3 wr => ∃ (i : Nat) (z : Int) (ys : List Bl), s2 = .int .i64 (i : Int) ∧ s3 = .int .i64 z ∧ z = (N : Int) - 1 - (i : Int) ∧ i ≤ N ∧ Row E22 wr (.slice a N cap) ys ∧ Swapped xs ys i ∧ Apart (fun k => (Value.slice a N cap).ownBlock = some k) w wr) (fun s2 _ _ => N - (intOf s2).toNat)
  case atStart => exact ⟨0, (N : Int) - 1, xs, rfl, rfl, by omega, Nat.zero_le _, HS.out.1, HS.out.2.1, HS.out.2.2⟩
  case round =>
    obtain ⟨i, z, ys, rfl, rfl, hz, hi, hR, hW, hA⟩ := hrel
    clear HS
    have hyl : ys.length = N := by rw [hW.1, HN.out]
    by_cases hlt : (i : Int) < z
    · obtain ⟨j, rfl⟩ : ∃ j : Nat, z = (j : Int) := ⟨z.toNat, by omega⟩
      have hij : i < j := by omega
      have hjn : i + j + 1 = N := by omega
      obtain ⟨x, hx⟩ : ∃ x, ys[i]? = some x := ⟨ys[i]'(by omega), by rw [List.getElem?_eq_getElem]⟩
      obtain ⟨y, hy⟩ : ∃ y, ys[j]? = some y := ⟨ys[j]'(by omega), by rw [List.getElem?_eq_getElem]⟩
      obtain ⟨_, q, rfl, ci⟩ := hR.get hx
      obtain ⟨_, q', e, cj⟩ := hR.get hy
      cases e
      have c1 := ci 0 _ rfl
      have c2 := cj 0 _ rfl
      rw [show E22.n = 1 from rfl, Nat.mul_one, Nat.add_zero] at c1 c2
      obtain ⟨cur, hrow, _⟩ := hR.isRow (k := q) rfl
      have f1 : wr.frozen? ⟨q, i, none⟩ = false := frozen_of_row _ _ i _ _ hrow
      have f2 : wr.frozen? ⟨q, j, none⟩ = false := frozen_of_row _ _ j _ _ hrow
      have hR2 := ((hR.keep (w' := wr.drew) fun _ _ => rfl).set22 i (by omega) y).set22 j (by rw [List.length_set]; omega) x
      have HE : Hid (Row E22 ((wr.drew.setCell ⟨q, i, none⟩ (.slice y.2.1 y.1.length y.2.2)).setCell ⟨q, j, none⟩ (.slice x.2.1 x.1.length x.2.2)) (.slice (some ⟨q, 0, none⟩) N cap) ((ys.set i y).set j x) ∧ Swapped xs ((ys.set i y).set j x) (i + 1) ∧
        Apart (fun k => (Value.slice (some ⟨q, 0, none⟩) N cap).ownBlock = some k) w ((wr.drew.setCell ⟨q, i, none⟩ (.slice y.2.1 y.1.length y.2.2)).setCell ⟨q, j, none⟩ (.slice x.2.1 x.1.length x.2.2))) :=
        ⟨hR2, hW.step hij (by rw [← HN.out]; exact hjn) hx hy, (hA.drew.setCell (.inl rfl) i _).setCell (.inl rfl) j _⟩
      obtain ⟨lx, hlx⟩ : ∃ lx, lx = x.1.length := ⟨_, rfl⟩
      obtain ⟨ly, hly⟩ : ∃ ly, ly = y.1.length := ⟨_, rfl⟩
      obtain ⟨ax, hax⟩ : ∃ ax, ax = x.2.1 := ⟨_, rfl⟩
      obtain ⟨ay, hay⟩ : ∃ ay, ay = y.2.1 := ⟨_, rfl⟩
      obtain ⟨kx, hkx⟩ : ∃ kx, kx = x.2.2 := ⟨_, rfl⟩
      obtain ⟨ky, hky⟩ : ∃ ky, ky = y.2.2 := ⟨_, rfl⟩
      rw [← hlx, ← hax, ← hkx] at c1 HE
      rw [← hly, ← hay, ← hky] at c2 HE
      have g1 : (i : Int) < (N : Int) := by omega
      have g2 : (j : Int) < (N : Int) := by omega
      have g3 : (i : Int) < (j : Int) := by omega
      have g4 : i ≠ j := by omega
      have e1 : IntKind.i64.wrap ((i : Int) + 1) = ((i + 1 : Nat) : Int) := by rw [IntKind.wrap_i64]; omega
      have e2 : IntKind.i64.wrap ((j : Int) - 1) = (j : Int) - 1 := by rw [IntKind.wrap_i64]; omega
      have HJ : Hid (i + j + 1 = N) := hjn
      clear hR hA hW hz hi hyl hx hy ci cj hrow hR2 hlx hly hax hay hkx hky hlt hij hjn hcap hcm
      go_wp2_with fail
      go_region
      go_wp2
      go_roundw
      case rel => exact ⟨i + 1, (j : Int) - 1, _, by first | rfl | (congr 1; omega), rfl, by have := HJ.out; omega, by have := HJ.out; omega, HE.out.1, HE.out.2.1, HE.out.2.2⟩
      case measure => have := HJ.out; simp [intOf]; omega
    · have hdone := hW.done (by rw [← HN.out]; omega)
      subst hdone
      have HE : Hid (Row E22 wr (.slice a N cap) xs.reverse ∧ Apart (fun k => (Value.slice a N cap).ownBlock = some k) w wr) := ⟨hR, hA⟩
      clear hR hA hW hz hi hyl
      go_wp2
      go_end0
      exact ⟨rfl, HE.out⟩
end Go.Proofs.Yteehkekmaikeiaa
