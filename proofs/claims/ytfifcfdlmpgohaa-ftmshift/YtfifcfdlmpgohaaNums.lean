/-
  Slices that read as numbers of a kind, or as lists of bytes. No program here.
-/
import Derived.Test.YtfifcfdlmpgohaaBase
import Derived.Deep.Matrix
namespace Go.Proofs.Ytfifcfdlmpgohaa
open Go.ChangeShapes Go.WideShapes Go.ChangeAt Go.RowKit

/-- The slice '.slice a l.length cap' reads as the numbers l, of kind k. -/
structure Nums (k : IntKind) (w : World) (a : Option Addr) (cap : Nat) (l : List Int) : Prop where
  fits : l.length ≤ cap
  room : cap ≤ maxLen
  wf : ∀ z ∈ l, (Lit.int k z).wf = true
  at' : l ≠ [] → ∃ b off, a = some ⟨b, off, none⟩ ∧ ∀ (i : Nat) (z : Int), l[i]? = some z → w.cell? ⟨b, off + i, none⟩ = some (.int k z)

theorem Nums.get {k : IntKind} {w : World} {a : Option Addr} {cap : Nat} {l : List Int} (h : Nums k w a cap l) {i : Nat} {z : Int} (hz : l[i]? = some z) :
    ∃ b off, a = some ⟨b, off, none⟩ ∧ w.cell? ⟨b, off + i, none⟩ = some (.int k z) := by
  obtain ⟨b, off, ha, hc⟩ := h.at' (by rintro rfl; simp at hz)
  exact ⟨b, off, ha, hc i z hz⟩
theorem Nums.below {k : IntKind} {w w' : World} {a : Option Addr} {cap : Nat} {l : List Int} (h : Nums k w a cap l) (hb : Below w.heap.size w w') : Nums k w' a cap l :=
  ⟨h.fits, h.room, h.wf, fun hne => by
    obtain ⟨b, off, ha, hc⟩ := h.at' hne
    refine ⟨b, off, ha, fun i z hz => ?_⟩
    have h1 := hc i z hz
    rw [hb.cell (p := ⟨b, off + i, none⟩) (World.block_lt_of_cell? w _ h1), h1]⟩
theorem Nums.len {k : IntKind} {w : World} {a : Option Addr} {cap : Nat} {l : List Int} (h : Nums k w a cap l) : l.length ≤ 9223372036854775807 := by
  have := h.fits; have := h.room; unfold maxLen at this; omega

/-- An argument that is a slice of numbers. -/
theorem nums_of_arg {P : Program} {H : Type} {enc : TypeId × Value → H} {W : World} {t e : TypeId} {k : IntKind} {fuel : Nat} {a : Option Addr} {len cap : Nat} {d : DataW H} {p : List MemPlace}
    (ht : P.underlying t = some (.slice e)) (he : P.underlying e = some (.int k)) (hc : P.cellsOf e = 1)
    (hf : DataW.trod enc P W 0 (fun _ => true) true fuel t (Value.slice a len cap).cells.toList = some (d, p)) :
    ∃ l : List Int, len = l.length ∧ Nums k W a cap l := by
  rcases open_ints ht he hc hf with ⟨hcs, _⟩ | ⟨x, l, c, zs, hcs, _, hl, hm, hz, hx, hcell, hwz⟩
  · simp [Value.cells] at hcs
    obtain ⟨rfl, rfl, rfl⟩ := hcs
    exact ⟨[], rfl, ⟨by simp, by simp, by simp, fun h => absurd rfl h⟩⟩
  · simp [Value.cells] at hcs
    obtain ⟨rfl, rfl, rfl⟩ := hcs
    have hz' : zs.length = cap := by simpa using hz
    have hlz : len ≤ zs.length := by omega
    refine ⟨zs.take len, by simp; omega, ⟨by simp; omega, hm, fun z hz2 => hwz z (List.mem_of_mem_take hz2), fun hne => ?_⟩⟩
    have h0 : 0 < len := by
      rcases Nat.eq_zero_or_pos len with h | h
      · subst h; simp at hne
      · exact h
    obtain ⟨b, off, spot⟩ := x
    have hs := World.cell?_spot (hcell 0 (by omega))
    have hspot : spot = none := by simpa [Addr.add] using hs
    subst hspot
    refine ⟨b, off, rfl, fun i y hy => ?_⟩
    have hi : i < len := by
      have := (List.getElem?_eq_some_iff.1 hy).1
      simp at this; omega
    have h1 := hcell i (by omega)
    rw [Addr.add_lit] at h1
    rw [h1]
    have e1 : y = zs.getD i 0 := by
      rw [List.getElem?_take, if_pos hi] at hy
      rw [List.getD_eq_getElem?_getD, hy]; rfl
    rw [e1]

/-- The slice '.slice a L.length cap' reads as lists of bytes. -/
structure Rowss (w : World) (a : Option Addr) (cap : Nat) (L : List (List UInt8)) : Prop where
  fits : L.length ≤ cap
  room : cap ≤ maxLen
  at' : ∀ (r : Nat) (bs : List UInt8), L[r]? = some bs → ∃ b off, a = some ⟨b, off, none⟩ ∧ ∃ x cx, w.cell? ⟨b, off + r, none⟩ = some (.slice x bs.length cx) ∧ Sees w x cx bs
theorem Rowss.len {w : World} {a : Option Addr} {cap : Nat} {L : List (List UInt8)} (h : Rowss w a cap L) : L.length ≤ 9223372036854775807 := by
  have := h.fits; have := h.room; unfold maxLen at this; omega
end Go.Proofs.Ytfifcfdlmpgohaa
