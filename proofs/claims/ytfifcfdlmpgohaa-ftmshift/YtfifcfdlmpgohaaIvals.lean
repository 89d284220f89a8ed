/-
  A slice that reads as a list of pairs of numbers (intervals, ends), in whatever memory. No program here.
-/
import Derived.Test.YtfifcfdlmpgohaaNums
import Derived.Deep.SlicePairs
namespace Go.Proofs.Ytfifcfdlmpgohaa
open Go.ChangeShapes Go.WideShapes Go.ChangeAt Go.RowKit

/-- The slice '.slice a L.length cap' reads as the pairs L. -/
structure Ivals (w : World) (a : Option Addr) (cap : Nat) (L : List (Int × Int)) : Prop where
  fits : L.length ≤ cap
  room : cap ≤ maxLen
  at' : L ≠ [] → ∃ b off, a = some ⟨b, off, none⟩ ∧ ∀ (i : Nat) (x : Int × Int), L[i]? = some x → w.cell? ⟨b, off + i * 2, none⟩ = some (.int .i64 x.1) ∧ w.cell? ⟨b, off + i * 2 + 1, none⟩ = some (.int .i64 x.2)

theorem Ivals.get {w : World} {a : Option Addr} {cap : Nat} {L : List (Int × Int)} (h : Ivals w a cap L) {i : Nat} {x : Int × Int} (hx : L[i]? = some x) :
    ∃ b off, a = some ⟨b, off, none⟩ ∧ w.cell? ⟨b, off + i * 2, none⟩ = some (.int .i64 x.1) ∧ w.cell? ⟨b, off + i * 2 + 1, none⟩ = some (.int .i64 x.2) := by
  obtain ⟨b, off, ha, hc⟩ := h.at' (by rintro rfl; simp at hx)
  exact ⟨b, off, ha, hc i x hx⟩
theorem Ivals.below {w w' : World} {a : Option Addr} {cap : Nat} {L : List (Int × Int)} (h : Ivals w a cap L) (hb : Below w.heap.size w w') : Ivals w' a cap L :=
  ⟨h.fits, h.room, fun hne => by
    obtain ⟨b, off, ha, hc⟩ := h.at' hne
    refine ⟨b, off, ha, fun i x hx => ?_⟩
    have h1 := hc i x hx
    exact ⟨by rw [hb.cell (p := ⟨b, off + i * 2, none⟩) (World.block_lt_of_cell? w _ h1.1), h1.1], by rw [hb.cell (p := ⟨b, off + i * 2 + 1, none⟩) (World.block_lt_of_cell? w _ h1.2), h1.2]⟩⟩
theorem Ivals.len {w : World} {a : Option Addr} {cap : Nat} {L : List (Int × Int)} (h : Ivals w a cap L) : L.length ≤ 9223372036854775807 := by
  have := h.fits; have := h.room; unfold maxLen at this; omega

/-- An argument that is a slice of structs of two numbers. -/
theorem ivals_of_arg {P : Program} {H : Type} {enc : TypeId × Value → H} {W : World} {t e : TypeId} {f0 f1 : Field} {fuel : Nat} {a : Option Addr} {len cap : Nat} {d : DataW H} {p : List MemPlace}
    (ht : P.underlying t = some (.slice e)) (he : P.underlying e = some (.struct #[f0, f1])) (ce : P.cellsOf e = 2) (o0 : f0.offset = 0) (o1 : f1.offset = 1) (c0 : P.cellsOf f0.type = 1) (c1 : P.cellsOf f1.type = 1)
    (u0 : P.underlying f0.type = some (.int .i64)) (u1 : P.underlying f1.type = some (.int .i64))
    (hf : DataW.trod enc P W 0 (fun _ => true) true fuel t (Value.slice a len cap).cells.toList = some (d, p)) :
    ∃ L : List (Int × Int), len = L.length ∧ Ivals W a cap L := by
  rcases Go.Deep.open_slice_pairs ht he ce o0 o1 c0 c1 hf with ⟨hcs, _⟩ | ⟨x, l, c, m, n, V0, V1, D0, D1, P0, P1, hcs, _, hl, hm, hmm, _, hx⟩
  · simp [Value.cells] at hcs
    obtain ⟨rfl, rfl, rfl⟩ := hcs
    exact ⟨[], rfl, ⟨by simp, by simp, fun h => absurd rfl h⟩⟩
  · simp [Value.cells] at hcs
    obtain ⟨rfl, rfl, rfl⟩ := hcs
    have hmc : m = cap := by simpa using hmm
    subst hmc
    have hv : ∀ i, i < m → ∃ q : Int × Int, V0 i = .int .i64 q.1 ∧ V1 i = .int .i64 q.2 := by
      intro i hi
      obtain ⟨_, _, h0, h1⟩ := hx i hi
      obtain ⟨y, hy, _, _⟩ := DataW.trod_int u0 h0
      obtain ⟨z, hz, _, _⟩ := DataW.trod_int u1 h1
      simp at hy hz
      exact ⟨(y, z), hy, hz⟩
    obtain ⟨q, hq⟩ := Go.Deep.choose_lt hv
    refine ⟨(List.range len).map q, by simp, ⟨by simp; exact hl, hm, fun hne => ?_⟩⟩
    have h0 : 0 < len := by
      rcases Nat.eq_zero_or_pos len with h | h
      · subst h; simp at hne
      · exact h
    obtain ⟨b, off, spot⟩ := x
    have hs := World.cell?_spot (hx 0 (by omega)).1
    have hspot : spot = none := by simpa [Addr.add] using hs
    subst hspot
    refine ⟨b, off, rfl, fun i y hy => ?_⟩
    have hi : i < len := by
      have := (List.getElem?_eq_some_iff.1 hy).1
      simpa using this
    have e1 : y = q i := by
      simp [List.getElem?_map, List.getElem?_range hi] at hy
      exact hy.symm
    obtain ⟨g0, g1, _, _⟩ := hx i (by omega)
    rw [Addr.add_lit] at g0 g1
    rw [e1, ← (hq i (by omega)).1, ← (hq i (by omega)).2]
    exact ⟨g0, by rw [Nat.add_assoc]; exact g1⟩
end Go.Proofs.Ytfifcfdlmpgohaa
