/-
  Arguments: slices of arrays of two numbers of some kind; an array of two numbers by value. No program here.
-/
import Derived.Test.YtoibndfiolipbaaBase
import Derived.Deep.Slices
import Derived.Deep.SlicePairs
import Derived.SizedLaws
namespace Go.Proofs.Ytoibndfiolipbaa
open Go.ChangeShapes Go.WideShapes Go.ChangeAt Go.RowKit

def wf2 (q : IntKind) (k : Int × Int) : Prop := (Lit.int q k.1).wf = true ∧ (Lit.int q k.2).wf = true
/-- The slice '.slice a L.length cap' reads as the pairs L. -/
structure Pairs2 (q : IntKind) (w : World) (a : Option Addr) (cap : Nat) (L : List (Int × Int)) : Prop where
  fits : L.length ≤ cap
  room : cap ≤ maxLen
  wf : ∀ k ∈ L, wf2 q k
  at' : L ≠ [] → ∃ b off, a = some ⟨b, off, none⟩ ∧ ∀ (i : Nat) (k : Int × Int), L[i]? = some k → w.cell? ⟨b, off + i * 2, none⟩ = some (.int q k.1) ∧ w.cell? ⟨b, off + i * 2 + 1, none⟩ = some (.int q k.2)
theorem Pairs2.get {q : IntKind} {w : World} {a : Option Addr} {cap : Nat} {L : List (Int × Int)} (h : Pairs2 q w a cap L) {i : Nat} {k : Int × Int} (hk : L[i]? = some k) :
    ∃ b off, a = some ⟨b, off, none⟩ ∧ w.cell? ⟨b, off + i * 2, none⟩ = some (.int q k.1) ∧ w.cell? ⟨b, off + i * 2 + 1, none⟩ = some (.int q k.2) := by
  obtain ⟨b, off, ha, hc⟩ := h.at' (by rintro rfl; simp at hk)
  exact ⟨b, off, ha, hc i k hk⟩
theorem Pairs2.len {q : IntKind} {w : World} {a : Option Addr} {cap : Nat} {L : List (Int × Int)} (h : Pairs2 q w a cap L) : L.length ≤ 9223372036854775807 := by
  have := h.fits; have := h.room; unfold maxLen at this; omega
theorem Pairs2.below {q : IntKind} {w w' : World} {a : Option Addr} {cap : Nat} {L : List (Int × Int)} (h : Pairs2 q w a cap L) (hb : Below w.heap.size w w') : Pairs2 q w' a cap L :=
  ⟨h.fits, h.room, h.wf, fun hne => by
    obtain ⟨b, off, ha, hc⟩ := h.at' hne
    refine ⟨b, off, ha, fun i k hk => ?_⟩
    obtain ⟨c0, c1⟩ := hc i k hk
    exact ⟨by rw [hb.cell (World.block_lt_of_cell? w _ c0)]; exact c0, by rw [hb.cell (World.block_lt_of_cell? w _ c1)]; exact c1⟩⟩
theorem pairs2_of_arg {P : Program} {q : IntKind} {t e i2 : TypeId} {H : Type} {enc : TypeId × Value → H} {W : World} {fuel : Nat} {a : Option Addr} {len cap : Nat} {d : DataW H} {p : List MemPlace}
    (ut : P.underlying t = some (.slice e)) (ue : P.underlying e = some (.array 2 i2)) (ui : P.underlying i2 = some (.int q)) (ce : P.cellsOf e = 2) (ci : P.cellsOf i2 = 1)
    (hf : DataW.trod enc P W 0 (fun _ => true) true fuel t (Value.slice a len cap).cells.toList = some (d, p)) :
    ∃ L : List (Int × Int), len = L.length ∧ Pairs2 q W a cap L := by
  rcases Go.Deep.open_slice ut hf with ⟨hcs, _⟩ | ⟨x, l, c, m, n, D, Pl, hcs, _, hl, hm, hmm, hdx, hx⟩
  · simp [Value.cells] at hcs
    obtain ⟨rfl, rfl, rfl⟩ := hcs
    exact ⟨[], rfl, ⟨by simp, by simp, by simp, fun h => absurd rfl h⟩⟩
  · simp [Value.cells] at hcs
    obtain ⟨rfl, rfl, rfl⟩ := hcs
    have hmc : m = cap := by simpa using hmm
    subst hmc
    have hv : ∀ i, i < m → ∃ k : Int × Int, W.cell? (x.add (i * 2)) = some (.int q k.1) ∧ W.cell? (x.add (i * 2 + 1)) = some (.int q k.2) ∧ wf2 q k := by
      intro i hi
      obtain ⟨cs', h1, h2⟩ := hx i hi
      rw [ce] at h1
      obtain ⟨_, hlen, hcell⟩ := World.cells?_some h1
      obtain ⟨xs, k, h3⟩ := DataW.trod_array ue h2
      obtain ⟨_, _, _, h4, h5⟩ := h3
      match xs, h4, cs', hlen with
      | [y0, y1], _, [v0, v1], _ =>
        have g0 := h5 0 (by omega)
        have g1 := h5 1 (by omega)
        simp [ci] at g0 g1
        obtain ⟨z0, e0, _, w0⟩ := DataW.trod_int ui g0
        obtain ⟨z1, e1, _, w1⟩ := DataW.trod_int ui g1
        simp at e0 e1
        have q0 := hcell 0 (by omega)
        have q1 := hcell 1 (by omega)
        rw [Go.Deep.add_add] at q0 q1
        exact ⟨(z0, z1), by simpa [e0] using q0, by simpa [e1] using q1, w0, w1⟩
    obtain ⟨k, hk⟩ := Go.Deep.choose_lt hv
    refine ⟨(List.range len).map k, by simp, ⟨by simp; exact hl, hm, fun z hz => ?_, fun hne => ?_⟩⟩
    · obtain ⟨i, hi, rfl⟩ := List.mem_map.1 hz
      rw [List.mem_range] at hi
      exact (hk i (by omega)).2.2
    have h0 : 0 < len := by
      rcases Nat.eq_zero_or_pos len with h | h
      · subst h; simp at hne
      · exact h
    obtain ⟨b, off, spot⟩ := x
    have hs := World.cell?_spot (hk 0 (by omega)).1
    have hspot : spot = none := by simpa [Addr.add] using hs
    subst hspot
    refine ⟨b, off, rfl, fun i y hy => ?_⟩
    have hi : i < len := by
      have := (List.getElem?_eq_some_iff.1 hy).1
      simpa using this
    have e1 : y = k i := by
      simp [List.getElem?_map, List.getElem?_range hi] at hy
      exact hy.symm
    obtain ⟨g0, g1, _⟩ := hk i (by omega)
    rw [Addr.add_lit] at g0 g1
    rw [e1]
    exact ⟨g0, by rw [Nat.add_assoc]; exact g1⟩
/-- An array of two numbers by value. -/
theorem arr2_of_arg {P : Program} {q : IntKind} {e i2 : TypeId} {H : Type} {enc : TypeId × Value → H} {W : World} {r : Reach} {base : Nat} {v : Value} {d : DataW H} {p : List MemPlace}
    (ue : P.underlying e = some (.array 2 i2)) (ui : P.underlying i2 = some (.int q)) (ce : P.cellsOf e = 2) (ci : P.cellsOf i2 = 1)
    (hv : Value.okWide P W r base e v) (h : DataW.Trod enc P W 0 (fun _ => true) true e v d p) :
    ∃ x y : Int, v = .agg #[.int q x, .int q y] ∧ (Lit.int q x).wf = true ∧ (Lit.int q y).wf = true := by
  simp only [Value.okWide, ue] at hv
  obtain ⟨cs, rfl, hsz, _⟩ := hv
  obtain ⟨l⟩ := cs
  obtain ⟨fuel, hf⟩ := h
  obtain ⟨xs, k, _, _, _, h4, h5⟩ := DataW.trod_array ue hf
  have hcs : (Value.agg ⟨l⟩).cells.toList = l := by simp [Value.cells]
  rw [hcs] at h5
  have hl : l.length = 2 := by simpa [ce] using hsz
  match xs, h4, l, hl with
  | [y0, y1], _, [v0, v1], _ =>
    have g0 := h5 0 (by omega)
    have g1 := h5 1 (by omega)
    simp [ci] at g0 g1
    obtain ⟨z0, e0, _, w0⟩ := DataW.trod_int ui g0
    obtain ⟨z1, e1, _, w1⟩ := DataW.trod_int ui g1
    simp at e0 e1
    subst e0 e1
    exact ⟨z0, z1, rfl, w0, w1⟩
end Go.Proofs.Ytoibndfiolipbaa
