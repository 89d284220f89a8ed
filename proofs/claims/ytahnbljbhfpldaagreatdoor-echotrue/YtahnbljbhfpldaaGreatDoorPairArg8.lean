/-
  An argument that is a list of arrays of two small numbers.
-/
import Derived.Test.YtahnbljbhfpldaaGreatDoorGround
import Derived.Deep.Slices
import Derived.Deep.SlicePairs
import Derived.SizedLaws
namespace Go.Proofs.YtahnbljbhfpldaaGreatDoor
open Go.ChangeShapes Go.WideShapes Go.ChangeAt Go.RowKit
set_option maxRecDepth 20000
abbrev Key8 := Int × Int
def wfK8 (k : Key8) : Prop := (Lit.int .i8 k.1).wf = true ∧ (Lit.int .i8 k.2).wf = true
structure Pairs8 (w : World) (a : Option Addr) (cap : Nat) (L : List Key8) : Prop where
  fits : L.length ≤ cap
  room : cap ≤ maxLen
  wf : ∀ k ∈ L, wfK8 k
  at' : L ≠ [] → ∃ b off, a = some ⟨b, off, none⟩ ∧ ∀ (i : Nat) (k : Key8), L[i]? = some k → w.cell? ⟨b, off + i * 2, none⟩ = some (.int .i8 k.1) ∧ w.cell? ⟨b, off + i * 2 + 1, none⟩ = some (.int .i8 k.2)
theorem Pairs8.get {w : World} {a : Option Addr} {cap : Nat} {L : List Key8} (h : Pairs8 w a cap L) {i : Nat} {k : Key8} (hk : L[i]? = some k) :
    ∃ b off, a = some ⟨b, off, none⟩ ∧ w.cell? ⟨b, off + i * 2, none⟩ = some (.int .i8 k.1) ∧ w.cell? ⟨b, off + i * 2 + 1, none⟩ = some (.int .i8 k.2) := by
  obtain ⟨b, off, ha, hc⟩ := h.at' (by rintro rfl; simp at hk)
  exact ⟨b, off, ha, hc i k hk⟩
theorem pairs8_of_arg {H : Type} {enc : TypeId × Value → H} {W : World} {fuel : Nat} {a : Option Addr} {len cap : Nat} {d : DataW H} {p : List MemPlace} {ts : List TypeId} {ds : List (DataW H)} {j : Nat}
    (hf : DataW.trod enc Tryz.prog W 0 (fun _ => true) true fuel 65 (Value.slice a len cap).cells.toList = some (d, p)) (hsz : (DataW.weightsEach Tryz.prog ts ds).all (· ≤ reachBytes) = true) (hj : ts[j]? = some 65) (hd : ds[j]? = some d) :
    ∃ L : List Key8, len = L.length ∧ Pairs8 W a cap L ∧ L.length ≤ 140737488351232 := by
  have ce : Tryz.prog.cellsOf 68 = 2 := by kernel_rfl
  have c3 : Tryz.prog.cellsOf 67 = 1 := by kernel_rfl
  rcases Go.Deep.open_slice Tryz.underlying65 hf with ⟨hcs, _⟩ | ⟨x, l, c, m, n, D, Pl, hcs, _, hl, hm, hmm, hdx, hx⟩
  · simp [Value.cells] at hcs
    obtain ⟨rfl, rfl, rfl⟩ := hcs
    exact ⟨[], rfl, ⟨by simp, by simp, by simp, fun h => absurd rfl h⟩, by simp⟩
  · simp [Value.cells] at hcs
    obtain ⟨rfl, rfl, rfl⟩ := hcs
    have hmc : m = cap := by simpa using hmm
    subst hmc
    simp only [Prod.mk.injEq] at hdx
    have hl2 : len ≤ 140737488351232 := by
      obtain ⟨hdd, _⟩ := hdx
      rw [hdd] at hd
      have := Go.sized_slice hsz hj hd Tryz.underlying65
      rw [show Tryz.prog.bytesOf 68 = 2 by kernel_rfl] at this
      simp only [List.length_map, List.length_range, reachBytes] at this
      omega
    have hv : ∀ i, i < m → ∃ q : Key8, W.cell? (x.add (i * 2)) = some (.int .i8 q.1) ∧ W.cell? (x.add (i * 2 + 1)) = some (.int .i8 q.2) ∧ wfK8 q := by
      intro i hi
      obtain ⟨cs', h1, h2⟩ := hx i hi
      rw [ce] at h1
      obtain ⟨_, hlen, hcell⟩ := World.cells?_some h1
      obtain ⟨xs, k, h3⟩ := DataW.trod_array Tryz.underlying68 h2
      obtain ⟨_, _, _, h4, h5⟩ := h3
      match xs, h4, cs', hlen with
      | [y0, y1], _, [v0, v1], _ =>
        have g0 := h5 0 (by omega)
        have g1 := h5 1 (by omega)
        simp [c3] at g0 g1
        obtain ⟨z0, e0, _, w0⟩ := DataW.trod_int Tryz.underlying67 g0
        obtain ⟨z1, e1, _, w1⟩ := DataW.trod_int Tryz.underlying67 g1
        simp at e0 e1
        have q0 := hcell 0 (by omega)
        have q1 := hcell 1 (by omega)
        rw [Go.Deep.add_add] at q0 q1
        exact ⟨(z0, z1), by simpa [e0] using q0, by simpa [e1] using q1, w0, w1⟩
    obtain ⟨q, hq⟩ := Go.Deep.choose_lt hv
    refine ⟨(List.range len).map q, by simp, ⟨by simp; exact hl, hm, fun k hk => ?_, fun hne => ?_⟩, by simpa using hl2⟩
    · obtain ⟨i, hi, rfl⟩ := List.mem_map.1 hk
      rw [List.mem_range] at hi
      exact (hq i (by omega)).2.2
    have h0 : 0 < len := by
      rcases Nat.eq_zero_or_pos len with h | h
      · subst h; simp at hne
      · exact h
    obtain ⟨b, off, spot⟩ := x
    have hs := World.cell?_spot (hq 0 (by omega)).1
    have hspot : spot = none := by simpa [Addr.add] using hs
    subst hspot
    refine ⟨b, off, rfl, fun i y hy => ?_⟩
    have hi : i < len := by
      have := (List.getElem?_eq_some_iff.1 hy).1
      simpa using this
    have e1 : y = q i := by
      simp [List.getElem?_map, List.getElem?_range hi] at hy
      exact hy.symm
    obtain ⟨g0, g1, _⟩ := hq i (by omega)
    rw [Addr.add_lit] at g0 g1
    rw [e1]
    exact ⟨g0, by rw [Nat.add_assoc]; exact g1⟩
end Go.Proofs.YtahnbljbhfpldaaGreatDoor
