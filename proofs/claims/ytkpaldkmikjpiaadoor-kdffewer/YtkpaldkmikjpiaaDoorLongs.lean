/-
  A slice that reads as long words.
-/
import Derived.Test.YtkpaldkmikjpiaaDoorPut
namespace Go.Proofs.YtkpaldkmikjpiaaDoor
open Go.ChangeShapes Go.WideShapes Go.ChangeAt Go.RowKit

/-- A long word as a cell. -/
def lcell (x : Nat) : Value := .int .u64 (x : Int)

/-- The slice '.slice a l.length cap' reads as long words. -/
structure Longs (w : World) (a : Option Addr) (cap : Nat) (l : List Nat) : Prop where
  fits : l.length ≤ cap
  room : cap ≤ maxLen
  small : ∀ x ∈ l, x < 18446744073709551616
  at' : l ≠ [] → ∃ b off, a = some ⟨b, off, none⟩ ∧ ∀ (i x : Nat), l[i]? = some x → w.cell? ⟨b, off + i, none⟩ = some (.int .u64 (x : Int))

theorem Longs.get {w : World} {a : Option Addr} {cap : Nat} {l : List Nat} (h : Longs w a cap l) {k x : Nat} (hx : l[k]? = some x) :
    ∃ b off, a = some ⟨b, off, none⟩ ∧ w.cell? ⟨b, off + k, none⟩ = some (.int .u64 (x : Int)) := by
  obtain ⟨b, off, ha, hc⟩ := h.at' (by rintro rfl; simp at hx)
  exact ⟨b, off, ha, hc k x hx⟩

theorem Longs.below {w w' : World} {a : Option Addr} {cap : Nat} {l : List Nat} (h : Longs w a cap l) (hb : Below w.heap.size w w') : Longs w' a cap l :=
  ⟨h.fits, h.room, h.small, fun hne => by
    obtain ⟨b, off, ha, hc⟩ := h.at' hne
    refine ⟨b, off, ha, fun i x hx => ?_⟩
    have h1 := hc i x hx
    rw [hb.cell (p := ⟨b, off + i, none⟩) (World.block_lt_of_cell? w _ h1), h1]⟩

theorem Longs.lit (w : World) (t : TypeId) (l : List Nat) (hl : l.length ≤ 100) (hs : ∀ x ∈ l, x < 18446744073709551616) :
    Longs (w.alloc (.cells (l.map fun x : Nat => Value.int .u64 (x : Int)).toArray t)) (some ⟨w.heap.size, 0, none⟩) l.length l :=
  ⟨Nat.le_refl _, by unfold maxLen; omega, hs, fun _ => ⟨w.heap.size, 0, rfl, fun i x hx => by
    have h := World.news_of_block (w := w.alloc (.cells (l.map fun x : Nat => Value.int .u64 (x : Int)).toArray t)) (cs := (l.map fun x : Nat => Value.int .u64 (x : Int)).toArray) (t := t) (fr := (0, 0)) (heap_alloc_new w _) i (.int .u64 (x : Int)) (by simp [hx])
    rw [Addr.add_lit] at h
    exact h⟩⟩

theorem Longs.of_own {w : World} {base : Nat} {e : TypeId} {v : Value} {n : Nat} {l : List Nat} (h : w.ownsRow base e 1 v n (l.map lcell)) (hs : ∀ x ∈ l, x < 18446744073709551616) :
    ∃ a cap, v = .slice a l.length cap ∧ Longs w a cap l := by
  have hn : n = l.length := by have := h.1; simp at this; omega
  subst hn
  rcases h.2 with ⟨rfl, h0⟩ | ⟨g, cap, cur, rfl, _, hg, hnc, hcm, hcs, htake⟩
  · have : l = [] := List.eq_nil_of_length_eq_zero h0
    subst this
    exact ⟨none, 0, rfl, by simp, by simp, by simp, fun h => absurd rfl h⟩
  · refine ⟨_, cap, rfl, hnc, hcm, hs, fun _ => ⟨g, 0, rfl, fun i x hx => ?_⟩⟩
    have h1 := h.cells (g := g) rfl i (lcell x) (by simp [hx])
    rw [Addr.add_lit] at h1
    exact h1

theorem longs_oneCell (l : List Nat) : ∀ u ∈ l.map lcell, u.oneCell' = true := by intro u hu; obtain ⟨x, _, rfl⟩ := List.mem_map.1 hu; rfl

/-- An argument that is a slice of long words. -/
theorem longs_of_arg {P : Program} {H : Type} {enc : TypeId × Value → H} {W : World} {t e : TypeId} {fuel : Nat} {a : Option Addr} {len cap : Nat} {d : DataW H} {p : List MemPlace} {ts : List TypeId} {ds : List (DataW H)} {j : Nat}
    (ht : P.underlying t = some (.slice e)) (he : P.underlying e = some (.int .u64)) (hc : P.cellsOf e = 1) (hby : P.bytesOf e = 8)
    (hf : DataW.trod enc P W 0 (fun _ => true) true fuel t (Value.slice a len cap).cells.toList = some (d, p))
    (hsz : (DataW.weightsEach P ts ds).all (· ≤ reachBytes) = true) (hj : ts[j]? = some t) (hd : ds[j]? = some d) :
    ∃ l : List Nat, len = l.length ∧ Longs W a cap l ∧ cap ≤ 140737488351232 := by
  rcases open_ints ht he hc hf with ⟨hcs, _⟩ | ⟨x, l, c, zs, hcs, _, hl, hm, hz, hx, hcell, hwz⟩
  · simp [Value.cells] at hcs
    obtain ⟨rfl, rfl, rfl⟩ := hcs
    exact ⟨[], rfl, ⟨by simp, by simp, by simp, fun h => absurd rfl h⟩, by omega⟩
  · simp [Value.cells] at hcs
    obtain ⟨rfl, rfl, rfl⟩ := hcs
    simp only [Prod.mk.injEq] at hx
    obtain ⟨rfl, rfl⟩ := hx
    have hz' : zs.length = cap := by simpa using hz
    have hr : cap ≤ 140737488351232 := by
      have := sized_slice hsz (j := j) (t := t) (e := e) hj hd ht
      rw [hby] at this
      simp only [lits, List.length_map, List.length_take, List.length_drop, reachBytes] at this
      omega
    have hlz : len ≤ zs.length := by omega
    have hbd : ∀ z ∈ zs, 0 ≤ z ∧ z < 18446744073709551616 := fun z hzz => by
      have hw := bounds_u64 (hwz z hzz)
      omega
    refine ⟨(zs.take len).map fun z => z.toNat, by simp; omega, ⟨by simp; omega, hm, ?_, fun hne => ?_⟩, hr⟩
    · intro y hy
      obtain ⟨z, hzz, rfl⟩ := List.mem_map.1 hy
      have := hbd z (List.mem_of_mem_take hzz)
      omega
    have h0 : 0 < len := by
      rcases Nat.eq_zero_or_pos len with h | h
      · subst h; simp at hne
      · exact h
    obtain ⟨b, off, spot⟩ := x
    have hs := World.cell?_spot (hcell 0 (by omega))
    have hspot : spot = none := by simpa [Addr.add] using hs
    subst hspot
    refine ⟨b, off, rfl, fun i y hy => ?_⟩
    have hi : i < len := by
      have := (List.getElem?_eq_some_iff.1 hy).1
      simp at this; omega
    have h1 := hcell i (by omega)
    rw [Addr.add_lit] at h1
    rw [h1]
    have hb := hbd (zs.getD i 0) (by rw [List.getD_eq_getElem?_getD, List.getElem?_eq_getElem (by omega)]; exact List.getElem_mem _)
    have e1 : y = (zs.getD i 0).toNat := by
      simp [hi] at hy
      obtain ⟨q, hq, rfl⟩ := hy
      simp [hq]
    rw [e1]
    congr 2
    omega

end Go.Proofs.YtkpaldkmikjpiaaDoor
