/-
  An argument that is a frame.
-/
import Derived.Test.YtaihjnaggmmiiaaGreatDoorFrameA
import Derived.Deep.Fields
namespace Go.Proofs.YtaihjnaggmmiiaaGreatDoor
open Go.ChangeShapes Go.WideShapes Go.ChangeAt Go.RowKit

/-- A list of bytes within an argument. -/
theorem sees_within {P : Program} {H : Type} {enc : TypeId × Value → H} {W : World} {t e : TypeId} {fuel : Nat} {a : Option Addr} {len cap : Nat} {y : DataW H × List MemPlace}
    (ht : P.underlying t = some (.slice e)) (he : P.underlying e = some (.int .u8)) (hc : P.cellsOf e = 1)
    (hf : DataW.trod enc P W 0 (fun _ => true) true fuel t [Value.slice a len cap] = some y) :
    ∃ bs : List UInt8, len = bs.length ∧ Sees W a cap bs := by
  obtain ⟨d, p⟩ := y
  have hf' : DataW.trod enc P W 0 (fun _ => true) true fuel t (Value.slice a len cap).cells.toList = some (d, p) := by simpa [Value.cells] using hf
  rcases open_ints ht he hc hf' with ⟨hcs, _⟩ | ⟨x, l, c, zs, hcs, _, hl, hm, hz, hx, hcell, hwz⟩
  · simp [Value.cells] at hcs
    obtain ⟨rfl, rfl, rfl⟩ := hcs
    exact ⟨[], rfl, Sees.nil' W⟩
  · simp [Value.cells] at hcs
    obtain ⟨rfl, rfl, rfl⟩ := hcs
    have hz' : zs.length = cap := by simpa using hz
    have hlz : len ≤ zs.length := by omega
    refine ⟨(zs.take len).map fun z => UInt8.ofNat z.toNat, by simp; omega, ⟨by simp; omega, hm, by simp, fun hne => ?_⟩⟩
    have h0 : 0 < len := by
      rcases Nat.eq_zero_or_pos len with h | h
      · subst h; simp at hne
      · exact h
    obtain ⟨b, off, spot⟩ := x
    have hs := World.cell?_spot (hcell 0 (by omega))
    have hspot : spot = none := by simpa [Addr.add] using hs
    subst hspot
    refine ⟨b, off, rfl, fun i y hy => ?_⟩
    have hi : i < len := by
      have := (List.getElem?_eq_some_iff.1 hy).1
      simp at this; omega
    have h1 := hcell i (by omega)
    rw [Addr.add_lit] at h1
    rw [h1]
    have hw := hwz (zs.getD i 0) (by rw [List.getD_eq_getElem?_getD, List.getElem?_eq_getElem (by omega)]; exact List.getElem_mem _)
    have hb := bounds_u8 hw
    have e1 : y = UInt8.ofNat (zs.getD i 0).toNat := by
      simp [hi] at hy
      obtain ⟨q, hq, rfl⟩ := hy
      simp [hq]
    rw [e1]
    congr 2
    rw [UInt8.toNat_ofNat']
    omega

theorem array13 {α : Type} {cs : Array α} (h : cs.size = 13) : ∃ c0 c1 c2 c3 c4 c5 c6 c7 c8 c9 c10 c11 c12, cs = #[c0, c1, c2, c3, c4, c5, c6, c7, c8, c9, c10, c11, c12] := by
  obtain ⟨l⟩ := cs
  match l, h with
  | [c0, c1, c2, c3, c4, c5, c6, c7, c8, c9, c10, c11, c12], _ => exact ⟨c0, c1, c2, c3, c4, c5, c6, c7, c8, c9, c10, c11, c12, rfl⟩
set_option maxRecDepth 100000 in
theorem cells25 : Tryz.prog.cellsOf 25 = 13 := by kernel_rfl
/-- One field of it. -/
theorem field_within {P : Program} {H : Type} {enc : TypeId × Value → H} {W : World} {fs : Array Field} {cs : List Value} {n : Nat} {xs : List (DataW H × List MemPlace)} (hone : Go.Deep.oneCellFields P fs = true) (hl : xs.length = fs.size)
    (hf : ∀ (i : Nat) (f : Field), fs[i]? = some f → DataW.trod enc P W 0 (fun _ => true) true n f.type ((cs.drop f.offset).take (P.cellsOf f.type)) = xs[i]?) (i : Nat) (f : Field) (hi : fs[i]? = some f) (c : Value) (hc : cs[i]? = some c) :
    ∃ y, DataW.trod enc P W 0 (fun _ => true) true n f.type [c] = some y := by
  obtain ⟨h1, h2⟩ := Go.Deep.hone_of hone i f hi
  have h3 := hf i f hi
  have hlt : i < fs.size := (Array.getElem?_eq_some_iff.1 hi).1
  rw [h1, h2] at h3
  have h4 : (cs.drop i).take 1 = [c] := by
    rw [List.take_one, List.head?_drop, hc]; rfl
  rw [h4] at h3
  exact ⟨xs[i]'(by omega), by rw [h3]; simp⟩
set_option maxRecDepth 100000 in
theorem frame_of_arg {H : Type} {enc : TypeId × Value → H} {W : World} {r : Reach} {base : Nat} {v : Value} {d : DataW H} {p : List MemPlace} (hv : Value.okWide Tryz.prog W r base 25 v) (h : DataW.Trod enc Tryz.prog W 0 (fun _ => true) true 25 v d p) :
    ∃ F A, v = .agg (frC F A) ∧ Seen W F A ∧ F.n < 18446744073709551616 := by
  obtain ⟨cs, rfl, hsz⟩ := okWide_struct Tryz.underlying25 hv
  obtain ⟨c0, c1, c2, c3, c4, c5, c6, c7, c8, c9, c10, c11, c12, rfl⟩ := array13 (hsz.trans cells25)
  obtain ⟨fuel, hf⟩ := h
  obtain ⟨xs, n, _, _, _, hlen, hfs⟩ := DataW.trod_struct Tryz.underlying25 hf
  have hcs : (Value.agg #[c0, c1, c2, c3, c4, c5, c6, c7, c8, c9, c10, c11, c12]).cells.toList = [c0, c1, c2, c3, c4, c5, c6, c7, c8, c9, c10, c11, c12] := by simp [Value.cells]
  rw [hcs] at hfs
  obtain ⟨y0, h0⟩ := field_within (by kernel_rfl) hlen hfs 0 _ rfl c0 rfl
  obtain ⟨y1, h1⟩ := field_within (by kernel_rfl) hlen hfs 1 _ rfl c1 rfl
  obtain ⟨y2, h2⟩ := field_within (by kernel_rfl) hlen hfs 2 _ rfl c2 rfl
  obtain ⟨y3, h3⟩ := field_within (by kernel_rfl) hlen hfs 3 _ rfl c3 rfl
  obtain ⟨y4, h4⟩ := field_within (by kernel_rfl) hlen hfs 4 _ rfl c4 rfl
  obtain ⟨y5, h5⟩ := field_within (by kernel_rfl) hlen hfs 5 _ rfl c5 rfl
  obtain ⟨y6, h6⟩ := field_within (by kernel_rfl) hlen hfs 6 _ rfl c6 rfl
  obtain ⟨y7, h7⟩ := field_within (by kernel_rfl) hlen hfs 7 _ rfl c7 rfl
  obtain ⟨y8, h8⟩ := field_within (by kernel_rfl) hlen hfs 8 _ rfl c8 rfl
  obtain ⟨y9, h9⟩ := field_within (by kernel_rfl) hlen hfs 9 _ rfl c9 rfl
  obtain ⟨y10, h10⟩ := field_within (by kernel_rfl) hlen hfs 10 _ rfl c10 rfl
  obtain ⟨y11, h11⟩ := field_within (by kernel_rfl) hlen hfs 11 _ rfl c11 rfl
  obtain ⟨y12, h12⟩ := field_within (by kernel_rfl) hlen hfs 12 _ rfl c12 rfl
  obtain ⟨x0, e0, _, _⟩ := DataW.trod_int Tryz.underlying3 h0
  obtain ⟨x1, e1, _, _⟩ := DataW.trod_int Tryz.underlying3 h1
  obtain ⟨x2, e2, _, _⟩ := DataW.trod_int Tryz.underlying3 h2
  obtain ⟨x3, e3, _, _⟩ := DataW.trod_int Tryz.underlying3 h3
  obtain ⟨x4, e4, _, _⟩ := DataW.trod_int Tryz.underlying3 h4
  obtain ⟨x5, e5, _, _⟩ := DataW.trod_int Tryz.underlying3 h5
  obtain ⟨x6, e6, _, w6⟩ := DataW.trod_int Tryz.underlying22 h6
  obtain ⟨x7, e7, _, _⟩ := DataW.trod_int Tryz.underlying2 h7
  obtain ⟨x8, e8, _, _⟩ := DataW.trod_int Tryz.underlying3 h8
  obtain ⟨x9, e9, _, _⟩ := DataW.trod_int Tryz.underlying3 h9
  obtain ⟨a10, l10, k10, e10⟩ := Go.Joins.slice_form Tryz.underlying23 h10
  obtain ⟨a11, l11, k11, e11⟩ := Go.Joins.slice_form Tryz.underlying23 h11
  obtain ⟨a12, l12, k12, e12⟩ := Go.Joins.slice_form Tryz.underlying23 h12
  simp only [List.cons.injEq, and_true] at e0 e1 e2 e3 e4 e5 e6 e7 e8 e9 e10 e11 e12
  subst e0 e1 e2 e3 e4 e5 e6 e7 e8 e9 e10 e11 e12
  obtain ⟨b10, rfl, s10⟩ := sees_within Tryz.underlying23 Tryz.underlying5 (by kernel_rfl) h10
  obtain ⟨b11, rfl, s11⟩ := sees_within Tryz.underlying23 Tryz.underlying5 (by kernel_rfl) h11
  obtain ⟨b12, rfl, s12⟩ := sees_within Tryz.underlying23 Tryz.underlying5 (by kernel_rfl) h12
  have hb := bounds_u64 w6
  obtain ⟨m, rfl⟩ : ∃ m : Nat, x6 = m := ⟨x6.toNat, by omega⟩
  exact ⟨⟨x0, x1, x2, x3, x4, x5, m, x7, x8, x9, b10, b11, b12⟩, ⟨a10, k10, a11, k11, a12, k12⟩, rfl, ⟨s10, s11, s12⟩, by show m < _; omega⟩
end Go.Proofs.YtaihjnaggmmiiaaGreatDoor
