/-
  An argument that is a list of lists of bytes. No contract here.
-/
import Derived.Test.YteehkekmaikeiaaRows
import Derived.Test.YteehkekmaikeiaaNums
import Derived.Deep.DrawnRows
namespace Go.Proofs.Yteehkekmaikeiaa
open Go.ChangeShapes Go.WideShapes Go.ChangeAt Go.RowKit

theorem rowss_of_arg {H : Type} {enc : TypeId × Value → H} {W : World} {fuel : Nat} {a : Option Addr} {len cap : Nat} {d : DataW H} {p : List MemPlace}
    (hf : DataW.trod enc Try.prog W 0 (fun _ => true) true fuel 24 (Value.slice a len cap).cells.toList = some (d, p)) :
    ∃ L : List (List UInt8), len = L.length ∧ Rowss W a cap L ∧ True := by
  rcases Deep.open_int_rows Try.underlying24 Try.underlying22 Try.underlying5 (by kernel_rfl) (by kernel_rfl) hf with ⟨hcs, _⟩ | ⟨ad, l, c, A, Ln, C, Z, hcs, _, hl, hm, _, hrow⟩
  · simp [Value.cells] at hcs
    obtain ⟨rfl, rfl, rfl⟩ := hcs
    exact ⟨[], rfl, ⟨by simp, by simp, fun r bs h => by simp at h⟩, trivial⟩
  · simp [Value.cells] at hcs
    obtain ⟨rfl, rfl, rfl⟩ := hcs
    refine ⟨(List.range len).map fun r => ((Z r).take (Ln r)).map fun z => UInt8.ofNat z.toNat, by simp, ⟨by simpa using hl, hm, fun r bs hr => ?_⟩, trivial⟩
    have hrl : r < len := by have := (List.getElem?_eq_some_iff.1 hr).1; simpa using this
    have hbs : bs = ((Z r).take (Ln r)).map fun z => UInt8.ofNat z.toNat := by
      simp [hrl] at hr; rw [← hr, List.map_take]
    obtain ⟨hc, h1, h2, h3, h4, h5, h6⟩ := hrow r (by omega)
    obtain ⟨b, off, spot⟩ := ad
    have hspot : spot = none := by
      have := World.cell?_spot (hrow 0 (by omega)).1
      simpa [Addr.add] using this
    subst hspot
    rw [Addr.add_lit] at hc
    have hbl : bs.length = Ln r := by rw [hbs]; simp; omega
    refine ⟨b, off, rfl, A r, C r, by rw [hbl]; exact hc, ⟨by omega, h2, h5, fun hne => ?_⟩⟩
    have h0 : 0 < Ln r := by rw [← hbl]; exact List.length_pos_iff.2 hne
    cases hA : A r with
    | none => have := h5 hA; omega
    | some a' =>
      obtain ⟨_, hcc⟩ := h6 a' hA
      obtain ⟨b2, o2, sp2⟩ := a'
      have hsp2 : sp2 = none := by
        have := World.cell?_spot (hcc 0 (by omega))
        simpa [Addr.add] using this
      subst hsp2
      refine ⟨b2, o2, rfl, fun i y hy => ?_⟩
      have hi : i < Ln r := by rw [← hbl]; exact (List.getElem?_eq_some_iff.1 hy).1
      have hci := hcc i (by omega)
      rw [Addr.add_lit] at hci
      rw [hci]
      have hb := bounds_u8 (h4 ((Z r).getD i 0) (by rw [List.getD_eq_getElem?_getD, List.getElem?_eq_getElem (by omega)]; exact List.getElem_mem _))
      have e1 : y = UInt8.ofNat ((Z r).getD i 0).toNat := by
        rw [hbs] at hy
        simp [hi] at hy
        obtain ⟨q, hq, rfl⟩ := hy
        simp [hq]
      rw [e1]
      congr 2
      rw [UInt8.toNat_ofNat']
      omega
end Go.Proofs.Yteehkekmaikeiaa
