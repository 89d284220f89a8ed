/-
  An argument that is a list of lists of bytes. No contract here.
  An argument that is a list of lists of bytes: what it reads as, and how long each can be.
  The contract of same; a buffer beside a list of bytes.
-/
import Derived.Test.YtmffplhaclnehaaGreatDoorRows
import Derived.Test.YtmffplhaclnehaaGreatDoorGround
import Derived.Deep.DrawnRows
import Derived.Test.YtmffplhaclnehaaGreatDoorBufR
namespace Go.Proofs.YtmffplhaclnehaaGreatDoor
open Go.ChangeShapes Go.WideShapes Go.ChangeAt Go.RowKit
set_option maxRecDepth 20000
theorem rowss_of_arg {H : Type} {enc : TypeId × Value → H} {W : World} {fuel : Nat} {a : Option Addr} {len cap : Nat} {d : DataW H} {p : List MemPlace}
    (hf : DataW.trod enc Tryz.prog W 0 (fun _ => true) true fuel 26 (Value.slice a len cap).cells.toList = some (d, p)) :
    ∃ L : List (List UInt8), len = L.length ∧ Rowss W a cap L ∧ True := by
  rcases Deep.open_int_rows Tryz.underlying26 Tryz.underlying24 Tryz.underlying5 (by kernel_rfl) (by kernel_rfl) hf with ⟨hcs, _⟩ | ⟨ad, l, c, A, Ln, C, Z, hcs, _, hl, hm, _, hrow⟩
  · simp [Value.cells] at hcs
    obtain ⟨rfl, rfl, rfl⟩ := hcs
    exact ⟨[], rfl, ⟨by simp, by simp, fun r bs h => by simp at h⟩, trivial⟩
  · simp [Value.cells] at hcs
    obtain ⟨rfl, rfl, rfl⟩ := hcs
    refine ⟨(List.range len).map fun r => ((Z r).take (Ln r)).map fun z => UInt8.ofNat z.toNat, by simp, ⟨by simpa using hl, hm, fun r bs hr => ?_⟩, trivial⟩
    have hrl : r < len := by have := (List.getElem?_eq_some_iff.1 hr).1; simpa using this
    have hbs : bs = ((Z r).take (Ln r)).map fun z => UInt8.ofNat z.toNat := by
      simp [hrl] at hr; rw [← hr, List.map_take]
    obtain ⟨hc, h1, h2, h3, h4, h5, h6⟩ := hrow r (by omega)
    obtain ⟨b, off, spot⟩ := ad
    have hspot : spot = none := by
      have := World.cell?_spot (hrow 0 (by omega)).1
      simpa [Addr.add] using this
    subst hspot
    rw [Addr.add_lit] at hc
    have hbl : bs.length = Ln r := by rw [hbs]; simp; omega
    refine ⟨b, off, rfl, A r, C r, by rw [hbl]; exact hc, ⟨by omega, h2, h5, fun hne => ?_⟩⟩
    have h0 : 0 < Ln r := by rw [← hbl]; exact List.length_pos_iff.2 hne
    cases hA : A r with
    | none => have := h5 hA; omega
    | some a' =>
      obtain ⟨_, hcc⟩ := h6 a' hA
      obtain ⟨b2, o2, sp2⟩ := a'
      have hsp2 : sp2 = none := by
        have := World.cell?_spot (hcc 0 (by omega))
        simpa [Addr.add] using this
      subst hsp2
      refine ⟨b2, o2, rfl, fun i y hy => ?_⟩
      have hi : i < Ln r := by rw [← hbl]; exact (List.getElem?_eq_some_iff.1 hy).1
      have hci := hcc i (by omega)
      rw [Addr.add_lit] at hci
      rw [hci]
      have hb := bounds_u8 (h4 ((Z r).getD i 0) (by rw [List.getD_eq_getElem?_getD, List.getElem?_eq_getElem (by omega)]; exact List.getElem_mem _))
      have e1 : y = UInt8.ofNat ((Z r).getD i 0).toNat := by
        rw [hbs] at hy
        simp [hi] at hy
        obtain ⟨q, hq, rfl⟩ := hy
        simp [hq]
      rw [e1]
      congr 2
      rw [UInt8.toNat_ofNat']
      omega
theorem weights_mem_all {H : Type} {P : Program} {e : TypeId} : ∀ {l : List (DataW H)} {d : DataW H}, d ∈ l → ∀ n ∈ d.weights P e, n ∈ DataW.weightsAll P e l
  | x :: l, d, h, n, hn => by
    simp only [DataW.weightsAll, List.mem_append]
    rcases List.mem_cons.1 h with rfl | h
    · exact .inl hn
    · exact .inr (weights_mem_all h n hn)
  | [], _, h, _, _ => by simp at h
theorem rowss_sized {H : Type} {enc : TypeId × Value → H} {W : World} {fuel : Nat} {a : Option Addr} {len cap : Nat} {d : DataW H} {p : List MemPlace}
    (hf : DataW.trod enc Tryz.prog W 0 (fun _ => true) true fuel 26 (Value.slice a len cap).cells.toList = some (d, p)) {ts : List TypeId} {ds : List (DataW H)} {j : Nat}
    (hsz : (DataW.weightsEach Tryz.prog ts ds).all (· ≤ reachBytes) = true) (hj : ts[j]? = some 26) (hd : ds[j]? = some d) :
    ∃ L : List (List UInt8), len = L.length ∧ Rowss W a cap L ∧ ∀ l ∈ L, l.length ≤ 140737488351232 := by
  rcases Deep.open_int_rows Tryz.underlying26 Tryz.underlying24 Tryz.underlying5 (by kernel_rfl) (by kernel_rfl) hf with ⟨hcs, _⟩ | ⟨ad, l, c, A, Ln, C, Z, hcs, _, hl, hm, hdx, hrow⟩
  · simp [Value.cells] at hcs
    obtain ⟨rfl, rfl, rfl⟩ := hcs
    exact ⟨[], rfl, ⟨by simp, by simp, fun r bs h => by simp at h⟩, by simp⟩
  · simp [Value.cells] at hcs
    obtain ⟨rfl, rfl, rfl⟩ := hcs
    refine ⟨(List.range len).map fun r => ((Z r).take (Ln r)).map fun z => UInt8.ofNat z.toNat, by simp, ⟨by simpa using hl, hm, fun r bs hr => ?_⟩, fun l hlm => ?_⟩
    rotate_left
    · obtain ⟨r, hr, rfl⟩ := List.mem_map.1 hlm
      rw [List.mem_range] at hr
      obtain ⟨_, h1, _, h3, _, h5, _⟩ := hrow r (by omega)
      simp only [Prod.mk.injEq] at hdx
      have hle : (((Z r).take (Ln r)).map fun z => UInt8.ofNat z.toNat).length ≤ (Z r).length := by simp; omega
      refine Nat.le_trans hle ?_
      cases hA : A r with
      | none => have := h5 hA; omega
      | some a' =>
        have hmem : (Deep.intRow .u8 (A r) (Ln r) (Z r) : DataW H) ∈ ((List.range len).map fun r => Deep.intRow .u8 (A r) (Ln r) (Z r)) := List.mem_map.2 ⟨r, List.mem_range.2 hr, rfl⟩
        have hwt : (Z r).length ∈ (Deep.intRow .u8 (A r) (Ln r) (Z r) : DataW H).weights Tryz.prog 24 := by
          simp only [Deep.intRow, hA, DataW.weights, Tryz.underlying24]
          refine List.mem_cons.2 (.inl ?_)
          rw [show Tryz.prog.bytesOf 5 = 1 by kernel_rfl]
          simp [lits]; omega
        have h9 : (Z r).length ∈ d.weights Tryz.prog 26 := by
          rw [hdx.1]
          simp only [DataW.weights, Tryz.underlying26]
          exact List.mem_cons.2 (.inr (List.mem_append.2 (.inl (weights_mem_all hmem _ hwt))))
        have := List.all_eq_true.1 hsz _ (DataW.weights_mem_each hj hd _ h9)
        exact of_decide_eq_true this
    have hrl : r < len := by have := (List.getElem?_eq_some_iff.1 hr).1; simpa using this
    have hbs : bs = ((Z r).take (Ln r)).map fun z => UInt8.ofNat z.toNat := by
      simp [hrl] at hr; rw [← hr, List.map_take]
    obtain ⟨hc, h1, h2, h3, h4, h5, h6⟩ := hrow r (by omega)
    obtain ⟨b, off, spot⟩ := ad
    have hspot : spot = none := by
      have := World.cell?_spot (hrow 0 (by omega)).1
      simpa [Addr.add] using this
    subst hspot
    rw [Addr.add_lit] at hc
    have hbl : bs.length = Ln r := by rw [hbs]; simp; omega
    refine ⟨b, off, rfl, A r, C r, by rw [hbl]; exact hc, ⟨by omega, h2, h5, fun hne => ?_⟩⟩
    have h0 : 0 < Ln r := by rw [← hbl]; exact List.length_pos_iff.2 hne
    cases hA : A r with
    | none => have := h5 hA; omega
    | some a' =>
      obtain ⟨_, hcc⟩ := h6 a' hA
      obtain ⟨b2, o2, sp2⟩ := a'
      have hsp2 : sp2 = none := by
        have := World.cell?_spot (hcc 0 (by omega))
        simpa [Addr.add] using this
      subst hsp2
      refine ⟨b2, o2, rfl, fun i y hy => ?_⟩
      have hi : i < Ln r := by rw [← hbl]; exact (List.getElem?_eq_some_iff.1 hy).1
      have hci := hcc i (by omega)
      rw [Addr.add_lit] at hci
      rw [hci]
      have hb := bounds_u8 (h4 ((Z r).getD i 0) (by rw [List.getD_eq_getElem?_getD, List.getElem?_eq_getElem (by omega)]; exact List.getElem_mem _))
      have e1 : y = UInt8.ofNat ((Z r).getD i 0).toNat := by
        rw [hbs] at hy
        simp [hi] at hy
        obtain ⟨q, hq, rfl⟩ := hy
        simp [hq]
      rw [e1]
      congr 2
      rw [UInt8.toNat_ofNat']
      omega
end Go.Proofs.YtmffplhaclnehaaGreatDoor
