/-
  The contract of word.Unhex.
-/
import Derived.Test.YtmldfljgngkneaaDoorHexb
namespace Go.Proofs.YtmldfljgngkneaaDoor
open Go.ChangeShapes Go.WideShapes Go.ChangeAt Go.RowKit

/-- What Unhex answers for the bytes cs of a text: the place and the number of the error, and the bytes. -/
structure UnhexSaid (w' : World) (cs : List UInt8) (a : Option Addr) (n ca : Nat) (m f : Nat) : Prop where
  place : m = badAt cs
  bad : m < cs.length → f = 4 ∧ n = 0 ∧ a = none ∧ ca = 0
  odd : m = cs.length → cs.length % 2 = 1 → f = 4 ∧ n = 0 ∧ a = none ∧ ca = 0
  good : m = cs.length → cs.length % 2 = 0 → f = 0 ∧ n = (part (cs.map valD)).length ∧ Sees w' a ca (part (cs.map valD))

theorem badAt_at (cs : List UInt8) (k : Nat) (c : UInt8) (hc : cs[k]? = some c) (hn : isD c = false) (hd : ∀ x ∈ cs.take k, isD x = true) : badAt cs = k := by
  have hk : k < cs.length := (List.getElem?_eq_some_iff.1 hc).1
  unfold badAt
  rw [List.findIdx_eq hk]
  refine ⟨?_, fun j hj => ?_⟩
  · have : cs[k] = c := (List.getElem?_eq_some_iff.1 hc).2
    rw [this, hn]; rfl
  · have := hd cs[j] (by rw [List.mem_take_iff_getElem]; exact ⟨j, by omega, rfl⟩)
    simp [this]

theorem badAt_none (cs : List UInt8) (hd : ∀ x ∈ cs, isD x = true) : badAt cs = cs.length := by
  unfold badAt
  rw [List.findIdx_eq_length]
  intro x hx
  simp [hd x hx]

set_option maxHeartbeats 1600000 in
theorem unhex_any (w : World) (s : ByteArray) (cs : List UInt8) (hcs : s.data.toList = cs) (hT : Tab w) (hr : s.size ≤ 4194304) :
    Calls Tryd.prog 4 #[.string s] w fun e w' => ∃ a n ca m f, e = .returned (.tuple #[.slice a n ca, .int .i64 (m : Nat), .int .i64 (f : Nat)]) ∧ UnhexSaid w' cs a n ca m f ∧ Below w.heap.size w w' := by
  obtain ⟨i5, hi, hz0, hz1, hz2⟩ := info_parts Tryd.info5
  have hpos := hT.pos
  have HT : Hid (Tab w) := hT
  have Hlen : Hid (cs.length = s.size) := by rw [← hcs]; exact rfl
  have HC : Hid (s.data.toList = cs) := hcs
  obtain ⟨N, hN⟩ : ∃ N, N = (s.size + 1) / 2 := ⟨_, rfl⟩
  have HN : Hid (N = (cs.length + 1) / 2) := by rw [Hlen.out]; exact hN
  have hN1 : 2 * N ≤ s.size + 1 := by omega
  have hN2 : s.size ≤ 2 * N := by omega
  have eN : ((s.size : Int) + 1) / 2 = (N : Int) := by omega
  clear hT hcs hN
  go_enter Tryd.func4, Tryd.ntmps4
  go_wp2_with (at_make; refine wpList_make_full _ rfl _ _ 22 rfl w.heap.size 5 i5 (.int .u8 0) 1 Tryd.underlying22 hi hz0 hz1 .i64 .i64 _ _ N rfl rfl ?bl ?bc ?b2 ?b3 ?b4 ?_)
  case bl => first | rfl | omega
  case bc => first | rfl | omega
  case b2 => rw [hz2]; omega
  case b3 => unfold maxLen; omega
  case b4 => exact Nat.le_refl _
  intro w1 hown hgrow
  rw [made_bytes] at hown
  have hbel : Below w.heap.size w w1 := (Below.refl _ _).grown hgrow (Nat.le_refl _) (by intro k h; cases h)
  clear hgrow
  go_wp2
  go_loopw [16] (fun i wr => ∃ k : Nat, k ≤ s.size ∧ i = .int .i64 k ∧ Hid (∀ x ∈ cs.take k, isD x = true) ∧ wr.ownsRow w.heap.size 5 1 (.slice (some ⟨w.heap.size, 0, none⟩) N N) N ((sofar cs N k).map cellOf) ∧ Below w.heap.size w wr)
    (fun i _ => s.size - (intOf i).toNat)
  case atStart => exact ⟨0, Nat.zero_le _, rfl, by simp [Hid], by rw [sofar_zero]; exact hown, hbel⟩
  case round =>
    obtain ⟨k, hk, rfl, Hd, ho, hbl⟩ := hrel
    clear hown hbel
    by_cases hlt : k < s.size
    · obtain ⟨c, hc⟩ : ∃ c, s[k] = c := ⟨_, rfl⟩
      have hck : cs[k]? = some c := by
        rw [← HC.out, ← hc, Array.getElem?_toList]
        exact ByteArray.getElem?_lt' s k hlt
      have hTr := HT.out.below hbl hpos
      cases hdc : isD c with
      | false =>
        have HB : Hid (badAt cs = k) := badAt_at cs k c hck hdc Hd.out
        have HD : Hid (isD c = false) := hdc
        clear hck hdc
        go_wp2_with fail
        refine (value_no _ c hTr HD.out).mono ?_
        rintro e w' ⟨rfl, rfl⟩
        go_wp2
        go_ret3
        refine ⟨none, 0, 0, k, 4, rfl, ⟨HB.out.symm, fun _ => ⟨rfl, rfl, rfl, rfl⟩, fun h => ?_, fun h => ?_⟩, hbl⟩
        · have := Hlen.out; omega
        · have := Hlen.out; omega
      | true =>
        obtain ⟨o, ho1, ho2, ho3⟩ := sofar_step cs N k c HN.out hck Hd.out
        have HD : Hid (isD c = true) := hdc
        have hvl := valD_lt c hdc
        have HDn : Hid (∀ x ∈ cs.take (k + 1), isD x = true) := by
          rw [take_snoc cs k c hck]
          intro x hx
          rcases List.mem_append.1 hx with h | h
          · exact Hd.out x h
          · rw [List.mem_singleton.1 h]; exact HD.out
        obtain ⟨v, hv⟩ : ∃ v, v = valD c := ⟨_, rfl⟩
        rw [← hv] at hvl ho3
        obtain ⟨z, hz⟩ : ∃ z, z = o * 16 + v := ⟨_, rfl⟩
        have ez : bits .or .u8 ((o.toNat : Int) * 16) (v.toNat : Int) = (z.toNat : Int) := by rw [hz]; exact nib_or o v ho2 hvl
        rw [← hz] at ho3
        have hkN : k / 2 < N := by omega
        have hc3 : wr.cell? ⟨w.heap.size, k / 2, none⟩ = some (.int .u8 o.toNat) := by
          rw [ho.cellAt (k / 2) (by omega), List.getElem?_map, ho1]; rfl
        have hf3 : wr.frozen? ⟨w.heap.size, k / 2, none⟩ = false := ho.frozenAt (k / 2)
        obtain ⟨ho', hg'⟩ := ho.stored (k / 2) (.int .u8 (z.toNat : Int))
        have ho4 : (wr.setCell ⟨w.heap.size, k / 2, none⟩ (.int .u8 (z.toNat : Int))).ownsRow w.heap.size 5 1 (.slice (some ⟨w.heap.size, 0, none⟩) N N) N ((sofar cs N (k + 1)).map cellOf) := by
          rw [ho3, List.map_set]; exact ho'
        have hbl' := hbl.setCell (p := ⟨w.heap.size, k / 2, none⟩) (Nat.le_refl _) (.int .u8 (z.toNat : Int))
        have HV : Hid (v = valD c) := hv
        clear hck hdc ho ho' hg' ho1 ho3 hz hv Hd
        go_wp2_with fail
        refine (value_yes _ c hTr HD.out).mono ?_
        rintro e w' ⟨rfl, rfl⟩
        rw [← HV.out]
        go_wp2
        go_roundw
        case rel => exact ⟨k + 1, by omega, by go_num, HDn, ho4, hbl'⟩
        case measure => simp [intOf]; omega
    · obtain rfl : k = s.size := by omega
      have Hda : Hid (∀ x ∈ cs, isD x = true) := by
        have := Hd.out; rw [← Hlen.out, List.take_length] at this; exact this
      have HB : Hid (badAt cs = cs.length) := badAt_none cs Hda.out
      rcases Nat.mod_two_eq_zero_or_one s.size with hev | hod
      · have hs := ho
        rw [← Hlen.out, sofar_all cs N HN.out] at hs
        obtain ⟨c, cc, hv, hse⟩ := Sees.of_own hs
        simp only [Value.slice.injEq] at hv
        rw [← hv.1, ← hv.2.2] at hse
        have HP : Hid (N = (part (cs.map valD)).length) := hv.2.1
        clear hv hs ho
        have e2 : ((s.size : Int) % 2 != 0) = false := by simp; omega
        go_wp2
        go_ret3
        refine ⟨_, N, N, s.size, 0, rfl, ⟨by rw [HB.out, Hlen.out], fun h => ?_, fun _ h => ?_, fun _ _ => ⟨rfl, HP.out, hse⟩⟩, hbl⟩
        · have := Hlen.out; omega
        · have := Hlen.out; omega
      · have e2 : ((s.size : Int) % 2 != 0) = true := by simp; omega
        go_wp2
        go_ret3
        refine ⟨none, 0, 0, s.size, 4, rfl, ⟨by rw [HB.out, Hlen.out], fun h => ?_, fun _ _ => ⟨rfl, rfl, rfl, rfl⟩, fun _ h => ?_⟩, hbl⟩
        · have := Hlen.out; omega
        · have := Hlen.out; omega
end Go.Proofs.YtmldfljgngkneaaDoor
