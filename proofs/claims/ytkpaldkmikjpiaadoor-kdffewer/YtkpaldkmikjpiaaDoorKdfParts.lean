/-
  The contract of the iterator over the parts of an info.
-/
import Derived.Test.YtkpaldkmikjpiaaDoorRangeLaw
import Derived.Test.YtkpaldkmikjpiaaDoorKdfMath
import Derived.Test.YtkpaldkmikjpiaaDoorLongs
import Derived.Lib.ConvBytes
import Derived.Shelf.Abstract
import Derived.Shelf.RegionOpen
import Derived.OwnWalkIn
import Derived.TacticsInMore
import Derived.LoopNIn
import Derived.LoopIn
namespace Go.Proofs.YtkpaldkmikjpiaaDoor
open Go.ChangeShapes Go.WideShapes Go.ChangeAt Go.RowKit Go.Shelf
attribute [local go_sem] Oper.semAt_some

/-- '[]byte(s)': new bytes. -/
theorem str_bytes (w : World) (name : List UInt8) (hn : name.length ≤ 1000) :
    ∃ c w1, (Go.convert 9 22 (.string ⟨name.toArray⟩)).run Tryd.prog w = .ok (.slice (some ⟨w.heap.size, 0, none⟩) name.length c) w1 ∧ Sees w1 (some ⟨w.heap.size, 0, none⟩) c name ∧ Below w.heap.size w w1 := by
  have hcv := Lib.run_convert_string_bytes (P := Tryd.prog) w 9 22 5 (⟨name.toArray⟩ : ByteArray) Tryd.underlying9 Tryd.underlying22 Tryd.underlying5
  have hsz : (⟨name.toArray⟩ : ByteArray).size = name.length := by simp [ByteArray.size]
  rw [hsz] at hcv
  refine ⟨_, _, hcv, ⟨grownCap_ge w name.length 0 5, grownCap_le_maxLen w name.length 0 5 (by unfold maxLen; omega), by simp, fun _ => ⟨_, 0, rfl, fun i x hx => ?_⟩⟩, ⟨rfl, rfl, rfl, by rw [Lib.bytesWorld_size]; omega, fun k hk => Lib.bytesWorld_at_old w 5 _ k hk⟩⟩
  have hi' := (List.getElem?_eq_some_iff.1 hx).1
  rw [Nat.zero_add, Lib.bytesWorld_cell w 5 _ i (by rw [hsz]; exact hi')]
  simp [hx]

theorem take_snocN (l : List Nat) (k x : Nat) (h : l[k]? = some x) : l.take (k + 1) = l.take k ++ [x] := by
  rw [List.take_add_one, h]; rfl

abbrev Part := Option Addr × Nat × List UInt8

set_option maxRecDepth 100000 in
set_option maxHeartbeats 4000000 in
theorem parts_in (m l bS bL : Nat) (name : List UInt8) (hn : name.length ≤ 1000) (c : Option Addr) (cc : Nat) (L : List Nat) (hL16 : L.length ≤ 16)
    (I : List UInt8 → World → Prop) (kI : ∀ acc W W', I acc W → Below W.heap.size W W' → I acc W')
    (bI : ∀ acc W, I acc W → W.cell? ⟨bS, 0, none⟩ = some (.string ⟨name.toArray⟩) ∧ W.cell? ⟨bL, 0, none⟩ = some (.slice c L.length cc) ∧ Longs W c cc L)
    (Bk Bx : World → Prop) (kB : ∀ W W', Bk W → Below W.heap.size W W' → Bk W')
    (hY : ∀ (acc : List UInt8) (x : Part) W, Bk W → (I acc W ∧ Sees W x.1 x.2.1 x.2.2 ∧ x.2.2.length ≤ 1000 ∧ acc.length ≤ 2000) → YieldAt Fence.wide (m - 1) Tryd.prog l #[.slice x.1 x.2.2.length x.2.1] W fun e W' => (e = .returned (.bool true) ∧ Bk W' ∧ I (acc ++ x.2.2) W') ∨ (e = .returned (.bool false) ∧ Bx W'))
    (W : World) (hW : Bk W) (hI : I [] W) :
    CallsIn Fence.wide m Tryd.prog 42 #[.func (.yield l) #[] #[], .pointer (some ⟨bS, 0, none⟩), .pointer (some ⟨bL, 0, none⟩)] W fun e W' => (∃ v, e = .returned v) ∧ ((∃ s, s = infoL name L ∧ Bk W' ∧ I s W') ∨ Bx W') := by
  obtain ⟨c1, w1, hcv, hs1, hb1⟩ := str_bytes W name hn
  obtain ⟨hcS, hcL, hLo⟩ := bI [] W hI
  obtain ⟨fn, tmps, assign, body, hy, hR⟩ := hY [] (_, c1, name) w1 (kB _ _ hW hb1) ⟨kI _ _ _ hI hb1, hs1, hn, by simp⟩
  have HR : Hid (RoundIn Fence.wide (m - 1) Tryd.prog l fn tmps assign body w1 fun e W' => (e = .returned (.bool true) ∧ Bk W' ∧ I ([] ++ name) W') ∨ (e = .returned (.bool false) ∧ Bx W')) := hR
  have HY : Hid (∀ (acc : List UInt8) (x : Part) W, Bk W → (I acc W ∧ Sees W x.1 x.2.1 x.2.2 ∧ x.2.2.length ≤ 1000 ∧ acc.length ≤ 2000) → YieldAt Fence.wide (m - 1) Tryd.prog l #[.slice x.1 x.2.2.length x.2.1] W fun e W' => (e = .returned (.bool true) ∧ Bk W' ∧ I (acc ++ x.2.2) W') ∨ (e = .returned (.bool false) ∧ Bx W')) := hY
  have HI : Hid (∀ acc W, I acc W → W.cell? ⟨bS, 0, none⟩ = some (.string ⟨name.toArray⟩) ∧ W.cell? ⟨bL, 0, none⟩ = some (.slice c L.length cc) ∧ Longs W c cc L) := bI
  clear hR hY bI hs1 hLo
  dsimp only at hy
  refine callsIn_of_wp Tryd.func42 rfl trivial ?_ rfl
  simp only [Tryd.ntmps42, List.size_toArray, List.length_cons, List.length_nil, Nat.reduceAdd, Nat.reduceSub, Array.replicate_succ, Array.replicate_zero, List.push_toArray, List.append_toArray, List.nil_append, List.cons_append]
  gi_wp2
  refine ⟨(fun h => by cases h), HR.out.mono ?_⟩
  clear hy HR hcv hcS hcL hW hI hb1
  rintro e W2 (⟨rfl, hB2, hI2⟩ | ⟨rfl, hX2⟩)
  · rw [List.nil_append] at hI2
    have hb3 : Below W2.heap.size W2 (W2.alloc (.cells #[.int .u8 0] 5)) := (Below.refl _ _).alloc (Nat.le_refl _) _
    obtain ⟨fn2, tmps2, assign2, body2, hy2, hR2⟩ := HY.out name (some ⟨W2.heap.size, 0, none⟩, 1, [0]) (W2.alloc (.cells #[.int .u8 0] 5)) (kB _ _ hB2 hb3)
      ⟨kI _ _ _ hI2 hb3, ⟨Nat.le_refl _, by unfold maxLen; simp, by simp, fun _ => ⟨_, 0, rfl, fun i x hx => by
        match i, hx with
        | 0, hx => simp at hx; subst hx; exact cell_of_row _ _ 0 _ _ _ (heap_alloc_new W2 _)
        | k + 1, hx => simp at hx⟩⟩, by simp, by omega⟩
    have HR2 : Hid (RoundIn Fence.wide (m - 1) Tryd.prog l fn2 tmps2 assign2 body2 (W2.alloc (.cells #[.int .u8 0] 5)) fun e W' => (e = .returned (.bool true) ∧ Bk W' ∧ I (name ++ [0]) W') ∨ (e = .returned (.bool false) ∧ Bx W')) := hR2
    dsimp only at hy2
    simp only [List.length_cons, List.length_nil, Nat.zero_add] at hy2
    clear hR2 hB2 hI2 hb3
    gi_wp2
    refine ⟨(fun h => by cases h), HR2.out.mono ?_⟩
    clear hy2 HR2
    rintro e W3 (⟨rfl, hB3, hI3⟩ | ⟨rfl, hX3⟩)
    · obtain ⟨_, hcL, hLo⟩ := HI.out _ W3 hI3
      have hLm : L.length ≤ 9223372036854775807 := by omega
      clear hLo
      gi_wp2
      gi_loopw [19] (fun i wr => ∃ k : Nat, k ≤ L.length ∧ i = .int .i64 k ∧ Bk wr ∧ I (infoL name (L.take k)) wr) (fun i _ => L.length - (intOf i).toNat)
      case atStart => exact ⟨0, Nat.zero_le _, rfl, hB3, by simpa [infoL, longsL] using hI3⟩
      case round =>
        obtain ⟨k, hk, rfl, hBk, hIk⟩ := hrel
        obtain ⟨_, _, hLo⟩ := HI.out _ wr hIk
        clear hB3 hI3 hcL
        by_cases hlt : k < L.length
        · obtain ⟨x, hx⟩ : ∃ x, L[k]? = some x := ⟨L[k], by simp [hlt]⟩
          obtain ⟨b, off, rfl, hc⟩ := hLo.get hx
          have hxs := hLo.small x (List.mem_of_getElem? hx)
          have hpl := putlong_any wr none 0 [] x (Sees.nil' _) (by simp) hxs
          have hnext : Hid (infoL name (L.take (k + 1)) = infoL name (L.take k) ++ w4s [x / 4294967296, x % 4294967296]) := by
            unfold infoL; rw [take_snocN L k x hx, longsL_snoc, List.append_assoc, List.append_assoc, List.append_assoc]; exact rfl
          clear hx hLo
          gi_wp2
          refine ⟨trivial, (fun h => by cases h), (callsIn_wide.2 hpl).mono ?_⟩
          rintro e w5 ⟨d5, c5, r5, hr5, rfl, hs5, hb5⟩
          have hr5l : r5.length ≤ 1000 := by rw [hr5.out]; simp [w4s, w4]
          obtain ⟨fn5, tmps5, assign5, body5, hy5, hR5⟩ := HY.out _ (d5, c5, r5) w5 (kB _ _ hBk hb5) ⟨kI _ _ _ hIk hb5, hs5, hr5l, by simp [infoL, longsL_length]; omega⟩
          have HR5 : Hid (RoundIn Fence.wide (m - 1) Tryd.prog l fn5 tmps5 assign5 body5 w5 fun e W' => (e = .returned (.bool true) ∧ Bk W' ∧ I (infoL name (L.take k) ++ r5) W') ∨ (e = .returned (.bool false) ∧ Bx W')) := hR5
          dsimp only at hy5
          clear hpl hR5 hBk hIk hs5 hb5 hr5l
          gi_wp2
          refine ⟨(fun h => by cases h), HR5.out.mono ?_⟩
          clear hy5 HR5
          rintro e W6 (⟨rfl, hB6, hI6⟩ | ⟨rfl, hX6⟩)
          · rw [hr5.out, List.nil_append, ← hnext.out] at hI6
            gi_wp2
            go_roundw
            case rel => exact ⟨k + 1, by omega, by go_num, hB6, hI6⟩
            case measure => simp [intOf]; omega
          · gi_wp2
            refine bodyPost_ret (results_none rfl _ _ _) rfl ?_
            exact ⟨⟨_, rfl⟩, .inr hX6⟩
        · obtain rfl : k = L.length := by omega
          gi_wp2
          go_end0
          exact ⟨⟨_, rfl⟩, .inl ⟨_, by rw [List.take_length], hBk, hIk⟩⟩
    · gi_wp2
      refine bodyPost_ret (results_none rfl _ _ _) rfl ?_
      exact ⟨⟨_, rfl⟩, .inr hX3⟩
  · gi_wp2
    refine ⟨(fun _ h => by cases h), ?_⟩
    gi_wp2
    refine bodyPost_ret (results_none rfl _ _ _) rfl ?_
    exact ⟨⟨_, rfl⟩, .inr hX2⟩
end Go.Proofs.YtkpaldkmikjpiaaDoor
