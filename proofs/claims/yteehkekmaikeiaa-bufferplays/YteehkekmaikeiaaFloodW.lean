/-
  The walk of BufferFlood.
-/
import Derived.Test.YteehkekmaikeiaaBufX
import Derived.Test.YteehkekmaikeiaaFloodM
namespace Go.Proofs.Yteehkekmaikeiaa
open Go.ChangeShapes Go.WideShapes Go.ChangeAt Go.RowKit

theorem nat_u8 {x : Int} (h : (Lit.int .u8 x).wf = true) : ∃ a : Nat, x = (a : Int) ∧ a < 256 := by
  have h1 : 0 ≤ x ∧ x < 256 := by simp [Lit.wf, IntKind.min, IntKind.max, IntKind.signed, IntKind.bits] at h; omega
  exact ⟨x.toNat, by omega, by omega⟩
/-- A literal of two bytes. -/
theorem sees_two (w : World) (a i : Nat) (ha : a < 256) (hi : i < 256) : Sees (w.alloc (.cells #[.int .u8 (a : Int), .int .u8 (i : Int)] 5)) (some ⟨w.heap.size, 0, none⟩) 2 [UInt8.ofNat a, UInt8.ofNat i] := by
  have h := sees_lit w [UInt8.ofNat a, UInt8.ofNat i] 5 (0, 0) (by simp)
  have e : ([UInt8.ofNat a, UInt8.ofNat i].map cellOf).toArray = #[.int .u8 (a : Int), .int .u8 (i : Int)] := by
    simp only [List.map_cons, List.map_nil, cellOf, UInt8.toNat_ofNat']
    rw [Nat.mod_eq_of_lt ha, Nat.mod_eq_of_lt hi]
  rw [e] at h
  exact h

set_option maxHeartbeats 3200000 in
set_option maxRecDepth 20000 in
theorem flood_walk (x y z : Int) (w : World) (hx : (Lit.int .u8 x).wf = true) (hy : (Lit.int .u8 y).wf = true) (hz : (Lit.int .u8 z).wf = true) :
    Calls Try.prog 4 #[.int .u8 x, .int .u8 y, .int .u8 z] w fun e w' => e = .returned (.bool true) ∧ Below w.heap.size w w' := by
  obtain ⟨a, rfl, ha⟩ := nat_u8 hx
  obtain ⟨b, rfl, hb⟩ := nat_u8 hy
  obtain ⟨c, rfl, hc⟩ := nat_u8 hz
  obtain ⟨N, hN⟩ : ∃ N : Nat, N = 2 + a % 20 := ⟨_, rfl⟩
  obtain ⟨K, hK⟩ : ∃ K : Nat, K = 1 + b % (N / 2) := ⟨_, rfl⟩
  have hKN : 2 * K ≤ N := by have := Nat.mod_lt b (show 0 < N / 2 by omega); omega
  have hK1 : 1 ≤ K := by omega
  have hN22 : N ≤ 21 := by omega
  have e1 : (2 + (a : Int) % 20) = (N : Int) := by omega
  have e2 : wrap64 (1 + (b : Int) % ((N : Int) / 2)) = (K : Int) := by
    have : (b : Int) % ((N : Int) / 2) = ((b % (N / 2) : Nat) : Int) := by simp
    rw [this]
    unfold wrap64
    omega
  have HE : Hid ((2 + (a : Int) % 20) = (N : Int) ∧ wrap64 (1 + (b : Int) % ((N : Int) / 2)) = (K : Int)) := ⟨e1, e2⟩
  have KN := new_ok w N (by omega) (by omega)
  clear hx hy hz hN hK e1 e2
  go_enter Try.func4, Try.ntmps4
  go_wp2_with fail
  simp only [HE.out.1, HE.out.2]
  clear HE
  generalize (b : Int) % ((N : Int) / 2) = q1 at *
  generalize (N : Int) / 2 = q2 at *
  generalize (a : Int) % 20 = q3 at *
  refine KN.mono ?_
  rintro e w1 ⟨g, rfl, hB⟩
  have HS : Hid (Solo w w1 g ⟨N, 0, floodA 0⟩ 0) := hB.solo
  clear hB KN
  go_wp2
  go_loopw [11] (fun s11 wr => ∃ i : Nat, s11 = .int .i64 (i : Int) ∧ i ≤ K ∧ Solo w wr g ⟨N, 0, floodA i⟩ (65 * i)) (fun s11 _ => K - (intOf s11).toNat)
  case atStart => exact ⟨0, rfl, Nat.zero_le _, HS.out⟩
  case round =>
    obtain ⟨i, rfl, hi, hS⟩ := hrel
    clear HS
    by_cases hlt : i < K
    · obtain ⟨W, hW⟩ : ∃ W, W = wr.alloc (.cells #[.int .u8 1, .int .u8 (i : Int)] 5) := ⟨_, rfl⟩
      have hbW : Below wr.heap.size wr W := by rw [hW]; exact (Below.refl _ _).alloc (Nat.le_refl _) _
      have hs : Sees W (some ⟨wr.heap.size, 0, none⟩) 2 [1, UInt8.ofNat i] := by rw [hW]; exact sees_two wr 1 i (by omega) (by omega)
      obtain ⟨p1, p2⟩ := first_put (n := N) (k := i) (by omega) (by omega)
      have KP : Hid (Calls Try.prog 10 #[.pointer (some ⟨g, 0, none⟩), .int .i64 0, .int .i64 1, .slice (some ⟨wr.heap.size, 0, none⟩) 2 2] W fun e w' => e = .returned (.int .i64 0) ∧ Solo w w' g ⟨N, 0, floodA (i + 1)⟩ (65 * (i + 1))) := by
        refine (put_solo (hS.below hbW) (by omega) (by simp) 0 1 _ _ [1, UInt8.ofNat i] hs).mono ?_
        rintro e w' ⟨rfl, h2⟩
        rw [p1]
        rw [p2] at h2
        exact ⟨rfl, h2⟩
      have HW : Hid (W = wr.alloc (.cells #[.int .u8 1, .int .u8 (i : Int)] 5)) := hW
      have g1 : (i : Int) < (K : Int) := by omega
      have e3 : IntKind.u8.wrap (i : Int) = (i : Int) := by simp [IntKind.wrap, IntKind.bits, IntKind.signed]; omega
      have HJ : Hid (i < K) := hlt
      have e4 : IntKind.i64.wrap ((i : Int) + 1) = ((i + 1 : Nat) : Int) := by rw [IntKind.wrap_i64]; omega
      clear hS hbW hs p1 p2 hW hi hlt
      go_wp2_with fail
      rw [← HW.out]
      refine KP.out.mono ?_
      rintro e w2 ⟨rfl, h2⟩
      have H2 : Hid (Solo w w2 g ⟨N, 0, floodA (i + 1)⟩ (65 * (i + 1))) := h2
      clear KP h2
      go_wp2
      go_roundw
      case rel => exact ⟨i + 1, by first | rfl | (congr 1; omega), by have := HJ.out; omega, H2.out⟩
      case measure => have := HJ.out; simp [intOf]; omega
    · have hiK : i = K := by omega
      subst hiK
      have HF : Hid (Solo w wr g ⟨N, 0, floodA i⟩ (65 * i)) := hS
      clear hS hi hlt
      go_wp2
      rename World => W1
      have HS2 : Hid (∃ s : Bs, Solo w W1 g s (65 * (i + 0)) ∧ Flood s N i 0) := ⟨_, HF.out, rfl, Nat.le_refl _, [], by simp, fun x hx => by cases hx⟩
      clear HF
      go_loopw [12] (fun s12 wr => ∃ (j : Nat) (s : Bs), s12 = .int .i64 (j : Int) ∧ j ≤ c ∧ Solo w wr g s (65 * (i + j)) ∧ Flood s N i j) (fun s12 _ => c - (intOf s12).toNat)
      case atStart =>
        obtain ⟨s, h1, h2⟩ := HS2.out
        exact ⟨0, s, rfl, Nat.zero_le _, h1, h2⟩
      case round =>
        obtain ⟨j, s, rfl, hj, hS, hF⟩ := hrel
        clear HS2
        by_cases hlt : j < c
        · obtain ⟨W, hW⟩ : ∃ W, W = wr.alloc (.cells #[.int .u8 2, .int .u8 (j : Int)] 5) := ⟨_, rfl⟩
          have hbW : Below wr.heap.size wr W := by rw [hW]; exact (Below.refl _ _).alloc (Nat.le_refl _) _
          have hs : Sees W (some ⟨wr.heap.size, 0, none⟩) 2 [2, UInt8.ofNat j] := by rw [hW]; exact sees_two wr 2 j (by omega) (by omega)
          have KP : Hid (Calls Try.prog 10 #[.pointer (some ⟨g, 0, none⟩), .int .i64 0, .int .i64 2, .slice (some ⟨wr.heap.size, 0, none⟩) 2 2] W fun e w' => ∃ (r : Int) (s' : Bs), e = .returned (.int .i64 r) ∧ Solo w w' g s' (65 * (i + (j + 1))) ∧ Flood s' N i (j + 1)) := by
            refine (put_solo (hS.below hbW) (by omega) (by have := hF.lost; omega) 0 2 _ _ [2, UInt8.ofNat j] hs).mono ?_
            rintro e w' ⟨rfl, h2⟩
            exact ⟨_, _, rfl, h2.mono (by omega), hF.put hS.ok hKN _⟩
          have HW : Hid (W = wr.alloc (.cells #[.int .u8 2, .int .u8 (j : Int)] 5)) := hW
          have g1 : (j : Int) < (c : Int) := by omega
          have e3 : IntKind.u8.wrap (j : Int) = (j : Int) := by simp [IntKind.wrap, IntKind.bits, IntKind.signed]; omega
          have HJ : Hid (j < c) := hlt
          have e4 : IntKind.i64.wrap ((j : Int) + 1) = ((j + 1 : Nat) : Int) := by rw [IntKind.wrap_i64]; omega
          clear hS hbW hs hW hj hlt hF
          go_wp2_with fail
          rw [← HW.out]
          refine KP.out.mono ?_
          rintro e w2 ⟨r, s', rfl, h2, h3⟩
          have H2 : Hid (Solo w w2 g s' (65 * (i + (j + 1))) ∧ Flood s' N i (j + 1)) := ⟨h2, h3⟩
          clear KP h2 h3
          go_wp2
          go_roundw
          case rel => exact ⟨j + 1, s', by first | rfl | (congr 1; omega), by have := HJ.out; omega, H2.out.1, H2.out.2⟩
          case measure => have := HJ.out; simp [intOf]; omega
        · have KT : Hid (Calls Try.prog 13 #[.pointer (some ⟨g, 0, none⟩), .int .i64 0, .int .i64 1] wr fun e w' => ∃ va vc os, e = .returned (.slice va i vc) ∧ (∃ s', Solo w w' g s' 30000 ∧ s'.most = N) ∧ Row E22 w' (.slice va i vc) os ∧ SeenB w' os ∧ os.map Prod.fst = (List.range i).map fun j => [1, UInt8.ofNat j]) := by
            refine (take_solo hS (by omega) (0, 1) ⟨by decide, by decide⟩).mono ?_
            rintro e w' ⟨vo, rfl, h2, os, h3, h4, h5, _⟩
            rw [hF.take] at h5
            have hl : os.length = i := by have := congrArg List.length h5; simpa using this
            obtain ⟨va, vc, rfl, _⟩ := h3.shape
            rw [hl] at h3 ⊢
            exact ⟨va, vc, os, rfl, ⟨_, h2.mono (by omega), hF.most⟩, h3, h4, h5⟩
          have g1 : ¬ (j : Int) < (c : Int) := by omega
          clear hS hF hj hlt
          go_wp2_with fail
          refine KT.out.mono ?_
          rintro e w3 ⟨va, vc, os, rfl, h1, h2, h3, h4⟩
          have HT : Hid ((∃ s', Solo w w3 g s' 30000 ∧ s'.most = N) ∧ Row E22 w3 (.slice va i vc) os ∧ SeenB w3 os ∧ os.map Prod.fst = (List.range i).map fun j => [1, UInt8.ofNat j]) := ⟨h1, h2, h3, h4⟩
          clear KT h1 h2 h3 h4
          go_wp2
          rename World => W3
          go_loopw [14] (fun s14 wr => ∃ t : Nat, s14 = .int .i64 (t : Int) ∧ t ≤ i ∧ Below W3.heap.size W3 wr) (fun s14 _ => i - (intOf s14).toNat)
          case atStart => exact ⟨0, rfl, Nat.zero_le _, Below.refl _ _⟩
          case round =>
            obtain ⟨t, rfl, ht, hbel⟩ := hrel
            by_cases hlt : t < i
            · obtain ⟨_, h2, h3, h4⟩ := HT.out
              have hl : os.length = i := by have := congrArg List.length h4; simpa using this
              obtain ⟨o, ho⟩ : ∃ o, os[t]? = some o := ⟨os[t]'(by omega), by rw [List.getElem?_eq_getElem]⟩
              have hob : o.1 = [1, UInt8.ofNat t] := by
                have h5 : (os.map Prod.fst)[t]? = some o.1 := by rw [List.getElem?_map, ho]; rfl
                rw [h4] at h5
                simp [hlt] at h5
                exact h5.symm
              obtain ⟨-, q, rfl, hcell⟩ := (h2.below hbel).get ho
              have x0 := hcell 0 _ rfl
              rw [show E22.n = 1 from rfl, Nat.mul_one, Nat.add_zero, hob] at x0
              have hso := (h3 o (List.mem_of_getElem? ho)).below hbel
              rw [hob] at hso
              obtain ⟨oa, hoa⟩ : ∃ oa, oa = o.2.1 := ⟨_, rfl⟩
              obtain ⟨oc, hoc⟩ : ∃ oc, oc = o.2.2 := ⟨_, rfl⟩
              rw [← hoa, ← hoc] at x0 hso
              have x0' : wr.cell? ⟨q, t, none⟩ = some (.slice oa 2 oc) := x0
              have hbA : Below wr.heap.size wr (wr.alloc (.cells #[.int .u8 1, .int .u8 (t : Int)] 5)) := (Below.refl _ _).alloc (Nat.le_refl _) _
              have xA : (wr.alloc (.cells #[.int .u8 1, .int .u8 (t : Int)] 5)).cell? ⟨q, t, none⟩ = some (.slice oa 2 oc) := Lib.cell?_alloc_some _ x0'
              have v1 := (hso.drewN 1).convert (P := Try.prog) 22 5 9 Try.underlying22 Try.underlying5 Try.underlying9
              have v2 := ((hso.below hbA).drewN 1).convert (P := Try.prog) 22 5 9 Try.underlying22 Try.underlying5 Try.underlying9
              have v3 := ((sees_two wr 1 t (by omega) (by omega)).drewN 1).convert (P := Try.prog) 22 5 9 Try.underlying22 Try.underlying5 Try.underlying9
              have u1 : (Go.convert 22 9 (.slice oa 2 oc)).run Try.prog wr.drew = .ok (.string ⟨#[1, UInt8.ofNat t]⟩) wr.drew := v1
              have u2 : (Go.convert 22 9 (.slice oa 2 oc)).run Try.prog (wr.alloc (.cells #[.int .u8 1, .int .u8 (t : Int)] 5)).drew = .ok (.string ⟨#[1, UInt8.ofNat t]⟩) (wr.alloc (.cells #[.int .u8 1, .int .u8 (t : Int)] 5)).drew := v2
              have u3 : (Go.convert 22 9 (.slice (some ⟨wr.heap.size, 0, none⟩) 2 2)).run Try.prog (wr.alloc (.cells #[.int .u8 1, .int .u8 (t : Int)] 5)).drew = .ok (.string ⟨#[1, UInt8.ofNat t]⟩) (wr.alloc (.cells #[.int .u8 1, .int .u8 (t : Int)] 5)).drew := v3
              have HB : Hid (Below W3.heap.size W3 (wr.alloc (.cells #[.int .u8 1, .int .u8 (t : Int)] 5)).drew) := (hbel.trans (hbA.mono hbel.size)).drew
              have g1 : (t : Int) < (i : Int) := by omega
              have g2 : (0 : Int) ≤ (t : Int) := Int.natCast_nonneg _
              have e3 : IntKind.u8.wrap (t : Int) = (t : Int) := by simp [IntKind.wrap, IntKind.bits, IntKind.signed]; omega
              have e4 : IntKind.i64.wrap ((t : Int) + 1) = ((t + 1 : Nat) : Int) := by rw [IntKind.wrap_i64]; omega
              have HJ : Hid (t < i) := hlt
              obtain ⟨S, hS⟩ : ∃ S : ByteArray, S = ⟨#[1, UInt8.ofNat t]⟩ := ⟨_, rfl⟩
              rw [← hS] at u1 u2 u3
              clear h2 h3 h4 hl ho hob hcell x0 hso hoa hoc hbA v1 v2 v3 hbel ht hlt hS
              go_wp2_with fail
              go_region
              all_goals
                go_wp2
                go_roundw
                case rel => exact ⟨t + 1, by first | rfl | (congr 1; omega), by have := HJ.out; omega, HB.out⟩
                case measure => have := HJ.out; simp [intOf]; omega
            · have g1 : ¬ (t : Int) < (i : Int) := by omega
              obtain ⟨⟨s', h1, h2⟩, _, _, _⟩ := HT.out
              have h3 := h1.below hbel
              have hle : s'.L.length ≤ N := by rw [← h2]; exact h1.ok.len
              have KL : Hid (Calls Try.prog 17 #[.pointer (some ⟨g, 0, none⟩)] wr fun e w' => e = .returned (.int .i64 (s'.L.length : Int)) ∧ w' = wr) := len_solo h3
              have KA : Hid (Calls Try.prog 9 #[] wr fun e w' => e = .returned (.bool true) ∧ Below w.heap.size w w') := by
                refine (awake_ok wr).mono ?_
                rintro e w' ⟨rfl, hb⟩
                exact ⟨rfl, h3.bel.trans (hb.mono h3.bel.size)⟩
              obtain ⟨sl, hsl⟩ : ∃ sl, sl = s'.L.length := ⟨_, rfl⟩
              rw [← hsl] at KL hle
              have g2 : (sl : Int) ≤ (N : Int) := by omega
              clear h1 h2 h3 hle hsl hbel ht hlt HT
              go_wp2_with fail
              refine KL.out.mono ?_
              rintro e wr ⟨rfl, rfl⟩
              go_wp2_with fail
              refine KA.out.mono ?_
              rintro e w' ⟨rfl, hb⟩
              go_wp2
              go_ret
              exact ⟨rfl, hb⟩
end Go.Proofs.Yteehkekmaikeiaa
