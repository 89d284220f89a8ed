/-
  The walk of PebbleRoom.
-/
import Derived.Test.YtleedppcandbkaaDoorPebG
namespace Go.Proofs.YtleedppcandbkaaDoor
open Go.ChangeShapes Go.WideShapes Go.ChangeAt Go.RowKit

set_option maxHeartbeats 3200000 in
set_option maxRecDepth 20000 in
theorem room_walk (a : Option Addr) (ca : Nat) (seed : List UInt8) (x y : Int) (w : World) (hTab : FTab w ∧ KTab w) (ha : Sees w a ca seed) (_ : ca ≤ 140737488351232) (wx : (Lit.int .u8 x).wf = true) (wy : (Lit.int .u8 y).wf = true) :
    Calls Tryd.prog 4 #[.slice a seed.length ca, .int .u8 x, .int .u8 y] w fun e w' => e = .returned (.bool true) ∧ Below w.heap.size w w' := by
  have hkm : seed.length ≤ 9223372036854775807 := by have := ha.fits; have := ha.room; unfold maxLen at this; omega
  have bx := bounds_u8 wx
  have bY := bounds_u8 wy
  obtain ⟨X, rfl⟩ : ∃ X : Nat, x = (X : Int) := ⟨x.toNat, by omega⟩
  obtain ⟨Y, rfl⟩ : ∃ Y : Nat, y = (Y : Int) := ⟨y.toNat, by omega⟩
  obtain ⟨K, hK⟩ : ∃ K, K = 1 + X := ⟨_, rfl⟩
  have hK1 : (1 : Int) + (X : Int) = (K : Int) := by omega
  have hX : X < 256 := by omega
  have hY : Y < 256 := by omega
  have hKm : K ≤ 256 := by omega
  have HK1 : Hid (1 ≤ K) := by show 1 ≤ K; omega
  have HF : Hid (FTab w) := hTab.1
  have HT : Hid (KTab w) := hTab.2
  have HAW : Hid (∀ V, Below w.heap.size w V → Calls Tryd.prog 7 #[] V fun e w' => e = .returned (.bool true) ∧ Below w.heap.size w w') := fun V hV => by
    refine (awake_ok V (HF.out.below hV) (HT.out.below hV)).mono ?_
    rintro e w' ⟨rfl, hb⟩
    exact ⟨rfl, hV.trans (hb.mono hV.size)⟩
  obtain ⟨B, hB⟩ : ∃ B, B = bitsN K := ⟨_, rfl⟩
  have hBm : B ≤ 256 := by rw [hB]; exact Nat.le_trans (bitsN_le K) hKm
  obtain ⟨B2, hB2⟩ : ∃ B2, B2 = B + 2 := ⟨_, rfl⟩
  have hB2m : B2 ≤ 258 := by omega
  have KB : Hid (∀ V, Calls Tryd.prog 16 #[.int .i64 (K : Int)] V fun e w' => e = .returned (.int .i64 (B : Int)) ∧ w' = V) := fun V => by rw [hB]; exact bits_ok V K hKm
  have KM : Hid (∀ V, Calls Tryd.prog 14 #[.int .i64 (K : Int)] V fun e w' => e = .returned (.int .i64 (B2 : Int)) ∧ w' = V) := fun V => by rw [hB2, hB]; exact room_ok V K hKm
  have HFEW : Hid ((layL 256 0 [K]).length ≤ B2 ∧ few B K 0 0 (layL 256 0 [K]) = true) := by
    have := few_at K HK1.out hKm
    rw [← hB] at this
    exact ⟨by have := this.1; omega, this.2⟩
  have HB2 : Hid (B2 = B + 2) := hB2
  by_cases h16 : seed.length = 16
  · have k1 := new_ok w a ca seed K hTab.1 hTab.2 ha h16 HK1.out hKm
    rw [h16]
    clear hTab ha wx wy bx bY hK hkm hB hB2
    go_enter Tryd.func4, Tryd.ntmps4
    go_wp2_with fail
    refine k1.mono ?_
    rintro e w1 ⟨g, b, cap, cd, cc, T, rfl, hB⟩
    have HR1 : Hid (Run w w1 g b cap cd cc (lastL seed) K 0 0 T ∧ T.map Prod.fst = layL 256 0 [K]) := ⟨hB.run, hB.lay⟩
    clear k1 hB
    go_wp2_with fail
    go_loopw [10] (fun iv wr => ∃ (t b cap st : Nat) (T : List Stone), iv = .int .i64 (t : Int) ∧ Run w wr g b cap cd cc (lastL seed) K t st T ∧ t ≤ K ∧ st ≤ t * 256 ∧ T.length ≤ B2 ∧ few B (K - t) t st (T.map Prod.fst) = true) (fun iv _ => (300 - intOf iv).toNat)
    case atStart =>
      refine ⟨0, b, cap, 0, T, rfl, HR1.out.1, by omega, by omega, ?_, ?_⟩
      · have h := HFEW.out.1; rw [← HR1.out.2, List.length_map] at h; exact h
      · rw [HR1.out.2]; exact HFEW.out.2
    case round =>
      clear HR1
      obtain ⟨t, b, cap, st, T, rfl, hrun, htK, hst, hlen, hfew⟩ := hrel
      have HRUN : Hid (Run w wr g b cap cd cc (lastL seed) K t st T) := hrun
      by_cases hgo : t < Y ∧ t < K
      · have g1 : (t : Int) < (Y : Int) := by omega
        have g2 : (t : Int) < (K : Int) := by omega
        have hfew' := hfew
        rw [show K - t = (K - (t + 1)) + 1 by omega] at hfew'
        obtain ⟨f1, f2, f3⟩ := few_next B (K - (t + 1)) t st (T.map Prod.fst) hfew'
        have k3 := hrun.next hgo.2 HF.out HT.out (by omega)
        obtain ⟨S, hS⟩ : ∃ S, S = stepN t st (T.map Prod.fst) := ⟨_, rfl⟩
        have hSm : S ≤ (t + 1) * 256 := by rw [hS]; exact stepN_le hrun.peb.good hrun.peb.most hst
        obtain ⟨Z, hZ⟩ : ∃ Z, Z = (t + 1) * B := ⟨_, rfl⟩
        have hZm : Z ≤ 70000 := by rw [hZ]; exact Nat.le_trans (Nat.mul_le_mul (show t + 1 ≤ 257 by omega) hBm) (by decide)
        have hZi : ((t : Int) + 1) * (B : Int) = (Z : Int) := by rw [hZ]; push_cast; rfl
        rw [← hS] at f1 f3 k3
        have hSZ : S ≤ Z := by omega
        have HE : Hid (t + 1 ≤ K ∧ S ≤ (t + 1) * 256 ∧ (nextL t (T.map Prod.fst)).length ≤ B2 ∧ few B (K - (t + 1)) (t + 1) S (nextL t (T.map Prod.fst)) = true) := ⟨by omega, hSm, by have := HB2.out; omega, f3⟩
        have hSm' : S ≤ 70000 := by omega
        have ht256 : t ≤ 256 := by omega
        clear hrun htK hst hlen hfew hfew' hgo f1 f2 f3 hS hZ hSm
        go_wp2_with fail
        refine k3.mono ?_
        rintro e w3 ⟨b3, cap3, T3, d3, c3, rfl, hr3, hm3, _, _, _⟩
        have H3 : Hid (Run w w3 g b3 cap3 cd cc (lastL seed) K (t + 1) S T3 ∧ T3.map Prod.fst = nextL t (T.map Prod.fst)) := ⟨hr3, hm3⟩
        have k4 := hr3.kept
        have k5 := hr3.steps
        obtain ⟨L, hL⟩ : ∃ L, L = T3.length := ⟨_, rfl⟩
        have hLB : L ≤ B2 := by have h := HE.out.2.2.1; rw [← hm3, List.length_map, ← hL] at h; exact h
        rw [← hL] at k4
        have d1 : ¬ (B2 < L) := by omega
        have d2 : ¬ (Z < S) := by omega
        have HLL : Hid (T3.length ≤ B2) := by show T3.length ≤ B2; omega
        clear k3 hr3 hm3 hL
        go_wp2_with fail
        refine k4.mono ?_
        rintro e w4 ⟨rfl, rfl⟩
        go_wp2_with fail
        refine (KM.out _).mono ?_
        rintro e w5 ⟨rfl, rfl⟩
        go_wp2_with fail
        refine k5.mono ?_
        rintro e w6 ⟨rfl, rfl⟩
        go_wp2_with fail
        refine (KB.out _).mono ?_
        rintro e w7 ⟨rfl, rfl⟩
        go_wp2_with fail
        refine k5.mono ?_
        rintro e w8 ⟨rfl, rfl⟩
        go_wp2_with fail
        refine k4.mono ?_
        rintro e w9 ⟨rfl, rfl⟩
        clear k4 k5
        go_wp2
        go_roundw
        case rel => exact ⟨t + 1, b3, cap3, S, T3, by go_num, H3.out.1, HE.out.1, HE.out.2.1, HLL.out, by rw [H3.out.2]; exact HE.out.2.2.2⟩
        case measure => simp [intOf]; omega
      · have HB : Hid (Below w.heap.size w wr) := hrun.bel
        have k4 := hrun.kept
        obtain ⟨L, hL⟩ : ∃ L, L = T.length := ⟨_, rfl⟩
        rw [← hL] at k4 hlen
        have d1 : (L : Int) ≤ (B2 : Int) := by omega
        by_cases hY : t < Y
        · have g1 : (t : Int) < (Y : Int) := by omega
          have g2 : ¬ t < K := by omega
          clear hrun htK hst hfew hgo hL hY
          go_wp2_with fail
          refine k4.mono ?_
          rintro e w4 ⟨rfl, rfl⟩
          go_wp2_with fail
          refine (KM.out _).mono ?_
          rintro e w5 ⟨rfl, rfl⟩
          go_wp2_with fail
          refine (HAW.out _ HB.out).mono ?_
          rintro e w3 ⟨rfl, hb3⟩
          go_wp2
          go_ret
          exact ⟨rfl, hb3⟩
        · have g1 : ¬ t < Y := hY
          clear hrun htK hst hfew hgo hL hY
          go_wp2_with fail
          refine k4.mono ?_
          rintro e w4 ⟨rfl, rfl⟩
          go_wp2_with fail
          refine (KM.out _).mono ?_
          rintro e w5 ⟨rfl, rfl⟩
          go_wp2_with fail
          refine (HAW.out _ HB.out).mono ?_
          rintro e w3 ⟨rfl, hb3⟩
          go_wp2
          go_ret
          exact ⟨rfl, hb3⟩
  · have k1 := new_no w a ca seed (K : Int) hTab.1 hTab.2 ha (fun h => h16 h.1)
    have d16 : ((seed.length : Int) == 16) = false := by simp; omega
    have d16' : ((seed.length : Int) != 16) = true := by simp; omega
    clear hTab ha wx wy bx bY hK h16 hB hB2
    go_enter Tryd.func4, Tryd.ntmps4
    go_wp2_with fail
    refine k1.mono ?_
    rintro e w1 ⟨rfl, hb1⟩
    clear k1
    go_wp2_with fail
    refine (HAW.out _ hb1).mono ?_
    rintro e w3 ⟨rfl, hb3⟩
    go_wp2
    go_ret
    exact ⟨rfl, hb3⟩
end Go.Proofs.YtleedppcandbkaaDoor
