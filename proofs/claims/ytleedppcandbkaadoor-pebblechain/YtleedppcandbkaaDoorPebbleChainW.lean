/-
  The walk of PebbleChain.
-/
import Derived.Test.YtleedppcandbkaaDoorPebG
namespace Go.Proofs.YtleedppcandbkaaDoor
open Go.ChangeShapes Go.WideShapes Go.ChangeAt Go.RowKit

/-- A key that is told follows an elder one of its chain. -/
theorem fol_zero {key : List UInt8} (hk : key.length = 16) {K i j : Nat} (hij : i ≤ j) (hj : j ≤ K) (hK : K ≤ 256) : folP (i : Int) (backL (K - i) key) (j : Int) (backL (K - j) key) = 0 := by
  unfold folP
  rw [if_pos ⟨by omega, by omega, by omega, by omega, backL_len _ _ hk, backL_len _ _ hk⟩, if_neg (by omega), if_pos]
  rw [← backL_add, show ((j : Int) - (i : Int)).toNat + (K - j) = K - i by omega]

set_option maxHeartbeats 3200000 in
set_option maxRecDepth 20000 in
theorem chain_walk (a : Option Addr) (ca : Nat) (seed : List UInt8) (x y : Int) (w : World) (hTab : FTab w ∧ KTab w) (ha : Sees w a ca seed) (_ : ca ≤ 140737488351232) (wx : (Lit.int .u8 x).wf = true) (wy : (Lit.int .u8 y).wf = true) :
    Calls Tryd.prog 5 #[.slice a seed.length ca, .int .u8 x, .int .u8 y] w fun e w' => e = .returned (.bool true) ∧ Below w.heap.size w w' := by
  have hkm : seed.length ≤ 9223372036854775807 := by have := ha.fits; have := ha.room; unfold maxLen at this; omega
  have bx := bounds_u8 wx
  have bY := bounds_u8 wy
  obtain ⟨X, rfl⟩ : ∃ X : Nat, x = (X : Int) := ⟨x.toNat, by omega⟩
  obtain ⟨Y, rfl⟩ : ∃ Y : Nat, y = (Y : Int) := ⟨y.toNat, by omega⟩
  obtain ⟨R, hR⟩ : ∃ R, R = X % 50 := ⟨_, rfl⟩
  obtain ⟨M, hM⟩ : ∃ M, M = Y % 50 := ⟨_, rfl⟩
  have hR1 : ((X : Int)).tmod 50 = (R : Int) := by rw [hR]; exact (Int.ofNat_tmod X 50).symm
  have hM1 : ((Y : Int)).tmod 50 = (M : Int) := by rw [hM]; exact (Int.ofNat_tmod Y 50).symm
  have hR2 : (X : Int) % 50 = (R : Int) := by omega
  have hM2 : (Y : Int) % 50 = (M : Int) := by omega
  obtain ⟨K, hK⟩ : ∃ K, K = 1 + R := ⟨_, rfl⟩
  have hK1 : (1 : Int) + (R : Int) = (K : Int) := by omega
  have hR50 : R < 50 := by omega
  have hM50 : M < 50 := by omega
  have hK50 : K ≤ 50 := by omega
  have HK1 : Hid (1 ≤ K) := by show 1 ≤ K; omega
  have HF : Hid (FTab w) := hTab.1
  have HT : Hid (KTab w) := hTab.2
  have HAW : Hid (∀ V, Below w.heap.size w V → Calls Tryd.prog 7 #[] V fun e w' => e = .returned (.bool true) ∧ Below w.heap.size w w') := fun V hV => by
    refine (awake_ok V (HF.out.below hV) (HT.out.below hV)).mono ?_
    rintro e w' ⟨rfl, hb⟩
    exact ⟨rfl, hV.trans (hb.mono hV.size)⟩
  by_cases h16 : seed.length = 16
  · have k1 := new_ok w a ca seed K hTab.1 hTab.2 ha h16 HK1.out (by omega)
    rw [h16]
    clear hTab ha wx wy bx bY hR hM hK hkm
    go_enter Tryd.func5, Tryd.ntmps5
    go_wp2_with fail
    refine k1.mono ?_
    rintro e w1 ⟨g, b, cap, cd, cc, T, rfl, hB⟩
    have hrun := hB.run
    have k2 := hrun.commit
    have HR1 : Hid (Run w w1 g b cap cd cc (lastL seed) K 0 0 T) := hrun
    clear k1 hB hrun
    go_wp2_with fail
    refine k2.mono ?_
    rintro e w2 ⟨d2, c2, rfl, hs2, hb2⟩
    have HR2 : Hid (Run w w2 g b cap cd cc (lastL seed) K 0 0 T ∧ Sees w2 d2 c2 (backL K (lastL seed))) := ⟨HR1.out.below hb2, hs2⟩
    clear k2 hs2 hb2 HR1
    go_wp2_with fail
    go_loopw [10, 11] (fun la iv wr => ∃ (t b cap st : Nat) (T : List Stone) (d : Option Addr) (c : Nat), iv = .int .i64 ((t + 1 : Nat) : Int) ∧ la = .slice d 16 c ∧ Run w wr g b cap cd cc (lastL seed) K t st T ∧ t ≤ K ∧ t ≤ M ∧ Sees wr d c (backL (K - t) (lastL seed)) ∧ st ≤ t * 256) (fun _ iv _ => (60 - intOf iv).toNat)
    case atStart => exact ⟨0, b, cap, 0, T, d2, c2, rfl, rfl, HR2.out.1, by omega, by omega, HR2.out.2, by omega⟩
    case round =>
      clear HR2
      obtain ⟨t, b, cap, st, T, d, c, rfl, rfl, hrun, htK, htM, hs, hst⟩ := hrel
      obtain ⟨I, hI⟩ : ∃ I, I = t + 1 := ⟨_, rfl⟩
      rw [← hI]
      have HI : Hid (I = t + 1) := hI
      have HRUN : Hid (Run w wr g b cap cd cc (lastL seed) K t st T) := hrun
      have HS : Hid (Sees wr d c (backL (K - t) (lastL seed))) := hs
      have hI60 : I ≤ 60 := by omega
      have hI1 : (I : Int) - 1 = (t : Int) := by omega
      by_cases hgo : I ≤ M ∧ I ≤ K
      · have g1 : (I : Int) ≤ (M : Int) := by omega
        have g2 : (I : Int) ≤ (K : Int) := by omega
        have HG : Hid (I ≤ M ∧ I ≤ K ∧ st ≤ t * 256 ∧ t ≤ K) := ⟨hgo.1, hgo.2, hst, htK⟩
        have k3 := hrun.next (by omega) HF.out HT.out (by omega)
        clear hrun htK htM hs hst hgo hI
        go_wp2_with fail
        refine k3.mono ?_
        rintro e w3 ⟨b3, cap3, T3, d3, c3, rfl, hr3, _, hs3, ha3, _⟩
        have hs3' := HRUN.out.peb.sees ha3 HS.out
        have hlen : (lastL seed).length = 16 := lastL_len seed
        have k4 := fol_any w3 (t : Int) d c (backL (K - t) (lastL seed)) (I : Int) d3 c3 (backL (K - (t + 1)) (lastL seed)) (HF.out.below hr3.bel) (HT.out.below hr3.bel) hs3' hs3
        rw [← HI.out, fol_zero hlen (by have := HI.out; omega) HG.out.2.1 (by omega), backL_len _ _ hlen, backL_len _ _ hlen] at k4
        have H3 : Hid (Run w w3 g b3 cap3 cd cc (lastL seed) K (t + 1) (stepN t st (T.map Prod.fst)) T3 ∧ Sees w3 d3 c3 (backL (K - (t + 1)) (lastL seed))) := ⟨hr3, hs3⟩
        clear k3 hr3 hs3 hs3' ha3 hlen
        rw [show ((0 : Nat) : Int) = 0 from rfl] at k4
        go_wp2_with fail
        refine k4.mono ?_
        rintro e w4 ⟨rfl, hb4⟩
        have hr4 := H3.out.1.below hb4
        have k5 := hr4.commit
        have H4 : Hid (Run w w4 g b3 cap3 cd cc (lastL seed) K (t + 1) (stepN t st (T.map Prod.fst)) T3 ∧ Sees w4 d3 c3 (backL (K - (t + 1)) (lastL seed))) := ⟨hr4, H3.out.2.below hb4⟩
        clear k4 hb4 hr4 H3
        go_wp2_with fail
        refine k5.mono ?_
        rintro e w5 ⟨d5, c5, rfl, hs5, hb5⟩
        have hr5 := H4.out.1.below hb5
        have hs6 := H4.out.2.below hb5
        have hlen : (lastL seed).length = 16 := lastL_len seed
        have k6 := fol_any w5 ((0 : Nat) : Int) d5 c5 (backL (K - 0) (lastL seed)) (I : Int) d3 c3 (backL (K - (t + 1)) (lastL seed)) (HF.out.below hr5.bel) (HT.out.below hr5.bel) hs5 hs6
        rw [← HI.out, fol_zero hlen (by omega) HG.out.2.1 (by omega), backL_len _ _ hlen, backL_len _ _ hlen] at k6
        have H5 : Hid (Run w w5 g b3 cap3 cd cc (lastL seed) K (t + 1) (stepN t st (T.map Prod.fst)) T3 ∧ Sees w5 d3 c3 (backL (K - (t + 1)) (lastL seed))) := ⟨hr5, hs6⟩
        clear k5 hb5 hr5 hs5 hs6 hlen H4
        rw [show ((0 : Nat) : Int) = 0 from rfl] at k6
        go_wp2_with fail
        refine k6.mono ?_
        rintro e w6 ⟨rfl, hb6⟩
        have H6 : Hid (Run w w6 g b3 cap3 cd cc (lastL seed) K (t + 1) (stepN t st (T.map Prod.fst)) T3 ∧ Sees w6 d3 c3 (backL (K - (t + 1)) (lastL seed))) := ⟨H5.out.1.below hb6, H5.out.2.below hb6⟩
        clear k6 hb6 H5
        go_wp2
        go_roundw
        case rel => exact ⟨t + 1, b3, cap3, _, T3, d3, c3, by have := HI.out; go_num, rfl, H6.out.1, by have := HI.out; have := HG.out; omega, by have := HI.out; have := HG.out; omega, H6.out.2, stepN_le HRUN.out.peb.good HRUN.out.peb.most HG.out.2.2.1⟩
        case measure => simp [intOf]; omega
      · have HB : Hid (Below w.heap.size w wr) := hrun.bel
        by_cases hM : I ≤ M
        · have g1 : (I : Int) ≤ (M : Int) := by omega
          have g2 : ¬ I ≤ K := by omega
          clear hrun htK htM hs hst hgo hI hM
          go_wp2_with fail
          refine (HAW.out _ HB.out).mono ?_
          rintro e w3 ⟨rfl, hb3⟩
          go_wp2
          go_ret
          exact ⟨rfl, hb3⟩
        · have g1 : ¬ I ≤ M := hM
          clear hrun htK htM hs hst hgo hI hM
          go_wp2_with fail
          refine (HAW.out _ HB.out).mono ?_
          rintro e w3 ⟨rfl, hb3⟩
          go_wp2
          go_ret
          exact ⟨rfl, hb3⟩
  · have k1 := new_no w a ca seed (K : Int) hTab.1 hTab.2 ha (fun h => h16 h.1)
    have d16 : ((seed.length : Int) == 16) = false := by simp; omega
    have d16' : ((seed.length : Int) != 16) = true := by simp; omega
    clear hTab ha wx wy bx bY hR hM hK h16
    go_enter Tryd.func5, Tryd.ntmps5
    go_wp2_with fail
    refine k1.mono ?_
    rintro e w1 ⟨rfl, hb1⟩
    clear k1
    go_wp2_with fail
    refine (HAW.out _ hb1).mono ?_
    rintro e w3 ⟨rfl, hb3⟩
    go_wp2
    go_ret
    exact ⟨rfl, hb3⟩
end Go.Proofs.YtleedppcandbkaaDoor
