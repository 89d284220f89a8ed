/-
  The walk of ChainSteps.
-/
import Derived.Test.YtinecobgogbdjaaDoorChainD
namespace Go.Proofs.YtinecobgogbdjaaDoor
open Go.ChangeShapes Go.WideShapes Go.ChangeAt Go.RowKit

theorem bounds_u8 {n : Int} (h : (Lit.int .u8 n).wf = true) : 0 ≤ n ∧ n < 256 := by
  simp [Lit.wf, IntKind.min, IntKind.max, IntKind.signed, IntKind.bits] at h
  omega
theorem back_ok (w : World) (a : Option Addr) (ca : Nat) (key : List UInt8) (h16 : key.length = 16) (n : Nat) (hn : n ≤ 256) (hF : FTab w) (hT : KTab w) (ha : Sees w a ca key) :
    Calls Tryd.prog 14 #[.slice a 16 ca, .int .i64 (n : Int)] w fun e w' => ∃ d cd, e = .returned (.tuple #[.slice d 16 cd, .int .i64 0]) ∧ Sees w' d cd (backL n key) ∧ Below w.heap.size w w' := by
  have h := back_any w a ca key (n : Int) hF hT ha
  have hP : backP key (n : Int) = (backL n key, 0) := by unfold backP; rw [if_pos ⟨h16, by omega, by omega⟩, Int.toNat_natCast]
  rw [hP, h16] at h
  refine h.mono ?_
  rintro e w' ⟨d, cd, he, hs, hb⟩
  dsimp only at he hs
  rw [backL_len n key h16] at he
  exact ⟨d, cd, he, hs, hb⟩

set_option maxHeartbeats 1600000 in
theorem steps_walk (a : Option Addr) (ca : Nat) (key : List UInt8) (x y : Int) (w : World) (hTab : FTab w ∧ KTab w) (ha : Sees w a ca key) (_ : ca ≤ 140737488351232) (wx : (Lit.int .u8 x).wf = true) (wy : (Lit.int .u8 y).wf = true) :
    Calls Tryd.prog 6 #[.slice a key.length ca, .int .u8 x, .int .u8 y] w fun e w' => e = .returned (.bool true) ∧ Below w.heap.size w w' := by
  have hkm : key.length ≤ 9223372036854775807 := by have := ha.fits; have := ha.room; unfold maxLen at this; omega
  have bx := bounds_u8 wx
  have bY := bounds_u8 wy
  obtain ⟨X, rfl⟩ : ∃ X : Nat, x = (X : Int) := ⟨x.toNat, by omega⟩
  obtain ⟨Y, rfl⟩ : ∃ Y : Nat, y = (Y : Int) := ⟨y.toNat, by omega⟩
  obtain ⟨M, hM⟩ : ∃ M, M = X % 40 := ⟨_, rfl⟩
  obtain ⟨N, hN⟩ : ∃ N, N = Y % 40 := ⟨_, rfl⟩
  have hM1 : ((X : Int)).tmod 40 = (M : Int) := by rw [hM]; exact (Int.ofNat_tmod X 40).symm
  have hN1 : ((Y : Int)).tmod 40 = (N : Int) := by rw [hN]; exact (Int.ofNat_tmod Y 40).symm
  have hM2 : (X : Int) % 40 = (M : Int) := by omega
  have hN2 : (Y : Int) % 40 = (N : Int) := by omega
  have hM40 : M < 40 := by omega
  have hN40 : N < 40 := by omega
  have HF : Hid (FTab w) := hTab.1
  have HT : Hid (KTab w) := hTab.2
  by_cases h16 : key.length = 16
  · have k1 := back_ok w a ca key h16 M (by omega) hTab.1 hTab.2 ha
    have HA : Hid (Sees w a ca key) := ha
    have Hk : Hid (key.length = 16) := h16
    rw [h16]
    clear hTab ha wx wy bx bY hM hN h16 hkm
    go_enter Tryd.func6, Tryd.ntmps6
    go_wp2_with fail
    refine k1.mono ?_
    rintro e w1 ⟨d1, c1, rfl, hs1, hb1⟩
    obtain ⟨kx, hkx⟩ : ∃ kx, kx = backL M key := ⟨_, rfl⟩
    have hkl : kx.length = 16 := by rw [hkx]; exact backL_len _ _ Hk.out
    rw [← hkx] at hs1
    have k2 := back_ok w1 d1 c1 kx hkl N (by omega) (HF.out.below hb1) (HT.out.below hb1) hs1
    have HX : Hid (kx = backL M key ∧ kx.length = 16) := ⟨hkx, hkl⟩
    have HS1 : Hid (Sees w1 d1 c1 kx) := hs1
    clear k1 hs1 hkx hkl
    go_wp2_with fail
    refine k2.mono ?_
    rintro e w2 ⟨d2, c2, rfl, hs2, hb2⟩
    have hbw2 := hb1.trans (hb2.mono hb1.size)
    obtain ⟨P, hP⟩ : ∃ P, P = M + N := ⟨_, rfl⟩
    have hP1 : (M : Int) + (N : Int) = (P : Int) := by omega
    have k3 := back_ok w2 a ca key Hk.out P (by omega) (HF.out.below hbw2) (HT.out.below hbw2) (HA.out.below hbw2)
    obtain ⟨ky, hky⟩ : ∃ ky, ky = backL N kx := ⟨_, rfl⟩
    rw [← hky] at hs2
    have hyz : backL P key = ky := by rw [hky, HX.out.1, ← backL_add, hP, Nat.add_comm]
    rw [hyz] at k3
    have hyl : ky.length = 16 := by rw [hky]; exact backL_len _ _ HX.out.2
    have HY : Hid (ky = backL N kx ∧ ky.length = 16) := ⟨hky, hyl⟩
    have HS2 : Hid (Sees w2 d2 c2 ky) := hs2
    have HP : Hid (P = M + N) := hP
    clear k2 hs2 hky hyz hyl hP
    go_wp2_with fail
    refine k3.mono ?_
    rintro e w3 ⟨d3, c3, rfl, hs3, hb3⟩
    have hbw3 := hbw2.trans (hb3.mono hbw2.size)
    have t1 : Sees w3 d1 c1 kx := (HS1.out.below hb2).below hb3
    have t2 : Sees w3 d2 c2 ky := HS2.out.below hb3
    have e2 := t2.convert (P := Tryd.prog) 22 5 9 Tryd.underlying22 Tryd.underlying5 Tryd.underlying9
    have e3 := hs3.convert (P := Tryd.prog) 22 5 9 Tryd.underlying22 Tryd.underlying5 Tryd.underlying9
    rw [HY.out.2] at e2 e3
    have k4 := fol_any w3 (M : Int) d2 c2 ky (P : Int) d1 c1 kx (HF.out.below hbw3) (HT.out.below hbw3) t2 t1
    have hfo : folP (M : Int) ky (P : Int) kx = 0 := by
      have h1 := HP.out
      unfold folP
      rw [if_pos ⟨by omega, by omega, by omega, by omega, HY.out.2, HX.out.2⟩, if_neg (by omega), show ((P : Int) - (M : Int)).toNat = N by omega, if_pos HY.out.1.symm]
    rw [hfo, HY.out.2, HX.out.2] at k4
    have hPm : P ≤ 80 := by have := HP.out; omega
    clear k3 hs3 t1 t2 hfo
    go_wp2_with fail
    refine k4.mono ?_
    rintro e w4 ⟨rfl, hb4⟩
    have hbw4 := hbw3.trans (hb4.mono hbw3.size)
    have haw := awake_ok w4 (HF.out.below hbw4) (HT.out.below hbw4)
    clear k4 e2 e3
    go_wp2_with fail
    refine haw.mono ?_
    rintro e w5 ⟨rfl, hb5⟩
    clear haw
    go_wp2
    go_ret
    exact ⟨rfl, hbw4.trans (hb5.mono hbw4.size)⟩
  · have k1 := back_any w a ca key (M : Int) hTab.1 hTab.2 ha
    have hP : backP key (M : Int) = ([], 1) := by unfold backP; rw [if_neg (fun h => h16 h.1)]
    rw [hP] at k1
    have dd : ((key.length : Int) != 16) = true := by simp; omega
    clear hTab ha wx wy bx bY hM hN h16 hP
    go_enter Tryd.func6, Tryd.ntmps6
    go_wp2_with fail
    refine k1.mono ?_
    rintro e w1 ⟨d1, c1, rfl, hs1, hb1⟩
    have haw := awake_ok w1 (HF.out.below hb1) (HT.out.below hb1)
    clear k1 hs1
    go_wp2_with fail
    refine haw.mono ?_
    rintro e w2 ⟨rfl, hb2⟩
    clear haw
    go_wp2
    go_ret
    exact ⟨rfl, hb1.trans (hb2.mono hb1.size)⟩
end Go.Proofs.YtinecobgogbdjaaDoor
