/-
  The walk of RenewLeads.
-/
import Derived.Test.YtgncdnejmobjbaaDoorRenK
namespace Go.Proofs.YtgncdnejmobjbaaDoor
open Go.ChangeShapes Go.WideShapes Go.ChangeAt Go.RowKit
set_option maxRecDepth 20000

set_option maxHeartbeats 3200000 in
theorem leads_walk (a : Option Addr) (ca : Nat) (own : List UInt8) (x y z : Int) (w : World) (hTab : FTab w ∧ KTab w) (ha : Sees w a ca own) (_ : ca ≤ 140737488351232) (wx : (Lit.int .u8 x).wf = true) (wy : (Lit.int .u8 y).wf = true) (wz : (Lit.int .u8 z).wf = true) :
    Calls Tryd.prog 3 #[.slice a own.length ca, .int .u8 x, .int .u8 y, .int .u8 z] w fun e w' => e = .returned (.bool true) ∧ Below w.heap.size w w' := by
  have hkm : own.length ≤ 9223372036854775807 := by have := ha.fits; have := ha.room; unfold maxLen at this; omega
  have bx := bounds_u8 wx
  have bY := bounds_u8 wy
  have bz := bounds_u8 wz
  obtain ⟨X, rfl⟩ : ∃ X : Nat, x = (X : Int) := ⟨x.toNat, by omega⟩
  obtain ⟨Y, rfl⟩ : ∃ Y : Nat, y = (Y : Int) := ⟨y.toNat, by omega⟩
  obtain ⟨Z, rfl⟩ : ∃ Z : Nat, z = (Z : Int) := ⟨z.toNat, by omega⟩
  obtain ⟨M, hM⟩ : ∃ M, M = Z % 16 := ⟨_, rfl⟩
  have hM1 : ((Z : Int)).tmod 16 = (M : Int) := by rw [hM]; exact (Int.ofNat_tmod Z 16).symm
  have hM2 : (Z : Int) % 16 = (M : Int) := by omega
  obtain ⟨E, hE⟩ : ∃ E, E = 1 + X := ⟨_, rfl⟩
  have hE1 : (1 : Int) + (X : Int) = (E : Int) := by omega
  obtain ⟨A, hA⟩ : ∃ A, A = Y + 1 := ⟨_, rfl⟩
  have hA1 : (Y : Int) + 1 = (A : Int) := by omega
  obtain ⟨R, hR⟩ : ∃ R, R = A + M := ⟨_, rfl⟩
  have hR1 : (A : Int) + (M : Int) = (R : Int) := by omega
  obtain ⟨I, hI⟩ : ∃ I, I = M + 1 := ⟨_, rfl⟩
  have hR2 : (R : Int) - (Y : Int) = (I : Int) := by omega
  have hM16 : M < 16 := by omega
  have hX : X < 256 := by omega
  have hY : Y < 256 := by omega
  have hE256 : E ≤ 256 := by omega
  have hA256 : A ≤ 256 := by omega
  have hR300 : R ≤ 300 := by omega
  have hI16 : I ≤ 16 := by omega
  have hMI : (M : Int) ≤ (I : Int) := by omega
  have HNUM : Hid (R = Y + (M + 1) ∧ I = M + 1 ∧ X ≤ E ∧ M < 16 ∧ E ≤ 65535 ∧ Y < 256 ∧ X ≤ 65535) := ⟨by omega, hI, by omega, hM16, by omega, hY, by omega⟩
  have HF : Hid (FTab w) := hTab.1
  have HT : Hid (KTab w) := hTab.2
  have HA : Hid (Sees w a ca own) := ha
  have HAW : Hid (∀ V, Below w.heap.size w V → Calls Tryd.prog 8 #[] V fun e w' => e = .returned (.bool true) ∧ Below w.heap.size w w') := fun V hV => by
    refine (awake_ok V (HF.out.below hV) (HT.out.below hV)).mono ?_
    rintro e w' ⟨rfl, hb⟩
    exact ⟨rfl, hV.trans (hb.mono hV.size)⟩
  have KU := usual_ok w
  clear hTab ha wx wy wz bx bY bz hM hE hA hR hI
  go_enter Tryd.func3, Tryd.ntmps3
  go_wp2_with fail
  refine KU.mono ?_
  rintro e w1 ⟨rfl, hb1⟩
  have HB1 : Hid (Below w.heap.size w w1) := hb1
  clear KU hb1
  by_cases h16 : own.length = 16
  · have K := PSolo.new w1 rnC a ca own 2 (HF.out.below HB1.out) (HT.out.below HB1.out) (HA.out.below HB1.out) (rnB_iff.2 ⟨rnC_ok, h16, by decide, by decide⟩)
    rw [h16] at K ⊢
    clear h16 hkm
    go_wp2_with fail
    refine K.mono ?_
    rintro e w2 ⟨G, rfl, hP⟩
    have K1 := hP.begin (E : Int) (Y : Int)
    rw [(rn_beg own 2 E Y HNUM.out.2.2.2.2.1 HNUM.out.2.2.2.2.2.1).1, (rn_beg own 2 E Y HNUM.out.2.2.2.2.1 HNUM.out.2.2.2.2.2.1).2] at K1
    clear K hP
    go_wp2_with fail
    refine K1.mono ?_
    rintro e w3 ⟨rfl, hP, _⟩
    have K2 := hP.begin (X : Int) (3 : Nat)
    rw [(rn_again own 2 X E Y 3 HNUM.out.2.2.2.2.2.2 (by omega) HNUM.out.2.2.1).1, (rn_again own 2 X E Y 3 HNUM.out.2.2.2.2.2.2 (by omega) HNUM.out.2.2.1).2, show ((3 : Nat) : Int) = 3 from rfl] at K2
    clear K1 hP
    go_wp2_with fail
    refine K2.mono ?_
    rintro e w4 ⟨rfl, hP, _⟩
    obtain ⟨s, hs⟩ : ∃ s, s = rnS own 2 (E : Int) (Y : Int) := ⟨_, rfl⟩
    have HS : Hid (s = rnS own 2 (E : Int) (Y : Int)) := hs
    have hmt := rn_mac own 2 (E : Int) Y M R (by omega) HNUM.out.2.2.2.2.2.1 HNUM.out.2.2.2.1 HNUM.out.1
    rw [← HNUM.out.2.1, ← hs] at hmt
    rw [← hs] at hP
    have K3 := hP.mac (R : Int)
    rw [hmt.1] at K3
    dsimp only at K3
    rw [Rn.key_len] at K3
    have HTO : Hid (s.told (R : Int) = ((M : Int), s.key M, 0)) := hmt.2
    clear K2 hP hs hmt
    go_wp2_with fail
    refine K3.mono ?_
    rintro e w5 ⟨d5, c5, rfl, hs5, hP, _⟩
    have K4 := hP.told (R : Int)
    rw [HTO.out] at K4
    dsimp only at K4
    rw [Rn.key_len] at K4
    have HS5 : Hid (Sees w5 d5 c5 (s.key I)) := hs5
    clear K3 hP hs5
    go_wp2_with fail
    refine K4.mono ?_
    rintro e w6 ⟨d6, c6, rfl, hs6, hP, hkp⟩
    have K5 := fol_any w6 (M : Int) d6 c6 (s.key M) (I : Int) d5 c5 (s.key I) hP.at'.2.1 hP.at'.2.2.1 hs6 (hkp _ _ _ HS5.out)
    have hfo : folP (M : Int) (s.key M) (I : Int) (s.key I) = 0 := by rw [HS.out, HNUM.out.2.1]; exact rn_fol own 2 (E : Int) (Y : Int) M HNUM.out.2.2.2.1
    rw [hfo, Rn.key_len, Rn.key_len] at K5
    have HP : Hid (PSolo w1 w6 G s) := hP
    clear K4 hP hs6 hkp hfo
    go_wp2_with fail
    refine K5.mono ?_
    rintro e w7 ⟨rfl, hb7⟩
    have hP := HP.out.below hb7
    have K6 := hP.epoch
    rw [show s.ep = (E : Int) by rw [HS.out]; rfl] at K6
    have HB7 : Hid (Below w.heap.size w w7) := HB1.out.trans (hP.at'.2.2.2.mono HB1.out.size)
    clear K5 hb7 hP
    go_wp2_with fail
    refine K6.mono ?_
    rintro e w8 ⟨rfl, rfl⟩
    clear K6
    go_wp2_with fail
    refine (HAW.out w8 HB7.out).mono ?_
    rintro e w9 ⟨rfl, hb9⟩
    go_wp2
    go_ret
    exact ⟨rfl, hb9⟩
  · have hno : rnB rnC own 2 = false := by rw [Bool.eq_false_iff]; intro hh; exact h16 (rnB_iff.1 hh).2.1
    have K := pnew_no w1 rnC a ca own 2 hno
    obtain ⟨n, hn⟩ : ∃ n, n = own.length := ⟨_, rfl⟩
    rw [← hn] at K h16 hkm ⊢
    have h16' : ((n : Int) != 16) = true := by simp; omega
    clear hno hn h16
    go_wp2_with fail
    refine K.mono ?_
    rintro e w2 ⟨rfl, hb2⟩
    have HB2 : Hid (Below w.heap.size w w2) := HB1.out.trans (hb2.mono HB1.out.size)
    clear K hb2
    go_wp2_with fail
    refine (HAW.out w2 HB2.out).mono ?_
    rintro e w9 ⟨rfl, hb9⟩
    go_wp2
    go_ret
    exact ⟨rfl, hb9⟩
end Go.Proofs.YtgncdnejmobjbaaDoor
