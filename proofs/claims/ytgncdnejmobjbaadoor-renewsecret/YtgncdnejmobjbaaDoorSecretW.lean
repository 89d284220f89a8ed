/-
  The walk of RenewSecret.
-/
import Derived.Test.YtgncdnejmobjbaaDoorRenK
namespace Go.Proofs.YtgncdnejmobjbaaDoor
open Go.ChangeShapes Go.WideShapes Go.ChangeAt Go.RowKit
set_option maxRecDepth 20000

set_option maxHeartbeats 3200000 in
theorem secret_walk (a : Option Addr) (ca : Nat) (own : List UInt8) (y z : Int) (w : World) (hTab : FTab w ∧ KTab w) (ha : Sees w a ca own) (_ : ca ≤ 140737488351232) (wy : (Lit.int .u8 y).wf = true) (wz : (Lit.int .u8 z).wf = true) :
    Calls Tryd.prog 4 #[.slice a own.length ca, .int .u8 y, .int .u8 z] w fun e w' => e = .returned (.bool true) ∧ Below w.heap.size w w' := by
  have hkm : own.length ≤ 9223372036854775807 := by have := ha.fits; have := ha.room; unfold maxLen at this; omega
  have bY := bounds_u8 wy
  have bz := bounds_u8 wz
  obtain ⟨Y, rfl⟩ : ∃ Y : Nat, y = (Y : Int) := ⟨y.toNat, by omega⟩
  obtain ⟨Z, rfl⟩ : ∃ Z : Nat, z = (Z : Int) := ⟨z.toNat, by omega⟩
  obtain ⟨M, hM⟩ : ∃ M, M = Z % 16 := ⟨_, rfl⟩
  have hM1 : ((Z : Int)).tmod 16 = (M : Int) := by rw [hM]; exact (Int.ofNat_tmod Z 16).symm
  have hM2 : (Z : Int) % 16 = (M : Int) := by omega
  obtain ⟨A, hA⟩ : ∃ A, A = Y + 1 := ⟨_, rfl⟩
  have hA1 : (Y : Int) + 1 = (A : Int) := by omega
  obtain ⟨R, hR⟩ : ∃ R, R = A + M := ⟨_, rfl⟩
  have hR1 : (A : Int) + (M : Int) = (R : Int) := by omega
  obtain ⟨I, hI⟩ : ∃ I, I = M + 1 := ⟨_, rfl⟩
  obtain ⟨N, hN⟩ : ∃ N, N = R * 1200 := ⟨_, rfl⟩
  have hN1 : (R : Int) * 1200 = (N : Int) := by omega
  have hN2 : (R : Int) * (3 * 400) = (N : Int) := by omega
  have hM16 : M < 16 := by omega
  have hY : Y < 256 := by omega
  have hA256 : A ≤ 256 := by omega
  have hR300 : R ≤ 300 := by omega
  have hI16 : I ≤ 16 := by omega
  have hN4 : N ≤ 400000 := by omega
  have hMI : (M : Int) < (I : Int) := by omega
  have HNUM : Hid (R = Y + (M + 1) ∧ I = M + 1 ∧ N = R * 1200 ∧ M < 16 ∧ Y < 256) := ⟨by omega, hI, hN, hM16, hY⟩
  have HF : Hid (FTab w) := hTab.1
  have HT : Hid (KTab w) := hTab.2
  have HA : Hid (Sees w a ca own) := ha
  have HAW : Hid (∀ V, Below w.heap.size w V → Calls Tryd.prog 8 #[] V fun e w' => e = .returned (.bool true) ∧ Below w.heap.size w w') := fun V hV => by
    refine (awake_ok V (HF.out.below hV) (HT.out.below hV)).mono ?_
    rintro e w' ⟨rfl, hb⟩
    exact ⟨rfl, hV.trans (hb.mono hV.size)⟩
  have KU := usual_ok w
  clear hTab ha wy wz bY bz hM hA hR hI hN
  go_enter Tryd.func4, Tryd.ntmps4
  go_wp2_with fail
  refine KU.mono ?_
  rintro e w0 ⟨rfl, hb0⟩
  have h0 : CfAt (w0.alloc (.cells (cfC Cf.zero) 28)) w0.heap.size Cf.zero := CfAt.new w0 _
  obtain ⟨w1, hw1⟩ : ∃ w1, w1 = (w0.alloc (.cells (cfC Cf.zero) 28)).setRow w0.heap.size (cfC rnC) := ⟨_, rfl⟩
  have HST : Hid ((Instr.storeAt 28 (.pointer (some ⟨w0.heap.size, 0, none⟩)) (.agg (cfC rnC))).run Tryd.prog (w0.alloc (.cells (cfC Cf.zero) 28)) = .ok () w1) := by rw [hw1]; exact h0.stores rnC
  have HC : Hid (CfAt w1 w0.heap.size rnC) := by rw [hw1]; exact h0.stored rnC
  have HB1 : Hid (Below w.heap.size w w1) := by rw [hw1]; exact hb0.trans ((below_setRow (Go.Joins.below_alloc1 _ _) (Nat.le_refl _) _).mono hb0.size)
  have HL : Hid ((Instr.loadAt 28 (.pointer (some ⟨w0.heap.size, 0, none⟩))).run Tryd.prog w1 = .ok (.agg (cfC rnC)) w1) := HC.out.loads
  clear KU hb0 h0 hw1
  by_cases h16 : own.length = 16
  · have K := PSolo.new w1 rnC a ca own 0 (HF.out.below HB1.out) (HT.out.below HB1.out) (HA.out.below HB1.out) (rnB_iff.2 ⟨rnC_ok, h16, by decide, by decide⟩)
    rw [h16] at K ⊢
    clear h16 hkm
    go_wp2_with (first | (refine wpList_store_run rfl 28 _ _ rfl _ _ rfl rfl HST.out ?_) | (refine wpList_gload_run rfl 28 _ rfl _ _ rfl HL.out ?_) | fail)
    refine K.mono ?_
    rintro e w2 ⟨G, rfl, hP⟩
    have K1 := hP.begin ((1 : Nat) : Int) (Y : Int)
    rw [(rn_beg own 0 1 Y (by omega) HNUM.out.2.2.2.2).1, (rn_beg own 0 1 Y (by omega) HNUM.out.2.2.2.2).2, show ((1 : Nat) : Int) = 1 from rfl] at K1
    clear K hP
    go_wp2_with fail
    refine K1.mono ?_
    rintro e w4 ⟨rfl, hP, _⟩
    obtain ⟨s, hs⟩ : ∃ s, s = rnS own 0 1 (Y : Int) := ⟨_, rfl⟩
    have HS : Hid (s = rnS own 0 1 (Y : Int)) := hs
    have hmt := rn_mac own 0 1 Y M R (by omega) HNUM.out.2.2.2.2 HNUM.out.2.2.2.1 HNUM.out.1
    rw [← HNUM.out.2.1, ← hs] at hmt
    rw [← hs] at hP
    have K3 := hP.mac (R : Int)
    rw [hmt.1] at K3
    dsimp only at K3
    rw [Rn.key_len] at K3
    have HTO : Hid (s.told (R : Int) = ((M : Int), s.key M, 0)) := hmt.2
    clear K1 hP hs hmt
    go_wp2_with fail
    refine K3.mono ?_
    rintro e w5 ⟨d5, c5, rfl, hs5, hP, _⟩
    have K4 := hP.told (R : Int)
    rw [HTO.out] at K4
    dsimp only at K4
    rw [Rn.key_len] at K4
    clear K3 hP hs5
    go_wp2_with fail
    refine K4.mono ?_
    rintro e w6 ⟨d6, c6, rfl, hs6, hP, _⟩
    have HBL6 : Hid (Below w1.heap.size w1 w6) := hP.at'.2.2.2
    have hC6 := HC.out.below (HBL6.out)
    have q0 : w6.cell? ⟨w0.heap.size, 0, none⟩ = some (.int .i64 3) := hC6.c0
    have q2 : w6.cell? ⟨w0.heap.size, 2, none⟩ = some (.int .i64 400) := hC6.c2
    have K5 : Calls Tryd.prog 14 #[.pointer (some ⟨G, 0, none⟩), .int .i64 (N : Int)] w6 fun e w' => ∃ d cd, e = .returned (.tuple #[.int .i64 (M : Int), .slice d 16 cd, .int .i64 0]) ∧ PSolo w1 w' G s := by
      refine (hP.known (by rw [HS.out]; show ¬ (1 : Int) < 0; omega) (N : Int)).mono ?_
      rintro e w' ⟨p, d, cd, hk, rfl, _, hP', _⟩
      have hp := rn_kn own 1 Y M R N HNUM.out.2.2.2.2 HNUM.out.2.2.2.1 HNUM.out.1 HNUM.out.2.2.1 p (by rw [HS.out] at hk; exact hk)
      subst hp
      refine ⟨d, cd, ?_, hP'⟩
      show Ending.returned (.tuple #[.int .i64 (M : Int), .slice d (s.key M).length cd, .int .i64 0]) = _
      rw [Rn.key_len]
    clear K4 hP hs6 hC6
    go_wp2_with fail
    refine K5.mono ?_
    rintro e w7 ⟨d7, c7, rfl, hP⟩
    have HB7 : Hid (Below w.heap.size w w7) := HB1.out.trans (hP.at'.2.2.2.mono HB1.out.size)
    clear K5 hP q0 q2
    go_wp2_with fail
    refine (HAW.out w7 HB7.out).mono ?_
    rintro e w9 ⟨rfl, hb9⟩
    go_wp2
    go_ret
    exact ⟨rfl, hb9⟩
  · have hno : rnB rnC own 0 = false := by rw [Bool.eq_false_iff]; intro hh; exact h16 (rnB_iff.1 hh).2.1
    have K := pnew_no w1 rnC a ca own 0 hno
    obtain ⟨n, hn⟩ : ∃ n, n = own.length := ⟨_, rfl⟩
    rw [← hn] at K h16 hkm ⊢
    have h16' : ((n : Int) != 16) = true := by simp; omega
    clear hno hn h16
    go_wp2_with (first | (refine wpList_store_run rfl 28 _ _ rfl _ _ rfl rfl HST.out ?_) | (refine wpList_gload_run rfl 28 _ rfl _ _ rfl HL.out ?_) | fail)
    refine K.mono ?_
    rintro e w2 ⟨rfl, hb2⟩
    have HB2 : Hid (Below w.heap.size w w2) := HB1.out.trans (hb2.mono HB1.out.size)
    clear K hb2
    go_wp2_with fail
    refine (HAW.out w2 HB2.out).mono ?_
    rintro e w9 ⟨rfl, hb9⟩
    go_wp2
    go_ret
    exact ⟨rfl, hb9⟩
end Go.Proofs.YtgncdnejmobjbaaDoor
