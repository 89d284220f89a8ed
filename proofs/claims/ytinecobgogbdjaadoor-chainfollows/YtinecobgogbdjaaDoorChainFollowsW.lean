/-
  The walk of ChainFollows.
-/
import Derived.Test.YtinecobgogbdjaaDoorChainStepsW
import Derived.Deep.RegionHeld3
namespace Go.Proofs.YtinecobgogbdjaaDoor
open Go.ChangeShapes Go.WideShapes Go.ChangeAt Go.RowKit

/-- One key of a list of keys: where it lies. -/
theorem Rowss.key {W : World} {g cap n : Nat} {key : List UInt8} (h : Rowss W (some ⟨g, 0, none⟩) cap (allL n key)) (hk : key.length = 16) (i : Nat) (hi : i ≤ n) :
    ∃ x cx, W.cell? ⟨g, i, none⟩ = some (.slice x 16 cx) ∧ Sees W x cx (backL (n - i) key) := by
  obtain ⟨b, off, he, x, cx, hc, hs⟩ := h.at' i _ (allL_get n key i hi)
  simp only [Option.some.injEq, Addr.mk.injEq, and_true] at he
  obtain ⟨rfl, rfl⟩ := he
  rw [backL_len _ _ hk, Nat.zero_add] at hc
  exact ⟨x, cx, hc, hs⟩

theorem TwoC.drew {g A B : Nat} {X Y : Value} {w W : World} (h : (W.cell? ⟨g, A, none⟩ = some X ∧ W.cell? ⟨g, B, none⟩ = some Y) ∧ Below w.heap.size w W) : (W.drew.cell? ⟨g, A, none⟩ = some X ∧ W.drew.cell? ⟨g, B, none⟩ = some Y) ∧ Below w.heap.size w W.drew := ⟨h.1, h.2.drew⟩
theorem TwoC.below {g A B : Nat} {X Y : Value} {w W V : World} (h : (W.cell? ⟨g, A, none⟩ = some X ∧ W.cell? ⟨g, B, none⟩ = some Y) ∧ Below w.heap.size w W) (hb : Below W.heap.size W V) (hs : w.heap.size ≤ W.heap.size) : (V.cell? ⟨g, A, none⟩ = some X ∧ V.cell? ⟨g, B, none⟩ = some Y) ∧ Below w.heap.size w V :=
  ⟨⟨by rw [hb.cell (World.block_lt_of_cell? _ _ h.1.1)]; exact h.1.1, by rw [hb.cell (World.block_lt_of_cell? _ _ h.1.2)]; exact h.1.2⟩, h.2.trans (hb.mono hs)⟩

set_option maxHeartbeats 3200000 in
theorem follows_walk (a : Option Addr) (ca : Nat) (seed : List UInt8) (x y z : Int) (w : World) (hTab : FTab w ∧ KTab w) (ha : Sees w a ca seed) (_ : ca ≤ 140737488351232) (wx : (Lit.int .u8 x).wf = true) (wy : (Lit.int .u8 y).wf = true) (wz : (Lit.int .u8 z).wf = true) :
    Calls Tryd.prog 5 #[.slice a seed.length ca, .int .u8 x, .int .u8 y, .int .u8 z] w fun e w' => e = .returned (.bool true) ∧ Below w.heap.size w w' := by
  have hkm : seed.length ≤ 9223372036854775807 := by have := ha.fits; have := ha.room; unfold maxLen at this; omega
  have bx := bounds_u8 wx
  have bY := bounds_u8 wy
  have bz := bounds_u8 wz
  obtain ⟨X, rfl⟩ : ∃ X : Nat, x = (X : Int) := ⟨x.toNat, by omega⟩
  obtain ⟨Y, rfl⟩ : ∃ Y : Nat, y = (Y : Int) := ⟨y.toNat, by omega⟩
  obtain ⟨Z, rfl⟩ : ∃ Z : Nat, z = (Z : Int) := ⟨z.toNat, by omega⟩
  obtain ⟨R, hR⟩ : ∃ R, R = X % 40 := ⟨_, rfl⟩
  obtain ⟨K, hK⟩ : ∃ K, K = 1 + R := ⟨_, rfl⟩
  obtain ⟨A, hA⟩ : ∃ A, A = Y % (K + 1) := ⟨_, rfl⟩
  obtain ⟨B, hB⟩ : ∃ B, B = Z % (K + 1) := ⟨_, rfl⟩
  obtain ⟨M, hM⟩ : ∃ M, M = K + 1 := ⟨_, rfl⟩
  have hR1 : ((X : Int)).tmod 40 = (R : Int) := by rw [hR]; exact (Int.ofNat_tmod X 40).symm
  have hR2 : (X : Int) % 40 = (R : Int) := by omega
  have hK1 : (1 : Int) + (R : Int) = (K : Int) := by omega
  have hM1 : (K : Int) + 1 = (M : Int) := by omega
  have hA1 : ((Y : Int)).tmod (M : Int) = (A : Int) := by rw [hA, hM]; exact (Int.ofNat_tmod Y (K + 1)).symm
  have hB1 : ((Z : Int)).tmod (M : Int) = (B : Int) := by rw [hB, hM]; exact (Int.ofNat_tmod Z (K + 1)).symm
  have hA2 : (Y : Int) % (M : Int) = (A : Int) := by rw [hA, hM]; exact (Int.natCast_emod Y (K + 1)).symm
  have hB2 : (Z : Int) % (M : Int) = (B : Int) := by rw [hB, hM]; exact (Int.natCast_emod Z (K + 1)).symm
  have hR40 : R < 40 := by omega
  have hK40 : K ≤ 40 := by omega
  have hK0 : 1 ≤ K := by omega
  have hAM : A < M := by rw [hA, hM]; exact Nat.mod_lt _ (by omega)
  have hBM : B < M := by rw [hB, hM]; exact Nat.mod_lt _ (by omega)
  have hM41 : M ≤ 41 := by omega
  have hM0 : ((M : Int) == 0) = false := by simp; omega
  have HF : Hid (FTab w) := hTab.1
  have HT : Hid (KTab w) := hTab.2
  have HKM : Hid (M = K + 1) := hM
  by_cases h16 : seed.length = 16
  · have k1 := all_ok w a ca seed h16 K hK0 (by omega) hTab.1 hTab.2 ha
    rw [← hM] at k1
    rw [h16]
    have hY256 : Y < 256 := by omega
    have hZ256 : Z < 256 := by omega
    clear hTab ha wx wy wz bx bY bz hR hK hA hB hM h16 hkm
    go_enter Tryd.func5, Tryd.ntmps5
    go_wp2_with fail
    refine k1.mono ?_
    rintro e w1 ⟨g, rfl, hf, hb1⟩
    have hrow := hf.rows (lastL_len seed) (by omega)
    clear k1 hf
    obtain ⟨xa, ca', hca, hsa⟩ := hrow.key (lastL_len seed) A (by have := HKM.out; omega)
    obtain ⟨xb, cb', hcb, hsb⟩ := hrow.key (lastL_len seed) B (by have := HKM.out; omega)
    obtain ⟨fv, hfv⟩ : ∃ fv, fv = folP (A : Int) (backL (K - A) (lastL seed)) (B : Int) (backL (K - B) (lastL seed)) := ⟨_, rfl⟩
    have K7 : Hid (∀ V, Below w1.heap.size w1 V → Calls Tryd.prog 16 #[.int .i64 (A : Int), .slice xa 16 ca', .int .i64 (B : Int), .slice xb 16 cb'] V fun e w' => e = .returned (.int .i64 (fv : Int)) ∧ Below w1.heap.size w1 w') := by
      intro V hV
      have hbV := hb1.trans (hV.mono hb1.size)
      have h := fol_any V (A : Int) xa ca' _ (B : Int) xb cb' _ (HF.out.below hbV) (HT.out.below hbV) (hsa.below hV) (hsb.below hV)
      rw [backL_len _ _ (lastL_len seed), backL_len _ _ (lastL_len seed), ← hfv] at h
      refine h.mono ?_
      rintro e w' ⟨rfl, hb⟩
      exact ⟨rfl, hV.trans (hb.mono hV.size)⟩
    have H0 : Hid ((w1.cell? ⟨g, A, none⟩ = some (.slice xa 16 ca') ∧ w1.cell? ⟨g, B, none⟩ = some (.slice xb 16 cb')) ∧ Below w1.heap.size w1 w1) := ⟨⟨hca, hcb⟩, Below.refl _ _⟩
    have HFV : Hid (fv = folP (A : Int) (backL (K - A) (lastL seed)) (B : Int) (backL (K - B) (lastL seed))) := hfv
    have HROW : Hid (Rowss w1 (some ⟨g, 0, none⟩) (K + 1) (allL K (lastL seed))) := hrow
    clear hca hcb hsa hsb hfv hrow
    go_wp2_with fail
    go_region_held3 (fun V => (V.cell? ⟨g, A, none⟩ = some (.slice xa 16 ca') ∧ V.cell? ⟨g, B, none⟩ = some (.slice xb 16 cb')) ∧ Below w1.heap.size w1 V)
      (first | exact H0.out | assumption | exact H0.out.drew | exact TwoC.drew (by assumption) | exact TwoC.below H0.out (by assumption) (Nat.le_refl _))
      (first | (go_at_call 16; (with_reducible refine (K7.out _ ?_).mono ?_); (focus (exact (Below.refl _ _).drew)); rintro e w9 ⟨rfl, hb9⟩))
    obtain ⟨C, hC⟩ : ∃ C, C = max A 1 := ⟨_, rfl⟩
    obtain ⟨D, hD⟩ : ∃ D, D = C - 1 := ⟨_, rfl⟩
    have hmx : (if (A : Int) < 1 then (1 : Int) else (A : Int)) = (C : Int) := by split <;> omega
    have hCM : C < M := by have := HKM.out; omega
    have hCK : C ≤ K := by have := HKM.out; omega
    have hDM : D < M := by omega
    have hD1 : (C : Int) - 1 = (D : Int) := by omega
    obtain ⟨xc, cc, hcc, hsc⟩ := (HROW.out.below hb9).key (lastL_len seed) C hCK
    obtain ⟨xd, cd, hcd, hsd⟩ := (HROW.out.below hb9).key (lastL_len seed) D (by omega)
    have hbw9 := hb1.trans (hb9.mono hb1.size)
    have k8 := step_any key_ok w9 xc cc _ (HF.out.below hbw9) (HT.out.below hbw9) hsc
    rw [stepP_eq _ (backL_len _ _ (lastL_len seed)), backL_len _ _ (lastL_len seed)] at k8
    have HCD : Hid (stepL (backL (K - C) (lastL seed)) = backL (K - D) (lastL seed)) := by
      show stepL (backL (K - C) (lastL seed)) = backL (K - D) (lastL seed)
      rw [show K - D = (K - C) + 1 by omega]; rfl
    rw [HCD.out] at k8
    clear K7 hC hD hsc hb9
    go_wp2_with fail
    refine k8.mono ?_
    rintro e w10 ⟨d5, c5, r5, hr5, rfl, hs5, hb10⟩
    have hr : r5 = backL (K - D) (lastL seed) := hr5.out
    have hrl : r5.length = 16 := by rw [hr]; exact backL_len _ _ (lastL_len seed)
    rw [hr] at hs5
    rw [hrl]
    have hbw10 := hbw9.trans (hb10.mono hbw9.size)
    obtain ⟨kd, hkd⟩ : ∃ kd, kd = backL (K - D) (lastL seed) := ⟨_, rfl⟩
    have hkl : kd.length = 16 := by rw [hkd]; exact backL_len _ _ (lastL_len seed)
    rw [← hkd] at hs5 hsd
    obtain ⟨SS, hSS0⟩ : ∃ SS : ByteArray, SS = ⟨kd.toArray⟩ := ⟨_, rfl⟩
    have HSV : Hid (∀ V, Below w10.heap.size w10 V → (V.cell? ⟨g, D, none⟩ = some (.slice xd 16 cd) ∧ (Go.convert 22 9 (.slice d5 16 c5)).run Tryd.prog V = .ok (.string SS) V ∧ (Go.convert 22 9 (.slice xd 16 cd)).run Tryd.prog V = .ok (.string SS) V) ∧ Below w10.heap.size w10 V) := by
      intro V hV
      have h1 := (hs5.below hV).convert (P := Tryd.prog) 22 5 9 Tryd.underlying22 Tryd.underlying5 Tryd.underlying9
      have h2 := ((hsd.below hb10).below hV).convert (P := Tryd.prog) 22 5 9 Tryd.underlying22 Tryd.underlying5 Tryd.underlying9
      rw [hkl, ← hSS0] at h1 h2
      refine ⟨⟨?_, h1, h2⟩, hV⟩
      have h3 : w10.cell? ⟨g, D, none⟩ = some (.slice xd 16 cd) := by rw [hb10.cell (World.block_lt_of_cell? _ _ hcd)]; exact hcd
      rw [hV.cell (World.block_lt_of_cell? _ _ h3)]; exact h3
    have HAW : Hid (∀ V, Below w10.heap.size w10 V → Calls Tryd.prog 7 #[] V fun e w' => e = .returned (.bool true) ∧ Below w10.heap.size w10 w') := by
      intro V hV
      have hbV := hbw10.trans (hV.mono hbw10.size)
      refine (awake_ok V (HF.out.below hbV) (HT.out.below hbV)).mono ?_
      rintro e w' ⟨rfl, hb⟩
      exact ⟨rfl, hV.trans (hb.mono hV.size)⟩
    have HB10 : Hid (Below w.heap.size w w10) := hbw10
    have hfv : fv = (if (B : Int) < (A : Int) then 10 else 0) := by
      have h2 := HKM.out
      rw [HFV.out]
      unfold folP
      rw [if_pos ⟨by omega, by omega, by omega, by omega, backL_len _ _ (lastL_len seed), backL_len _ _ (lastL_len seed)⟩]
      by_cases h : (B : Int) < (A : Int)
      · rw [if_pos h, if_pos h]
      · rw [if_neg h, if_neg h, if_pos]
        rw [← backL_add, show ((B : Int) - (A : Int)).toNat + (K - B) = K - A by omega]
    have wD : IntKind.i64.wrap (D : Int) = (D : Int) := by rw [IntKind.wrap_i64]; omega
    have dD0 : (0 : Int) ≤ (D : Int) := Int.natCast_nonneg _
    have dDM : (D : Int) < (M : Int) := by omega
    have dDN : (D : Int).toNat = D := Int.toNat_natCast _
    clear k8 hr5 hr hrl hs5 hb10 hbw10 hbw9 hkd hkl hSS0 hsd hcd hcc HROW H0 HCD HFV
    by_cases hAB : A ≤ B
    · rw [if_neg (by omega)] at hfv
      subst hfv
      have d1 : (A : Int) ≤ (B : Int) := by omega
      rw [show ((0 : Nat) : Int) = 0 from rfl]
      go_wp2_with fail
      refine wp_region_noPanic ?_
      refine wp_region_held (S := fun V => (V.cell? ⟨g, D, none⟩ = some (.slice xd 16 cd) ∧ (Go.convert 22 9 (.slice d5 16 c5)).run Tryd.prog V = .ok (.string SS) V ∧ (Go.convert 22 9 (.slice xd 16 cd)).run Tryd.prog V = .ok (.string SS) V) ∧ Below w10.heap.size w10 V) (by kernel_rfl) ?_
      have hS := (show (fun V => (V.cell? ⟨g, D, none⟩ = some (.slice xd 16 cd) ∧ (Go.convert 22 9 (.slice d5 16 c5)).run Tryd.prog V = .ok (.string SS) V ∧ (Go.convert 22 9 (.slice xd 16 cd)).run Tryd.prog V = .ok (.string SS) V) ∧ Below w10.heap.size w10 V) w10.drew from HSV.out _ (Below.refl _ _).drew)
      refine any_take 0 ?vran1 rfl (by kernel_rfl) (by kernel_rfl) (by kernel_rfl) (fun _ _ _ h => h) (by rfl) ?hran1 hS ?_
      case hran1 => (intro w hSw; (try dsimp only at hSw); go_split_ands; go_simp; (try with_reducible rfl))
      (try simp only [Act.put, List.setIfInBounds_toArray, List.set_cons_zero, List.set_cons_succ])
      refine any_take 1 ?vran2 rfl (by kernel_rfl) (by kernel_rfl) (by kernel_rfl) (fun _ _ _ h => h) (by rfl) ?hran2 hS ?_
      case hran2 => (intro w hSw; (try dsimp only at hSw); go_split_ands; go_simp; (try with_reducible rfl))
      (try simp only [Act.put, List.setIfInBounds_toArray, List.set_cons_zero, List.set_cons_succ])
      refine any_take 2 ?vran3 rfl (by kernel_rfl) (by kernel_rfl) (by kernel_rfl) (fun _ _ _ h => h) (by rfl) ?hran3 hS ?_
      case hran3 => (intro w hSw; (try dsimp only at hSw); go_split_ands; go_simp; (try with_reducible rfl))
      (try simp only [Act.put, List.setIfInBounds_toArray, List.set_cons_zero, List.set_cons_succ])
      refine any_take 3 ?vran4 rfl (by kernel_rfl) (by kernel_rfl) (by kernel_rfl) (fun _ _ _ h => h) (by rfl) ?hran4 hS ?_
      case hran4 => (intro w hSw; (try dsimp only at hSw); go_split_ands; go_simp; (try with_reducible rfl))
      (try simp only [Act.put, List.setIfInBounds_toArray, List.set_cons_zero, List.set_cons_succ])
      refine any_take 4 ?vran5 rfl (by kernel_rfl) (by kernel_rfl) (by kernel_rfl) (fun _ _ _ h => h) (by rfl) ?hran5 hS ?_
      case hran5 => (intro w hSw; (try dsimp only at hSw); go_split_ands; go_simp; (try with_reducible rfl))
      (try simp only [Act.put, List.setIfInBounds_toArray, List.set_cons_zero, List.set_cons_succ])
      refine any_take 5 ?vran6 rfl (by kernel_rfl) (by kernel_rfl) (by kernel_rfl) (fun _ _ _ h => h) (by rfl) ?hran6 hS ?_
      case hran6 => (intro w hSw; (try dsimp only at hSw); go_split_ands; go_simp; (try with_reducible rfl))
      (try simp only [Act.put, List.setIfInBounds_toArray, List.set_cons_zero, List.set_cons_succ])
      refine any_take 6 ?vran7 rfl (by kernel_rfl) (by kernel_rfl) (by kernel_rfl) (fun _ _ _ h => h) (by rfl) ?hran7 hS ?_
      case hran7 => (intro w hSw; (try dsimp only at hSw); go_split_ands; go_simp; (try with_reducible rfl))
      (try simp only [Act.put, List.setIfInBounds_toArray, List.set_cons_zero, List.set_cons_succ])
      refine any_take 7 ?vran8 rfl (by kernel_rfl) (by kernel_rfl) (by kernel_rfl) (fun _ _ _ h => h) (by rfl) ?hran8 hS ?_
      case hran8 => (intro w hSw; (try dsimp only at hSw); go_split_ands; go_simp; (try with_reducible rfl))
      (try simp only [Act.put, List.setIfInBounds_toArray, List.set_cons_zero, List.set_cons_succ])
      refine any_take 8 ?vran9 rfl (by kernel_rfl) (by kernel_rfl) (by kernel_rfl) (fun _ _ _ h => h) (by rfl) ?hran9 hS ?_
      case hran9 => (intro w hSw; (try dsimp only at hSw); go_split_ands; go_simp; (try with_reducible rfl))
      (try simp only [Act.put, List.setIfInBounds_toArray, List.set_cons_zero, List.set_cons_succ])
      refine any_take 9 ?vran10 rfl (by kernel_rfl) (by kernel_rfl) (by kernel_rfl) (fun _ _ _ h => h) (by rfl) ?hran10 hS ?_
      case hran10 => (intro w hSw; (try dsimp only at hSw); go_split_ands; go_simp; (try with_reducible rfl))
      (try simp only [Act.put, List.setIfInBounds_toArray, List.set_cons_zero, List.set_cons_succ])
      refine any_take 10 ?vran11 rfl (by kernel_rfl) (by kernel_rfl) (by kernel_rfl) (fun _ _ _ h => h) (by rfl) ?hran11 hS ?_
      case hran11 => (intro w hSw; (try dsimp only at hSw); go_split_ands; go_simp; (try with_reducible rfl))
      (try simp only [Act.put, List.setIfInBounds_toArray, List.set_cons_zero, List.set_cons_succ])
      refine any_skip 11 rfl (by kernel_rfl) (by kernel_rfl) (by kernel_rfl) (fun _ _ _ h => h) (by rfl) hS ?_
      (try simp only [Act.put, List.setIfInBounds_toArray, List.set_cons_zero, List.set_cons_succ])
      refine any_skip 12 rfl (by kernel_rfl) (by kernel_rfl) (by kernel_rfl) (fun _ _ _ h => h) (by rfl) hS ?_
      (try simp only [Act.put, List.setIfInBounds_toArray, List.set_cons_zero, List.set_cons_succ])
      refine any_take 13 ?vran12 rfl (by kernel_rfl) (by kernel_rfl) (by kernel_rfl) (fun _ _ _ h => h) (by rfl) ?hran12 hS ?_
      case hran12 => (intro w hSw; (try dsimp only at hSw); go_split_ands; go_simp; (try with_reducible rfl))
      (try simp only [Act.put, List.setIfInBounds_toArray, List.set_cons_zero, List.set_cons_succ])
      refine any_take 14 ?vran13 rfl (by kernel_rfl) (by kernel_rfl) (by kernel_rfl) (fun _ _ _ h => h) (by rfl) ?hran13 hS ?_
      case hran13 => (intro w hSw; (try dsimp only at hSw); go_split_ands; go_simp; (try with_reducible rfl))
      (try simp only [Act.put, List.setIfInBounds_toArray, List.set_cons_zero, List.set_cons_succ])
      refine any_take 15 ?vran14 rfl (by kernel_rfl) (by kernel_rfl) (by kernel_rfl) (fun _ _ _ h => h) (by rfl) ?hran14 hS ?_
      case hran14 => (intro w hSw; (try dsimp only at hSw); go_split_ands; go_simp; (try with_reducible rfl))
      (try simp only [Act.put, List.setIfInBounds_toArray, List.set_cons_zero, List.set_cons_succ])
      refine any_take 16 ?vran15 rfl (by kernel_rfl) (by kernel_rfl) (by kernel_rfl) (fun _ _ _ h => h) (by rfl) ?hran15 hS ?_
      case hran15 => (intro w hSw; (try dsimp only at hSw); go_split_ands; go_simp; (try with_reducible rfl))
      (try simp only [Act.put, List.setIfInBounds_toArray, List.set_cons_zero, List.set_cons_succ])
      refine any_take 17 ?vran16 rfl (by kernel_rfl) (by kernel_rfl) (by kernel_rfl) (fun _ _ _ h => h) (by rfl) ?hran16 hS ?_
      case hran16 => (intro w hSw; (try dsimp only at hSw); go_split_ands; go_simp; (try with_reducible rfl))
      (try simp only [Act.put, List.setIfInBounds_toArray, List.set_cons_zero, List.set_cons_succ])
      refine any_take 18 ?vran17 rfl (by kernel_rfl) (by kernel_rfl) (by kernel_rfl) (fun _ _ _ h => h) (by rfl) ?hran17 hS ?_
      case hran17 => (intro w hSw; (try dsimp only at hSw); go_split_ands; go_simp; (try with_reducible rfl))
      (try simp only [Act.put, List.setIfInBounds_toArray, List.set_cons_zero, List.set_cons_succ])
      refine any_take 19 ?vran18 rfl (by kernel_rfl) (by kernel_rfl) (by kernel_rfl) (fun _ _ _ h => h) (by rfl) ?hran18 hS ?_
      case hran18 => (intro w hSw; (try dsimp only at hSw); go_split_ands; go_simp; (try with_reducible rfl))
      (try simp only [Act.put, List.setIfInBounds_toArray, List.set_cons_zero, List.set_cons_succ])
      refine any_take 20 ?vran19 rfl (by kernel_rfl) (by kernel_rfl) (by kernel_rfl) (fun _ _ _ h => h) (by rfl) ?hran19 hS ?_
      case hran19 => (intro w hSw; (try dsimp only at hSw); go_split_ands; go_simp; (try with_reducible rfl))
      (try simp only [Act.put, List.setIfInBounds_toArray, List.set_cons_zero, List.set_cons_succ])
      refine any_take 21 ?vran20 rfl (by kernel_rfl) (by kernel_rfl) (by kernel_rfl) (fun _ _ _ h => h) (by rfl) ?hran20 hS ?_
      case hran20 => (intro w hSw; (try dsimp only at hSw); go_split_ands; go_simp; (try with_reducible rfl))
      (try simp only [Act.put, List.setIfInBounds_toArray, List.set_cons_zero, List.set_cons_succ])
      refine any_take 22 ?vran21 rfl (by kernel_rfl) (by kernel_rfl) (by kernel_rfl) (fun _ _ _ h => h) (by rfl) ?hran21 hS ?_
      case hran21 => (intro w hSw; (try dsimp only at hSw); go_split_ands; go_simp; (try with_reducible rfl))
      (try simp only [Act.put, List.setIfInBounds_toArray, List.set_cons_zero, List.set_cons_succ])
      refine any_take 23 ?vran22 rfl (by kernel_rfl) (by kernel_rfl) (by kernel_rfl) (fun _ _ _ h => h) (by rfl) ?hran22 hS ?_
      case hran22 => (intro w hSw; (try dsimp only at hSw); go_split_ands; go_simp; (try with_reducible rfl))
      (try simp only [Act.put, List.setIfInBounds_toArray, List.set_cons_zero, List.set_cons_succ])
      refine any_take 24 ?vran23 rfl (by kernel_rfl) (by kernel_rfl) (by kernel_rfl) (fun _ _ _ h => h) (by rfl) ?hran23 hS ?_
      case hran23 => (intro w hSw; (try dsimp only at hSw); go_split_ands; go_simp; (try with_reducible rfl))
      (try simp only [Act.put, List.setIfInBounds_toArray, List.set_cons_zero, List.set_cons_succ])
      refine any_take 25 ?vran24 rfl (by kernel_rfl) (by kernel_rfl) (by kernel_rfl) (fun _ _ _ h => h) (by rfl) ?hran24 hS ?_
      case hran24 => (intro w hSw; (try dsimp only at hSw); go_split_ands; go_simp; (try with_reducible rfl))
      (try simp only [Act.put, List.setIfInBounds_toArray, List.set_cons_zero, List.set_cons_succ])
      refine any_take 26 ?vran25 rfl (by kernel_rfl) (by kernel_rfl) (by kernel_rfl) (fun _ _ _ h => h) (by rfl) ?hran25 hS ?_
      case hran25 => (intro w hSw; (try dsimp only at hSw); go_split_ands; go_simp; (try with_reducible rfl))
      (try simp only [Act.put, List.setIfInBounds_toArray, List.set_cons_zero, List.set_cons_succ])
      refine any_take 27 ?vran26 rfl (by kernel_rfl) (by kernel_rfl) (by kernel_rfl) (fun _ _ _ h => h) (by rfl) ?hran26 hS ?_
      case hran26 => (intro w hSw; (try dsimp only at hSw); go_split_ands; go_simp; (try with_reducible rfl))
      (try simp only [Act.put, List.setIfInBounds_toArray, List.set_cons_zero, List.set_cons_succ])
      refine any_take 28 ?vran27 rfl (by kernel_rfl) (by kernel_rfl) (by kernel_rfl) (fun _ _ _ h => h) (by rfl) ?hran27 hS ?_
      case hran27 => (intro w hSw; (try dsimp only at hSw); go_split_ands; go_simp; (try with_reducible rfl))
      (try simp only [Act.put, List.setIfInBounds_toArray, List.set_cons_zero, List.set_cons_succ])
      refine any_take 29 ?vran28 rfl (by kernel_rfl) (by kernel_rfl) (by kernel_rfl) (fun _ _ _ h => h) (by rfl) ?hran28 hS ?_
      case hran28 => (intro w hSw; (try dsimp only at hSw); go_split_ands; go_simp; (try with_reducible rfl))
      (try simp only [Act.put, List.setIfInBounds_toArray, List.set_cons_zero, List.set_cons_succ])
      refine any_take 30 ?vran29 rfl (by kernel_rfl) (by kernel_rfl) (by kernel_rfl) (fun _ _ _ h => h) (by rfl) ?hran29 hS ?_
      case hran29 => (intro w hSw; (try dsimp only at hSw); go_split_ands; go_simp; (try with_reducible rfl))
      (try simp only [Act.put, List.setIfInBounds_toArray, List.set_cons_zero, List.set_cons_succ])
      refine any_take 31 ?vran30 rfl (by kernel_rfl) (by kernel_rfl) (by kernel_rfl) (fun _ _ _ h => h) (by rfl) ?hran30 hS ?_
      case hran30 => (intro w hSw; (try dsimp only at hSw); go_split_ands; go_simp; (try with_reducible rfl))
      (try simp only [Act.put, List.setIfInBounds_toArray, List.set_cons_zero, List.set_cons_succ])
      refine any_one 32 rfl (by kernel_rfl) (by rfl) (fun K hK => ?_)
      have hSS : _ ∧ Below w10.heap.size w10 _ := hS
      clear hS
      go_simp
      refine (HAW.out _ hSS.2).mono ?_
      rintro e w11 ⟨rfl, hb11⟩
      clear hSS
      refine hK.out _ _ (HSV.out _ hb11) (fun hS => ?_)
      clear hK
      (try simp only [Act.put, List.setIfInBounds_toArray, List.set_cons_zero, List.set_cons_succ])
      refine any_take 33 ?vran31 rfl (by kernel_rfl) (by kernel_rfl) (by kernel_rfl) (fun _ _ _ h => h) (by rfl) ?hran31 hS ?_
      case hran31 => (intro w hSw; (try dsimp only at hSw); go_split_ands; go_simp; (try with_reducible rfl))
      (try simp only [Act.put, List.setIfInBounds_toArray, List.set_cons_zero, List.set_cons_succ])
      refine any_take 34 ?vran32 rfl (by kernel_rfl) (by kernel_rfl) (by kernel_rfl) (fun _ _ _ h => h) (by rfl) ?hran32 hS ?_
      case hran32 => (intro w hSw; (try dsimp only at hSw); go_split_ands; go_simp; (try with_reducible rfl))
      (try simp only [Act.put, List.setIfInBounds_toArray, List.set_cons_zero, List.set_cons_succ])
      refine wpAnyH_done (by kernel_rfl) ?_ _
      refine NoPanic.normal ?_
      go_wp2
      go_ret
      exact ⟨rfl, HB10.out.trans (hb11.mono HB10.out.size)⟩
    · rw [if_pos (by omega)] at hfv
      subst hfv
      have d1 : decide ((A : Int) ≤ (B : Int)) = false := decide_eq_false (by omega)
      have d2 : decide (A ≤ B) = false := decide_eq_false hAB
      rw [show ((10 : Nat) : Int) = 10 from rfl]
      clear hAB
      go_wp2_with fail
      refine wp_region_noPanic ?_
      refine wp_region_held (S := fun V => (V.cell? ⟨g, D, none⟩ = some (.slice xd 16 cd) ∧ (Go.convert 22 9 (.slice d5 16 c5)).run Tryd.prog V = .ok (.string SS) V ∧ (Go.convert 22 9 (.slice xd 16 cd)).run Tryd.prog V = .ok (.string SS) V) ∧ Below w10.heap.size w10 V) (by kernel_rfl) ?_
      have hS := (show (fun V => (V.cell? ⟨g, D, none⟩ = some (.slice xd 16 cd) ∧ (Go.convert 22 9 (.slice d5 16 c5)).run Tryd.prog V = .ok (.string SS) V ∧ (Go.convert 22 9 (.slice xd 16 cd)).run Tryd.prog V = .ok (.string SS) V) ∧ Below w10.heap.size w10 V) w10.drew from HSV.out _ (Below.refl _ _).drew)
      refine any_take 0 ?vrbn1 rfl (by kernel_rfl) (by kernel_rfl) (by kernel_rfl) (fun _ _ _ h => h) (by rfl) ?hrbn1 hS ?_
      case hrbn1 => (intro w hSw; (try dsimp only at hSw); go_split_ands; go_simp; (try with_reducible rfl))
      (try simp only [Act.put, List.setIfInBounds_toArray, List.set_cons_zero, List.set_cons_succ])
      refine any_take 1 ?vrbn2 rfl (by kernel_rfl) (by kernel_rfl) (by kernel_rfl) (fun _ _ _ h => h) (by rfl) ?hrbn2 hS ?_
      case hrbn2 => (intro w hSw; (try dsimp only at hSw); go_split_ands; go_simp; (try with_reducible rfl))
      (try simp only [Act.put, List.setIfInBounds_toArray, List.set_cons_zero, List.set_cons_succ])
      refine any_take 2 ?vrbn3 rfl (by kernel_rfl) (by kernel_rfl) (by kernel_rfl) (fun _ _ _ h => h) (by rfl) ?hrbn3 hS ?_
      case hrbn3 => (intro w hSw; (try dsimp only at hSw); go_split_ands; go_simp; (try with_reducible rfl))
      (try simp only [Act.put, List.setIfInBounds_toArray, List.set_cons_zero, List.set_cons_succ])
      refine any_take 3 ?vrbn4 rfl (by kernel_rfl) (by kernel_rfl) (by kernel_rfl) (fun _ _ _ h => h) (by rfl) ?hrbn4 hS ?_
      case hrbn4 => (intro w hSw; (try dsimp only at hSw); go_split_ands; go_simp; (try with_reducible rfl))
      (try simp only [Act.put, List.setIfInBounds_toArray, List.set_cons_zero, List.set_cons_succ])
      refine any_take 4 ?vrbn5 rfl (by kernel_rfl) (by kernel_rfl) (by kernel_rfl) (fun _ _ _ h => h) (by rfl) ?hrbn5 hS ?_
      case hrbn5 => (intro w hSw; (try dsimp only at hSw); go_split_ands; go_simp; (try with_reducible rfl))
      (try simp only [Act.put, List.setIfInBounds_toArray, List.set_cons_zero, List.set_cons_succ])
      refine any_take 5 ?vrbn6 rfl (by kernel_rfl) (by kernel_rfl) (by kernel_rfl) (fun _ _ _ h => h) (by rfl) ?hrbn6 hS ?_
      case hrbn6 => (intro w hSw; (try dsimp only at hSw); go_split_ands; go_simp; (try with_reducible rfl))
      (try simp only [Act.put, List.setIfInBounds_toArray, List.set_cons_zero, List.set_cons_succ])
      refine any_take 6 ?vrbn7 rfl (by kernel_rfl) (by kernel_rfl) (by kernel_rfl) (fun _ _ _ h => h) (by rfl) ?hrbn7 hS ?_
      case hrbn7 => (intro w hSw; (try dsimp only at hSw); go_split_ands; go_simp; (try with_reducible rfl))
      (try simp only [Act.put, List.setIfInBounds_toArray, List.set_cons_zero, List.set_cons_succ])
      refine any_take 7 ?vrbn8 rfl (by kernel_rfl) (by kernel_rfl) (by kernel_rfl) (fun _ _ _ h => h) (by rfl) ?hrbn8 hS ?_
      case hrbn8 => (intro w hSw; (try dsimp only at hSw); go_split_ands; go_simp; (try with_reducible rfl))
      (try simp only [Act.put, List.setIfInBounds_toArray, List.set_cons_zero, List.set_cons_succ])
      refine any_take 8 ?vrbn9 rfl (by kernel_rfl) (by kernel_rfl) (by kernel_rfl) (fun _ _ _ h => h) (by rfl) ?hrbn9 hS ?_
      case hrbn9 => (intro w hSw; (try dsimp only at hSw); go_split_ands; go_simp; (try with_reducible rfl))
      (try simp only [Act.put, List.setIfInBounds_toArray, List.set_cons_zero, List.set_cons_succ])
      refine any_take 9 ?vrbn10 rfl (by kernel_rfl) (by kernel_rfl) (by kernel_rfl) (fun _ _ _ h => h) (by rfl) ?hrbn10 hS ?_
      case hrbn10 => (intro w hSw; (try dsimp only at hSw); go_split_ands; go_simp; (try with_reducible rfl))
      (try simp only [Act.put, List.setIfInBounds_toArray, List.set_cons_zero, List.set_cons_succ])
      refine any_take 10 ?vrbn11 rfl (by kernel_rfl) (by kernel_rfl) (by kernel_rfl) (fun _ _ _ h => h) (by rfl) ?hrbn11 hS ?_
      case hrbn11 => (intro w hSw; (try dsimp only at hSw); go_split_ands; go_simp; (try with_reducible rfl))
      (try simp only [Act.put, List.setIfInBounds_toArray, List.set_cons_zero, List.set_cons_succ])
      refine any_take 11 ?vrbn12 rfl (by kernel_rfl) (by kernel_rfl) (by kernel_rfl) (fun _ _ _ h => h) (by rfl) ?hrbn12 hS ?_
      case hrbn12 => (intro w hSw; (try dsimp only at hSw); go_split_ands; go_simp; (try with_reducible rfl))
      (try simp only [Act.put, List.setIfInBounds_toArray, List.set_cons_zero, List.set_cons_succ])
      refine any_take 12 ?vrbn13 rfl (by kernel_rfl) (by kernel_rfl) (by kernel_rfl) (fun _ _ _ h => h) (by rfl) ?hrbn13 hS ?_
      case hrbn13 => (intro w hSw; (try dsimp only at hSw); go_split_ands; go_simp; (try with_reducible rfl))
      (try simp only [Act.put, List.setIfInBounds_toArray, List.set_cons_zero, List.set_cons_succ])
      refine any_take 13 ?vrbn14 rfl (by kernel_rfl) (by kernel_rfl) (by kernel_rfl) (fun _ _ _ h => h) (by rfl) ?hrbn14 hS ?_
      case hrbn14 => (intro w hSw; (try dsimp only at hSw); go_split_ands; go_simp; (try with_reducible rfl))
      (try simp only [Act.put, List.setIfInBounds_toArray, List.set_cons_zero, List.set_cons_succ])
      refine any_take 14 ?vrbn15 rfl (by kernel_rfl) (by kernel_rfl) (by kernel_rfl) (fun _ _ _ h => h) (by rfl) ?hrbn15 hS ?_
      case hrbn15 => (intro w hSw; (try dsimp only at hSw); go_split_ands; go_simp; (try with_reducible rfl))
      (try simp only [Act.put, List.setIfInBounds_toArray, List.set_cons_zero, List.set_cons_succ])
      refine any_take 15 ?vrbn16 rfl (by kernel_rfl) (by kernel_rfl) (by kernel_rfl) (fun _ _ _ h => h) (by rfl) ?hrbn16 hS ?_
      case hrbn16 => (intro w hSw; (try dsimp only at hSw); go_split_ands; go_simp; (try with_reducible rfl))
      (try simp only [Act.put, List.setIfInBounds_toArray, List.set_cons_zero, List.set_cons_succ])
      refine any_take 16 ?vrbn17 rfl (by kernel_rfl) (by kernel_rfl) (by kernel_rfl) (fun _ _ _ h => h) (by rfl) ?hrbn17 hS ?_
      case hrbn17 => (intro w hSw; (try dsimp only at hSw); go_split_ands; go_simp; (try with_reducible rfl))
      (try simp only [Act.put, List.setIfInBounds_toArray, List.set_cons_zero, List.set_cons_succ])
      refine any_take 17 ?vrbn18 rfl (by kernel_rfl) (by kernel_rfl) (by kernel_rfl) (fun _ _ _ h => h) (by rfl) ?hrbn18 hS ?_
      case hrbn18 => (intro w hSw; (try dsimp only at hSw); go_split_ands; go_simp; (try with_reducible rfl))
      (try simp only [Act.put, List.setIfInBounds_toArray, List.set_cons_zero, List.set_cons_succ])
      refine any_take 18 ?vrbn19 rfl (by kernel_rfl) (by kernel_rfl) (by kernel_rfl) (fun _ _ _ h => h) (by rfl) ?hrbn19 hS ?_
      case hrbn19 => (intro w hSw; (try dsimp only at hSw); go_split_ands; go_simp; (try with_reducible rfl))
      (try simp only [Act.put, List.setIfInBounds_toArray, List.set_cons_zero, List.set_cons_succ])
      refine any_take 19 ?vrbn20 rfl (by kernel_rfl) (by kernel_rfl) (by kernel_rfl) (fun _ _ _ h => h) (by rfl) ?hrbn20 hS ?_
      case hrbn20 => (intro w hSw; (try dsimp only at hSw); go_split_ands; go_simp; (try with_reducible rfl))
      (try simp only [Act.put, List.setIfInBounds_toArray, List.set_cons_zero, List.set_cons_succ])
      refine any_take 20 ?vrbn21 rfl (by kernel_rfl) (by kernel_rfl) (by kernel_rfl) (fun _ _ _ h => h) (by rfl) ?hrbn21 hS ?_
      case hrbn21 => (intro w hSw; (try dsimp only at hSw); go_split_ands; go_simp; (try with_reducible rfl))
      (try simp only [Act.put, List.setIfInBounds_toArray, List.set_cons_zero, List.set_cons_succ])
      refine any_take 21 ?vrbn22 rfl (by kernel_rfl) (by kernel_rfl) (by kernel_rfl) (fun _ _ _ h => h) (by rfl) ?hrbn22 hS ?_
      case hrbn22 => (intro w hSw; (try dsimp only at hSw); go_split_ands; go_simp; (try with_reducible rfl))
      (try simp only [Act.put, List.setIfInBounds_toArray, List.set_cons_zero, List.set_cons_succ])
      refine any_take 22 ?vrbn23 rfl (by kernel_rfl) (by kernel_rfl) (by kernel_rfl) (fun _ _ _ h => h) (by rfl) ?hrbn23 hS ?_
      case hrbn23 => (intro w hSw; (try dsimp only at hSw); go_split_ands; go_simp; (try with_reducible rfl))
      (try simp only [Act.put, List.setIfInBounds_toArray, List.set_cons_zero, List.set_cons_succ])
      refine any_take 23 ?vrbn24 rfl (by kernel_rfl) (by kernel_rfl) (by kernel_rfl) (fun _ _ _ h => h) (by rfl) ?hrbn24 hS ?_
      case hrbn24 => (intro w hSw; (try dsimp only at hSw); go_split_ands; go_simp; (try with_reducible rfl))
      (try simp only [Act.put, List.setIfInBounds_toArray, List.set_cons_zero, List.set_cons_succ])
      refine any_take 24 ?vrbn25 rfl (by kernel_rfl) (by kernel_rfl) (by kernel_rfl) (fun _ _ _ h => h) (by rfl) ?hrbn25 hS ?_
      case hrbn25 => (intro w hSw; (try dsimp only at hSw); go_split_ands; go_simp; (try with_reducible rfl))
      (try simp only [Act.put, List.setIfInBounds_toArray, List.set_cons_zero, List.set_cons_succ])
      refine any_take 25 ?vrbn26 rfl (by kernel_rfl) (by kernel_rfl) (by kernel_rfl) (fun _ _ _ h => h) (by rfl) ?hrbn26 hS ?_
      case hrbn26 => (intro w hSw; (try dsimp only at hSw); go_split_ands; go_simp; (try with_reducible rfl))
      (try simp only [Act.put, List.setIfInBounds_toArray, List.set_cons_zero, List.set_cons_succ])
      refine any_take 26 ?vrbn27 rfl (by kernel_rfl) (by kernel_rfl) (by kernel_rfl) (fun _ _ _ h => h) (by rfl) ?hrbn27 hS ?_
      case hrbn27 => (intro w hSw; (try dsimp only at hSw); go_split_ands; go_simp; (try with_reducible rfl))
      (try simp only [Act.put, List.setIfInBounds_toArray, List.set_cons_zero, List.set_cons_succ])
      refine any_take 27 ?vrbn28 rfl (by kernel_rfl) (by kernel_rfl) (by kernel_rfl) (fun _ _ _ h => h) (by rfl) ?hrbn28 hS ?_
      case hrbn28 => (intro w hSw; (try dsimp only at hSw); go_split_ands; go_simp; (try with_reducible rfl))
      (try simp only [Act.put, List.setIfInBounds_toArray, List.set_cons_zero, List.set_cons_succ])
      refine any_take 28 ?vrbn29 rfl (by kernel_rfl) (by kernel_rfl) (by kernel_rfl) (fun _ _ _ h => h) (by rfl) ?hrbn29 hS ?_
      case hrbn29 => (intro w hSw; (try dsimp only at hSw); go_split_ands; go_simp; (try with_reducible rfl))
      (try simp only [Act.put, List.setIfInBounds_toArray, List.set_cons_zero, List.set_cons_succ])
      refine any_take 29 ?vrbn30 rfl (by kernel_rfl) (by kernel_rfl) (by kernel_rfl) (fun _ _ _ h => h) (by rfl) ?hrbn30 hS ?_
      case hrbn30 => (intro w hSw; (try dsimp only at hSw); go_split_ands; go_simp; (try with_reducible rfl))
      (try simp only [Act.put, List.setIfInBounds_toArray, List.set_cons_zero, List.set_cons_succ])
      refine any_take 30 ?vrbn31 rfl (by kernel_rfl) (by kernel_rfl) (by kernel_rfl) (fun _ _ _ h => h) (by rfl) ?hrbn31 hS ?_
      case hrbn31 => (intro w hSw; (try dsimp only at hSw); go_split_ands; go_simp; (try with_reducible rfl))
      (try simp only [Act.put, List.setIfInBounds_toArray, List.set_cons_zero, List.set_cons_succ])
      refine any_take 31 ?vrbn32 rfl (by kernel_rfl) (by kernel_rfl) (by kernel_rfl) (fun _ _ _ h => h) (by rfl) ?hrbn32 hS ?_
      case hrbn32 => (intro w hSw; (try dsimp only at hSw); go_split_ands; go_simp; (try with_reducible rfl))
      (try simp only [Act.put, List.setIfInBounds_toArray, List.set_cons_zero, List.set_cons_succ])
      refine any_one 32 rfl (by kernel_rfl) (by rfl) (fun K hK => ?_)
      have hSS : _ ∧ Below w10.heap.size w10 _ := hS
      clear hS
      go_simp
      refine (HAW.out _ hSS.2).mono ?_
      rintro e w11 ⟨rfl, hb11⟩
      clear hSS
      refine hK.out _ _ (HSV.out _ hb11) (fun hS => ?_)
      clear hK
      (try simp only [Act.put, List.setIfInBounds_toArray, List.set_cons_zero, List.set_cons_succ])
      refine any_take 33 ?vrbn33 rfl (by kernel_rfl) (by kernel_rfl) (by kernel_rfl) (fun _ _ _ h => h) (by rfl) ?hrbn33 hS ?_
      case hrbn33 => (intro w hSw; (try dsimp only at hSw); go_split_ands; go_simp; (try with_reducible rfl))
      (try simp only [Act.put, List.setIfInBounds_toArray, List.set_cons_zero, List.set_cons_succ])
      refine any_take 34 ?vrbn34 rfl (by kernel_rfl) (by kernel_rfl) (by kernel_rfl) (fun _ _ _ h => h) (by rfl) ?hrbn34 hS ?_
      case hrbn34 => (intro w hSw; (try dsimp only at hSw); go_split_ands; go_simp; (try with_reducible rfl))
      (try simp only [Act.put, List.setIfInBounds_toArray, List.set_cons_zero, List.set_cons_succ])
      refine wpAnyH_done (by kernel_rfl) ?_ _
      refine NoPanic.normal ?_
      go_wp2
      go_ret
      exact ⟨rfl, HB10.out.trans (hb11.mono HB10.out.size)⟩
  · have k1 := all_any w a ca seed (K : Int) hTab.1 hTab.2 ha
    have hP : allP seed (K : Int) = ([], 1) := by unfold allP; rw [if_neg (fun h => h16 h.1)]
    rw [hP] at k1
    have dd : ((seed.length : Int) != 16) = true := by simp; omega
    clear hTab ha wx wy wz bx bY bz hR hK hA hB hM h16 hP
    go_enter Tryd.func5, Tryd.ntmps5
    go_wp2_with fail
    refine k1.mono ?_
    rintro e w1 ⟨d1, c1, rfl, hs1, hb1⟩
    have haw := awake_ok w1 (HF.out.below hb1) (HT.out.below hb1)
    clear k1 hs1
    go_wp2_with fail
    refine haw.mono ?_
    rintro e w2 ⟨rfl, hb2⟩
    clear haw
    go_wp2
    go_ret
    exact ⟨rfl, hb1.trans (hb2.mono hb1.size)⟩
end Go.Proofs.YtinecobgogbdjaaDoor
