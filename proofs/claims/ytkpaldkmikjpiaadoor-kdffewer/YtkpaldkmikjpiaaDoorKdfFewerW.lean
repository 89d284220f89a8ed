/-
  The walk of KdfFewer, out of what package kdf must say.
-/
import Derived.Test.YtkpaldkmikjpiaaDoorKdfLaws
import Derived.Deep.RegionHeld3
namespace Go.Proofs.YtkpaldkmikjpiaaDoor
open Go.ChangeShapes Go.WideShapes Go.ChangeAt Go.RowKit

theorem expandP_ok (key info : List UInt8) (m : Nat) (hm : m ≤ 8160) (hi : info.length ≤ 1000) (hk : key.length ≤ 1048576) : expandP key info (m : Int) = (expandL key info m, 0) := by
  unfold expandP; rw [if_neg (by omega), if_neg (by omega)]; simp

set_option maxHeartbeats 3200000 in
set_option maxRecDepth 20000 in
theorem fewer_walk' (HEX : KexpandOk) (HAW : KawakeOk) (a : Option Addr) (ca : Nat) (key : List UInt8) (b : Option Addr) (cb : Nat) (bs : List UInt8) (y z : Int) (w : World) (hTab : FTab w ∧ KTab w) (ha : Sees w a ca key) (_ : ca ≤ 140737488351232) (hb : Sees w b cb bs) (_ : cb ≤ 140737488351232) (wy : (Lit.int .u16 y).wf = true) (wz : (Lit.int .u16 z).wf = true) :
    Calls Tryd.prog 7 #[.slice a key.length ca, .slice b bs.length cb, .int .u16 y, .int .u16 z] w fun e w' => e = .returned (.bool true) ∧ Below w.heap.size w w' := by
  obtain ⟨n0, rfl, hn0⟩ : ∃ n : Nat, y = n ∧ n < 65536 := ⟨y.toNat, by have := bounds_u16 wy; omega, by have := bounds_u16 wy; omega⟩
  obtain ⟨m0, rfl, hm0⟩ : ∃ n : Nat, z = n ∧ n < 65536 := ⟨z.toNat, by have := bounds_u16 wz; omega, by have := bounds_u16 wz; omega⟩
  obtain ⟨n, hn⟩ : ∃ n, n = n0 % 300 := ⟨_, rfl⟩
  obtain ⟨m, hm⟩ : ∃ n, n = m0 % 300 := ⟨_, rfl⟩
  have en : (n0 : Int) % 300 = (n : Int) := by omega
  have em : (m0 : Int) % 300 = (m : Int) := by omega
  have en2 : (n0 : Int).tmod 300 = (n : Int) := by rw [Int.tmod_eq_emod_of_nonneg (by omega)]; exact en
  have em2 : (m0 : Int).tmod 300 = (m : Int) := by rw [Int.tmod_eq_emod_of_nonneg (by omega)]; exact em
  have hn3 : n < 300 := by omega
  have hm3 : m < 300 := by omega
  clear wy wz hn hm
  by_cases hbig : 1000 < key.length ∨ 1000 < bs.length
  · have haw := HAW w hTab.1 hTab.2
    by_cases h1 : 1000 < key.length
    · clear hbig hTab ha hb
      go_enter Tryd.func7, Tryd.ntmps7
      go_wp2_with fail
      refine haw.mono ?_
      rintro e w' ⟨rfl, hbl⟩
      go_wp2
      go_ret
      exact ⟨rfl, hbl⟩
    · have h2 : 1000 < bs.length := by omega
      have d1 : decide ((1000 : Int) < (key.length : Int)) = false := by simp; omega
      clear hbig hTab ha hb
      go_enter Tryd.func7, Tryd.ntmps7
      go_wp2_with fail
      refine haw.mono ?_
      rintro e w' ⟨rfl, hbl⟩
      go_wp2
      go_ret
      exact ⟨rfl, hbl⟩
  have d1 : decide ((1000 : Int) < (key.length : Int)) = false := by simp; omega
  have d2 : decide ((1000 : Int) < (bs.length : Int)) = false := by simp; omega
  have HF : Hid (FTab w) := hTab.1
  have HK : Hid (KTab w) := hTab.2
  have HA : Hid (Sees w a ca key) := ha
  have HB : Hid (Sees w b cb bs) := hb
  have hk : key.length ≤ 2000 := by omega
  have hk1 : key.length ≤ 1000 := by omega
  have hl1 : bs.length ≤ 1000 := by omega
  clear hbig
  rcases Nat.lt_trichotomy n m with hle | hle | hle
  · have q1 : (n : Int) < (m : Int) := by omega
    have q2 : ¬ ((m : Int) < (n : Int)) := by omega
    have q3 : ¬ (m < n) := by omega
    have h1 := (HEX w a ca key b cb bs (n : Int) hTab.1 hTab.2 ha hb hk).mono (fun _ _ h => h.tells)
    have H2 : Hid (∀ W, Below w.heap.size w W → Calls Tryd.prog 10 #[.slice a key.length ca, .slice b bs.length cb, .int .i64 (m : Int)] W fun e w' => Tells W w' e (expandP key bs (m : Int)).1 (expandP key bs (m : Int)).2) := fun W hW =>
      (HEX W a ca key b cb bs (m : Int) (HF.out.below hW) (HK.out.below hW) (HA.out.below hW) (HB.out.below hW) hk).mono (fun _ _ h => h.tells)
    rw [expandP_ok key bs n (by omega) (by omega) (by omega)] at h1
    rw [expandP_ok key bs m (by omega) (by omega) (by omega)] at H2
    obtain ⟨X, hX⟩ : ∃ X, X = expandL key bs n := ⟨_, rfl⟩
    obtain ⟨Y, hY⟩ : ∃ Y, Y = expandL key bs m := ⟨_, rfl⟩
    have hXl : X.length = n := by rw [hX]; exact expandL_length _ _ _
    have hYl : Y.length = m := by rw [hY]; exact expandL_length _ _ _
    have hXY : Y.take n = X := by rw [hX, hY]; exact expandL_fewer key bs n m (by omega)
    dsimp only at h1 H2
    rw [← hX, ] at h1
    rw [← hY] at H2
    have HXl : Hid (X.length = n) := hXl
    have HYl : Hid (Y.length = m) := hYl
    have HXY : Hid (Y.take n = X) := hXY
    clear hX hY hXl hYl hXY hTab ha hb
    go_enter Tryd.func7, Tryd.ntmps7
    go_wp2_with fail
    all_goals first | (exfalso; omega) | skip
    refine h1.mono ?_
    rintro e w1 ⟨x1, c1, rfl, hs1, hb1⟩
    rw [HXl.out]
    have h2 := H2.out w1 hb1
    clear h1
    go_wp2_with fail
    all_goals first | (exfalso; omega) | skip
    refine h2.mono ?_
    rintro e w2 ⟨x2, c2, rfl, hs2, hb2⟩
    rw [HYl.out]
    have hb2w := hb1.trans (hb2.mono hb1.size)
    have e1 := (hs1.below hb2).convert (P := Tryd.prog) 22 5 9 Tryd.underlying22 Tryd.underlying5 Tryd.underlying9
    have e2 := (hs2.take n).convert (P := Tryd.prog) 22 5 9 Tryd.underlying22 Tryd.underlying5 Tryd.underlying9
    have hc2 := hs2.fits
    rw [HXY.out, HXl.out] at e2
    rw [HXl.out] at e1
    rw [HYl.out] at hc2
    have HAW2 : Hid (Calls Tryd.prog 9 #[] w2.drew fun e w' => e = .returned (.bool true) ∧ Below w2.heap.size w2 w') :=
      (HAW w2.drew (HF.out.below hb2w.drew) (HK.out.below hb2w.drew)).mono (fun _ _ ⟨h, hb⟩ => ⟨h, (Below.refl w2.heap.size w2).drew.trans hb⟩)
    have HKeep : Hid (∀ w', Below w2.heap.size w2 w' → (Go.convert 22 9 (.slice x1 n c1)).run Tryd.prog w' = .ok (.string ⟨X.toArray⟩) w' ∧ (Go.convert 22 9 (.slice x2 n c2)).run Tryd.prog w' = .ok (.string ⟨X.toArray⟩) w') := fun w' hw' => by
      have t1 := ((hs1.below hb2).below hw').convert (P := Tryd.prog) 22 5 9 Tryd.underlying22 Tryd.underlying5 Tryd.underlying9
      have t2 := ((hs2.take n).below hw').convert (P := Tryd.prog) 22 5 9 Tryd.underlying22 Tryd.underlying5 Tryd.underlying9
      rw [HXl.out] at t1
      rw [HXY.out, HXl.out] at t2
      exact ⟨t1, t2⟩
    clear h2 H2 hs1 hs2
    have g0 : (0 : Int) ≤ (n : Int) := Int.natCast_nonneg _
    have g1 : (n : Int) ≤ (c2 : Int) := by omega
    have g2 : (n : Int) ≤ (m : Int) := by omega
    go_wp2
    go_region_held3 (fun w' => (Go.convert 22 9 (.slice x1 n c1)).run Tryd.prog w' = .ok (.string ⟨X.toArray⟩) w' ∧ (Go.convert 22 9 (.slice x2 n c2)).run Tryd.prog w' = .ok (.string ⟨X.toArray⟩) w')
      (first | go_keep | (refine HKeep.out _ ?_; (first | with_reducible exact hb9 | exact (Below.refl _ _).drew)))
      (first | (go_at_call 9; refine HAW2.out.mono ?_; rintro e w9 ⟨rfl, hb9⟩))
    all_goals
      go_wp2
      go_ret
      exact ⟨rfl, hb2w.trans (hb9.mono hb2w.size)⟩
  · subst hle
    have h1 := (HEX w a ca key b cb bs (n : Int) hTab.1 hTab.2 ha hb hk).mono (fun _ _ h => h.tells)
    have H2 : Hid (∀ W, Below w.heap.size w W → Calls Tryd.prog 10 #[.slice a key.length ca, .slice b bs.length cb, .int .i64 (n : Int)] W fun e w' => Tells W w' e (expandP key bs (n : Int)).1 (expandP key bs (n : Int)).2) := fun W hW =>
      (HEX W a ca key b cb bs (n : Int) (HF.out.below hW) (HK.out.below hW) (HA.out.below hW) (HB.out.below hW) hk).mono (fun _ _ h => h.tells)
    rw [expandP_ok key bs n (by omega) (by omega) (by omega)] at h1
    rw [expandP_ok key bs n (by omega) (by omega) (by omega)] at H2
    obtain ⟨X, hX⟩ : ∃ X, X = expandL key bs n := ⟨_, rfl⟩
    obtain ⟨Y, hY⟩ : ∃ Y, Y = expandL key bs n := ⟨_, rfl⟩
    have hXl : X.length = n := by rw [hX]; exact expandL_length _ _ _
    have hYl : Y.length = n := by rw [hY]; exact expandL_length _ _ _
    have hXY : Y.take n = X := by rw [hX, hY]; exact expandL_fewer key bs n n (by omega)
    dsimp only at h1 H2
    rw [← hX, ] at h1
    rw [← hY] at H2
    have HXl : Hid (X.length = n) := hXl
    have HYl : Hid (Y.length = n) := hYl
    have HXY : Hid (Y.take n = X) := hXY
    clear hX hY hXl hYl hXY hTab ha hb
    go_enter Tryd.func7, Tryd.ntmps7
    go_wp2_with fail
    all_goals first | (exfalso; omega) | skip
    refine h1.mono ?_
    rintro e w1 ⟨x1, c1, rfl, hs1, hb1⟩
    rw [HXl.out]
    have h2 := H2.out w1 hb1
    clear h1
    go_wp2_with fail
    all_goals first | (exfalso; omega) | skip
    refine h2.mono ?_
    rintro e w2 ⟨x2, c2, rfl, hs2, hb2⟩
    rw [HYl.out]
    have hb2w := hb1.trans (hb2.mono hb1.size)
    have e1 := (hs1.below hb2).convert (P := Tryd.prog) 22 5 9 Tryd.underlying22 Tryd.underlying5 Tryd.underlying9
    have e2 := (hs2.take n).convert (P := Tryd.prog) 22 5 9 Tryd.underlying22 Tryd.underlying5 Tryd.underlying9
    have hc2 := hs2.fits
    rw [HXY.out, HXl.out] at e2
    rw [HXl.out] at e1
    rw [HYl.out] at hc2
    have HAW2 : Hid (Calls Tryd.prog 9 #[] w2.drew fun e w' => e = .returned (.bool true) ∧ Below w2.heap.size w2 w') :=
      (HAW w2.drew (HF.out.below hb2w.drew) (HK.out.below hb2w.drew)).mono (fun _ _ ⟨h, hb⟩ => ⟨h, (Below.refl w2.heap.size w2).drew.trans hb⟩)
    have HKeep : Hid (∀ w', Below w2.heap.size w2 w' → (Go.convert 22 9 (.slice x1 n c1)).run Tryd.prog w' = .ok (.string ⟨X.toArray⟩) w' ∧ (Go.convert 22 9 (.slice x2 n c2)).run Tryd.prog w' = .ok (.string ⟨X.toArray⟩) w') := fun w' hw' => by
      have t1 := ((hs1.below hb2).below hw').convert (P := Tryd.prog) 22 5 9 Tryd.underlying22 Tryd.underlying5 Tryd.underlying9
      have t2 := ((hs2.take n).below hw').convert (P := Tryd.prog) 22 5 9 Tryd.underlying22 Tryd.underlying5 Tryd.underlying9
      rw [HXl.out] at t1
      rw [HXY.out, HXl.out] at t2
      exact ⟨t1, t2⟩
    clear h2 H2 hs1 hs2
    have g0 : (0 : Int) ≤ (n : Int) := Int.natCast_nonneg _
    have g1 : (n : Int) ≤ (c2 : Int) := by omega
    have g2 : (n : Int) ≤ (n : Int) := by omega
    go_wp2
    go_region_held3 (fun w' => (Go.convert 22 9 (.slice x1 n c1)).run Tryd.prog w' = .ok (.string ⟨X.toArray⟩) w' ∧ (Go.convert 22 9 (.slice x2 n c2)).run Tryd.prog w' = .ok (.string ⟨X.toArray⟩) w')
      (first | go_keep | (refine HKeep.out _ ?_; (first | with_reducible exact hb9 | exact (Below.refl _ _).drew)))
      (first | (go_at_call 9; refine HAW2.out.mono ?_; rintro e w9 ⟨rfl, hb9⟩))
    all_goals
      go_wp2
      go_ret
      exact ⟨rfl, hb2w.trans (hb9.mono hb2w.size)⟩
  · have q1 : (m : Int) < (n : Int) := by omega
    have q2 : ¬ ((n : Int) < (m : Int)) := by omega
    have q3 : ¬ (n < m) := by omega
    have h1 := (HEX w a ca key b cb bs (m : Int) hTab.1 hTab.2 ha hb hk).mono (fun _ _ h => h.tells)
    have H2 : Hid (∀ W, Below w.heap.size w W → Calls Tryd.prog 10 #[.slice a key.length ca, .slice b bs.length cb, .int .i64 (n : Int)] W fun e w' => Tells W w' e (expandP key bs (n : Int)).1 (expandP key bs (n : Int)).2) := fun W hW =>
      (HEX W a ca key b cb bs (n : Int) (HF.out.below hW) (HK.out.below hW) (HA.out.below hW) (HB.out.below hW) hk).mono (fun _ _ h => h.tells)
    rw [expandP_ok key bs m (by omega) (by omega) (by omega)] at h1
    rw [expandP_ok key bs n (by omega) (by omega) (by omega)] at H2
    obtain ⟨X, hX⟩ : ∃ X, X = expandL key bs m := ⟨_, rfl⟩
    obtain ⟨Y, hY⟩ : ∃ Y, Y = expandL key bs n := ⟨_, rfl⟩
    have hXl : X.length = m := by rw [hX]; exact expandL_length _ _ _
    have hYl : Y.length = n := by rw [hY]; exact expandL_length _ _ _
    have hXY : Y.take m = X := by rw [hX, hY]; exact expandL_fewer key bs m n (by omega)
    dsimp only at h1 H2
    rw [← hX, ] at h1
    rw [← hY] at H2
    have HXl : Hid (X.length = m) := hXl
    have HYl : Hid (Y.length = n) := hYl
    have HXY : Hid (Y.take m = X) := hXY
    clear hX hY hXl hYl hXY hTab ha hb
    go_enter Tryd.func7, Tryd.ntmps7
    go_wp2_with fail
    all_goals first | (exfalso; omega) | skip
    refine h1.mono ?_
    rintro e w1 ⟨x1, c1, rfl, hs1, hb1⟩
    rw [HXl.out]
    have h2 := H2.out w1 hb1
    clear h1
    go_wp2_with fail
    all_goals first | (exfalso; omega) | skip
    refine h2.mono ?_
    rintro e w2 ⟨x2, c2, rfl, hs2, hb2⟩
    rw [HYl.out]
    have hb2w := hb1.trans (hb2.mono hb1.size)
    have e1 := (hs1.below hb2).convert (P := Tryd.prog) 22 5 9 Tryd.underlying22 Tryd.underlying5 Tryd.underlying9
    have e2 := (hs2.take m).convert (P := Tryd.prog) 22 5 9 Tryd.underlying22 Tryd.underlying5 Tryd.underlying9
    have hc2 := hs2.fits
    rw [HXY.out, HXl.out] at e2
    rw [HXl.out] at e1
    rw [HYl.out] at hc2
    have HAW2 : Hid (Calls Tryd.prog 9 #[] w2.drew fun e w' => e = .returned (.bool true) ∧ Below w2.heap.size w2 w') :=
      (HAW w2.drew (HF.out.below hb2w.drew) (HK.out.below hb2w.drew)).mono (fun _ _ ⟨h, hb⟩ => ⟨h, (Below.refl w2.heap.size w2).drew.trans hb⟩)
    have HKeep : Hid (∀ w', Below w2.heap.size w2 w' → (Go.convert 22 9 (.slice x1 m c1)).run Tryd.prog w' = .ok (.string ⟨X.toArray⟩) w' ∧ (Go.convert 22 9 (.slice x2 m c2)).run Tryd.prog w' = .ok (.string ⟨X.toArray⟩) w') := fun w' hw' => by
      have t1 := ((hs1.below hb2).below hw').convert (P := Tryd.prog) 22 5 9 Tryd.underlying22 Tryd.underlying5 Tryd.underlying9
      have t2 := ((hs2.take m).below hw').convert (P := Tryd.prog) 22 5 9 Tryd.underlying22 Tryd.underlying5 Tryd.underlying9
      rw [HXl.out] at t1
      rw [HXY.out, HXl.out] at t2
      exact ⟨t1, t2⟩
    clear h2 H2 hs1 hs2
    have g0 : (0 : Int) ≤ (m : Int) := Int.natCast_nonneg _
    have g1 : (m : Int) ≤ (c2 : Int) := by omega
    have g2 : (m : Int) ≤ (n : Int) := by omega
    go_wp2
    go_region_held3 (fun w' => (Go.convert 22 9 (.slice x1 m c1)).run Tryd.prog w' = .ok (.string ⟨X.toArray⟩) w' ∧ (Go.convert 22 9 (.slice x2 m c2)).run Tryd.prog w' = .ok (.string ⟨X.toArray⟩) w')
      (first | go_keep | (refine HKeep.out _ ?_; (first | with_reducible exact hb9 | exact (Below.refl _ _).drew)))
      (first | (go_at_call 9; refine HAW2.out.mono ?_; rintro e w9 ⟨rfl, hb9⟩))
    all_goals
      go_wp2
      go_ret
      exact ⟨rfl, hb2w.trans (hb9.mono hb2w.size)⟩
end Go.Proofs.YtkpaldkmikjpiaaDoor
