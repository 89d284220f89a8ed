/-
  The walk of PebblePlays.
-/
import Derived.Test.YtleedppcandbkaaDoorPebG
import Derived.Test.YtleedppcandbkaaDoorChainR
namespace Go.Proofs.YtleedppcandbkaaDoor
open Go.ChangeShapes Go.WideShapes Go.ChangeAt Go.RowKit

theorem Full.below {w w' : World} {h n : Nat} {key : List UInt8} (hf : Full w h n key) (hb : Below w.heap.size w w') : Full w' h n key := by
  obtain ⟨s, hs, hg, ht⟩ := hf
  exact ⟨s, hs, by rw [hb.block _ (Array.getElem?_eq_some_iff.1 hg).1]; exact hg, ht.below hb⟩
/-- A list of keys abides what a pebble does. -/
theorem Full.peb {w w' : World} {h n : Nat} {key : List UInt8} (hf : Full w h n key) {g b cap : Nat} {v0 : Value} {key' : List UInt8} {n' told steps : Nat} {T : List Stone} (hP : Peb w g b cap v0 key' n' told steps T) (ha : Apart (fun k => k = g ∨ k = b) w w') : Full w' h n key := by
  obtain ⟨s, hs, hg, ht⟩ := hf
  obtain ⟨cur, hrow, _⟩ := hP.stack.row
  refine ⟨s, hs, ?_, fun i p hi => hP.sees ha (ht i p hi)⟩
  rw [ha.block _ (Array.getElem?_eq_some_iff.1 hg).1 ?_]
  · exact hg
  · rintro (rfl | rfl)
    · rw [hP.obj] at hg; simp only [Option.some.injEq, Obj.cells.injEq] at hg; exact absurd hg.2.1 (by decide)
    · rw [hrow] at hg; simp only [Option.some.injEq, Obj.cells.injEq] at hg; exact absurd hg.2.1 (by decide)
theorem Full.key {w : World} {h n : Nat} {key : List UInt8} (hf : Full w h n key) (hk : key.length = 16) (hn : n ≤ 256) (i : Nat) (hi : i ≤ n) : ∃ x cx, w.cell? ⟨h, i, none⟩ = some (.slice x 16 cx) ∧ Sees w x cx (backL (n - i) key) := by
  obtain ⟨b, off, he, x, cx, hc, hs⟩ := (hf.rows hk hn).at' i _ (allL_get n key i hi)
  simp only [Option.some.injEq, Addr.mk.injEq, and_true] at he
  obtain ⟨rfl, rfl⟩ := he
  rw [backL_len _ _ hk, Nat.zero_add] at hc
  exact ⟨x, cx, hc, hs⟩

set_option maxHeartbeats 3200000 in
set_option maxRecDepth 20000 in
theorem plays_walk (a : Option Addr) (ca : Nat) (seed : List UInt8) (n y : Int) (w : World) (hTab : FTab w ∧ KTab w) (ha : Sees w a ca seed) (_ : ca ≤ 140737488351232) (_wn : (Lit.int .i64 n).wf = true) (wy : (Lit.int .u8 y).wf = true) :
    Calls Tryd.prog 3 #[.slice a seed.length ca, .int .i64 n, .int .u8 y] w fun e w' => e = .returned (.bool true) ∧ Below w.heap.size w w' := by
  have HF : Hid (FTab w) := hTab.1
  have HT : Hid (KTab w) := hTab.2
  have HA : Hid (Sees w a ca seed) := ha
  have HAW : Hid (∀ V, Below w.heap.size w V → Calls Tryd.prog 7 #[] V fun e w' => e = .returned (.bool true) ∧ Below w.heap.size w w') := fun V hV => by
    refine (awake_ok V (HF.out.below hV) (HT.out.below hV)).mono ?_
    rintro e w' ⟨rfl, hb⟩
    exact ⟨rfl, hV.trans (hb.mono hV.size)⟩
  by_cases hbig : 60 < n ∧ n ≤ 256
  · obtain ⟨b1, b2⟩ := hbig
    clear hTab ha wy
    go_enter Tryd.func3, Tryd.ntmps3
    go_wp2_with fail
    refine (HAW.out _ (Below.refl _ _)).mono ?_
    rintro e w3 ⟨rfl, hb3⟩
    go_wp2
    go_ret
    exact ⟨rfl, hb3⟩
  · have hcut : Hid (¬ (60 < n ∧ n ≤ 256)) := hbig
    have bY := bounds_u8 wy
    obtain ⟨Y, rfl⟩ : ∃ Y : Nat, y = (Y : Int) := ⟨y.toNat, by omega⟩
    by_cases hc : seed.length = 16 ∧ 1 ≤ n ∧ n ≤ 256
    · obtain ⟨h16, h1, h2⟩ := hc
      obtain ⟨m, rfl⟩ : ∃ m : Nat, n = (m : Int) := ⟨n.toNat, by omega⟩
      have hm60 : m ≤ 60 := by omega
      have HM1 : Hid (1 ≤ m) := by show 1 ≤ m; omega
      have k1 := new_ok w a ca seed m hTab.1 hTab.2 ha h16 HM1.out (by omega)
      have d60 : ¬ (60 < m) := by omega
      obtain ⟨N, hN⟩ : ∃ N, N = m + 1 := ⟨_, rfl⟩
      obtain ⟨M, hM⟩ : ∃ M, M = Y % 70 := ⟨_, rfl⟩
      have hM1 : ((Y : Int)).tmod 70 = (M : Int) := by rw [hM]; exact (Int.ofNat_tmod Y 70).symm
      have hM2 : (Y : Int) % 70 = (M : Int) := by omega
      have hM70 : M < 70 := by omega
      have hY : Y < 256 := by omega
      have HN : Hid (N = m + 1) := hN
      have hN61 : N ≤ 61 := by omega
      have H16 : Hid (seed.length = 16) := h16
      rw [h16]
      clear hTab ha wy bY hM h16 h1 h2 hbig hN
      go_enter Tryd.func3, Tryd.ntmps3
      go_wp2_with fail
      refine k1.mono ?_
      rintro e w1 ⟨g, b, cap, cd, cc, T, rfl, hB⟩
      have hrun := hB.run
      have k2 := rall_ok w1 a ca seed H16.out m HM1.out (by omega) (HA.out.below hB.bel)
      rw [← HN.out] at k2
      have HR1 : Hid (Run w w1 g b cap cd cc (lastL seed) m 0 0 T) := hrun
      clear k1 hB hrun
      go_wp2_with fail
      refine k2.mono ?_
      rintro e w2 ⟨h, rfl, hf2, hb2⟩
      clear k2
      have hr2 := HR1.out.below hb2
      obtain ⟨x0, cx0, hc0, hs0⟩ := hf2.key (lastL_len seed) (by omega) 0 (by omega)
      rw [Nat.sub_zero] at hs0
      have dN0 : ((N : Int) == 0) = false := by have := HN.out; simp; omega
      have dN1 : 0 < N := by have := HN.out; omega
      obtain ⟨SS, hSS⟩ : ∃ SS : ByteArray, SS = ⟨(backL m (lastL seed)).toArray⟩ := ⟨_, rfl⟩
      have HSV : Hid (∀ V, Below w2.heap.size w2 V → (V.cell? ⟨h, 0, none⟩ = some (.slice x0 16 cx0) ∧ (Go.convert 22 9 (.slice x0 16 cx0)).run Tryd.prog V = .ok (.string SS) V) ∧ Below w2.heap.size w2 V) := fun V hV => by
        have h1 := (hs0.below hV).convert (P := Tryd.prog) 22 5 9 Tryd.underlying22 Tryd.underlying5 Tryd.underlying9
        rw [backL_len _ _ (lastL_len seed), ← hSS] at h1
        exact ⟨⟨by rw [hV.cell (World.block_lt_of_cell? _ _ hc0)]; exact hc0, h1⟩, hV⟩
      have KC : Hid (∀ V, Below w2.heap.size w2 V → Calls Tryd.prog 10 #[.pointer (some ⟨g, 0, none⟩)] V fun e w' => ∃ d c, e = .returned (.slice d 16 c) ∧ (Go.convert 22 9 (.slice d 16 c)).run Tryd.prog w' = .ok (.string SS) w' ∧ Below w2.heap.size w2 w') := fun V hV => by
        refine (hr2.below hV).commit.mono ?_
        rintro e w' ⟨d, c, rfl, hs, hb⟩
        have h1 := hs.convert (P := Tryd.prog) 22 5 9 Tryd.underlying22 Tryd.underlying5 Tryd.underlying9
        rw [backL_len _ _ (lastL_len seed), ← hSS] at h1
        exact ⟨d, c, rfl, h1, hV.trans (hb.mono hV.size)⟩
      have KI : Hid (∀ V, Below w2.heap.size w2 V → Calls Tryd.prog 11 #[.pointer (some ⟨g, 0, none⟩)] V fun e w' => e = .returned (.int .i64 0) ∧ w' = V) := fun V hV => (hr2.below hV).index
      have HR2 : Hid (Run w w2 g b cap cd cc (lastL seed) m 0 0 T ∧ Full w2 h m (lastL seed)) := ⟨hr2, hf2⟩
      clear hr2 hf2 hs0 hc0 hSS hb2 HR1
      go_wp2_with fail
      refine wp_region_noPanic ?_
      go_region_held (fun V => (V.cell? ⟨h, 0, none⟩ = some (.slice x0 16 cx0) ∧ (Go.convert 22 9 (.slice x0 16 cx0)).run Tryd.prog V = .ok (.string SS) V) ∧ Below w2.heap.size w2 V)
        (first | exact HSV.out _ (Below.refl _ _) | assumption | exact HSV.out _ (Below.refl _ _).drew | exact HSV.out _ (by assumption))
        (first
          | (go_at_call 10; (with_reducible refine (KC.out _ ?_).mono ?_); (focus (exact (Below.refl _ _).drew)); rintro e w3 ⟨d3, c3, rfl, f3, hb3⟩)
          | (go_at_call 11; (with_reducible refine (KI.out _ ?_).mono ?_); (focus (assumption)); rintro e w4 ⟨rfl, rfl⟩))
      refine NoPanic.normal ?_
      have HR4 : Hid (Run w w4 g b cap cd cc (lastL seed) m 0 0 T ∧ Full w4 h m (lastL seed)) := ⟨HR2.out.1.below hb3, HR2.out.2.below hb3⟩
      clear HSV KC KI HR2 hb3 f3 hcut dN1
      go_wp2_with fail
      go_loopw [11] (fun iv wr => ∃ (t u b cap st : Nat) (T : List Stone), iv = .int .i64 ((t + 1 : Nat) : Int) ∧ u = min t m ∧ Run w wr g b cap cd cc (lastL seed) m u st T ∧ Full wr h m (lastL seed) ∧ t ≤ M ∧ st ≤ u * 256) (fun iv _ => (100 - intOf iv).toNat)
      case atStart => exact ⟨0, 0, b, cap, 0, T, rfl, by omega, HR4.out.1, HR4.out.2, by omega, by omega⟩
      case round =>
        clear HR4
        obtain ⟨t, u, b, cap, st, T, rfl, hu, hrun, hful, htM, hst⟩ := hrel
        obtain ⟨I, hI⟩ : ∃ I, I = t + 1 := ⟨_, rfl⟩
        rw [← hI]
        have HI : Hid (I = t + 1) := hI
        have HRUN : Hid (Run w wr g b cap cd cc (lastL seed) m u st T ∧ Full wr h m (lastL seed)) := ⟨hrun, hful⟩
        have hI70 : I ≤ 70 := by omega
        by_cases hgo : I ≤ M
        · have g1 : (I : Int) ≤ (M : Int) := by omega
          by_cases hin : I < N
          · have hut : u = t := by have := HN.out; omega
            subst hut
            have k3 := hrun.next (by have := HN.out; omega) HF.out HT.out (by omega)
            have HG : Hid (I ≤ M ∧ I ≤ m ∧ st ≤ u * 256) := ⟨hgo, by have := HN.out; omega, hst⟩
            have g2 : ¬ N ≤ I := by omega
            have g3 : (I : Int) < (N : Int) := by omega
            have g4 : (0 : Int) ≤ (I : Int) := Int.natCast_nonneg _
            have g5 : (I : Int).toNat = I := Int.toNat_natCast _
            clear hrun hful htM hst hgo hI hu hin
            go_wp2_with fail
            refine k3.mono ?_
            rintro e w5 ⟨b5, cap5, T5, d5, c5, rfl, hr5, _, hs5, ha5, _⟩
            have hf5 := HRUN.out.2.peb HRUN.out.1.peb ha5
            rw [← HI.out] at hr5 hs5
            obtain ⟨xi, cxi, hci, hsi⟩ := hf5.key (lastL_len seed) (by omega) I HG.out.2.1
            have H5 : Hid (Run w w5 g b5 cap5 cd cc (lastL seed) m I (stepN u st (T.map Prod.fst)) T5 ∧ Full w5 h m (lastL seed)) := ⟨hr5, hf5⟩
            obtain ⟨S5, hS5⟩ : ∃ S5 : ByteArray, S5 = ⟨(backL (m - I) (lastL seed)).toArray⟩ := ⟨_, rfl⟩
            have f1 : ∀ j, (Go.convert 22 9 (.slice d5 16 c5)).run Tryd.prog (w5.drewN j) = .ok (.string S5) (w5.drewN j) := fun j => by
              have h1 := (hs5.drewN j).convert (P := Tryd.prog) 22 5 9 Tryd.underlying22 Tryd.underlying5 Tryd.underlying9
              rw [backL_len _ _ (lastL_len seed), ← hS5] at h1; exact h1
            have f2 : ∀ j, (Go.convert 22 9 (.slice xi 16 cxi)).run Tryd.prog (w5.drewN j) = .ok (.string S5) (w5.drewN j) := fun j => by
              have h1 := (hsi.drewN j).convert (P := Tryd.prog) 22 5 9 Tryd.underlying22 Tryd.underlying5 Tryd.underlying9
              rw [backL_len _ _ (lastL_len seed), ← hS5] at h1; exact h1
            have KI : Hid (∀ j, Calls Tryd.prog 11 #[.pointer (some ⟨g, 0, none⟩)] (w5.drewN j) fun e w' => e = .returned (.int .i64 (I : Int)) ∧ w' = w5.drewN j) := fun j => (hr5.below (below_drewN (Below.refl _ _) j)).index
            clear k3 hr5 hs5 ha5 hf5 hsi hS5
            go_wp2_with fail
            go_quiet (first | (go_at_call 11; exact Calls.quiet_of_same (KI.out _)))
            go_wp2
            go_roundw
            case rel =>
              refine ⟨u + 1, u + 1, b5, cap5, _, T5, by have := HI.out; go_num, by have := HI.out; have := HG.out; omega, ?_, ?_, by have := HI.out; have := HG.out; omega, stepN_le HRUN.out.1.peb.good HRUN.out.1.peb.most HG.out.2.2⟩
              · rw [← HI.out]; exact H5.out.1.below (by first | exact Below.refl _ _ | exact (Below.refl _ _).drew | exact below_drewN (Below.refl _ _) _)
              · exact H5.out.2.below (by first | exact Below.refl _ _ | exact (Below.refl _ _).drew | exact below_drewN (Below.refl _ _) _)
            case measure => simp [intOf]; omega
          · have hum : u = m := by have := HN.out; omega
            subst hum
            have k3 := hrun.over
            have k4 := hrun.index
            have g2 : N ≤ I := by omega
            have HG : Hid (I ≤ M ∧ u ≤ t + 1 ∧ st ≤ u * 256) := ⟨hgo, by have := HN.out; omega, hst⟩
            clear hrun hful htM hst hgo hI hin hu
            go_wp2_with fail
            refine k3.mono ?_
            rintro e w5 ⟨rfl, rfl⟩
            clear k3
            go_wp2_with fail
            refine k4.mono ?_
            rintro e w6 ⟨rfl, rfl⟩
            clear k4
            go_wp2
            go_roundw
            case rel => exact ⟨t + 1, u, b, cap, st, T, by have := HI.out; go_num, by have := HG.out; omega, HRUN.out.1, HRUN.out.2, by have := HI.out; have := HG.out; omega, HG.out.2.2⟩
            case measure => simp [intOf]; omega
        · have g1 : ¬ I ≤ M := hgo
          have HB : Hid (Below w.heap.size w wr) := hrun.bel
          clear hrun hful htM hst hgo hI hu
          go_wp2_with fail
          refine (HAW.out _ HB.out).mono ?_
          rintro e w5 ⟨rfl, hb5⟩
          go_wp2
          go_ret
          exact ⟨rfl, hb5⟩
    · have k1 := new_no w a ca seed n hTab.1 hTab.2 ha hc
      have hbig' : ¬ (60 < n) ∨ ¬ (n ≤ 256) := by omega
      have k2 : Hid (∀ V, Below w.heap.size w V → Calls Tryd.prog 9 #[.slice a seed.length ca, .int .i64 n] V fun e w' => ∃ d c, e = .returned (.tuple #[.slice d 0 c, .int .i64 1]) ∧ Below w.heap.size w w') := fun V hV => by
        have h := rall_any V a ca seed n (HA.out.below hV)
        have hP : allP seed n = ([], 1) := by unfold allP; rw [if_neg hc]
        rw [hP] at h
        refine h.mono ?_
        rintro e w' ⟨d, c, rfl, _, hb⟩
        exact ⟨d, c, rfl, hV.trans (hb.mono hV.size)⟩
      clear hTab ha wy bY hc hbig hcut
      by_cases h60 : 60 < n
      · have h256 : ¬ (n ≤ 256) := by omega
        clear hbig'
        go_enter Tryd.func3, Tryd.ntmps3
        go_wp2_with fail
        refine k1.mono ?_
        rintro e w1 ⟨rfl, hb1⟩
        clear k1
        go_wp2_with fail
        refine (k2.out _ hb1).mono ?_
        rintro e w2 ⟨d, c, rfl, hb2⟩
        clear k2
        go_wp2_with fail
        refine (HAW.out _ hb2).mono ?_
        rintro e w3 ⟨rfl, hb3⟩
        go_wp2
        go_ret
        exact ⟨rfl, hb3⟩
      · clear hbig'
        go_enter Tryd.func3, Tryd.ntmps3
        go_wp2_with fail
        refine k1.mono ?_
        rintro e w1 ⟨rfl, hb1⟩
        clear k1
        go_wp2_with fail
        refine (k2.out _ hb1).mono ?_
        rintro e w2 ⟨d, c, rfl, hb2⟩
        clear k2
        go_wp2_with fail
        refine (HAW.out _ hb2).mono ?_
        rintro e w3 ⟨rfl, hb3⟩
        go_wp2
        go_ret
        exact ⟨rfl, hb3⟩
end Go.Proofs.YtleedppcandbkaaDoor
