/-
  The walk of OscPlays.
-/
import Derived.Test.YtddapnceehmgcaaOscX
namespace Go.Proofs.Ytddapnceehmgcaa
open Go.ChangeShapes Go.WideShapes Go.ChangeAt Go.RowKit

set_option maxHeartbeats 16000000 in
set_option maxRecDepth 20000 in
theorem plays_walk (x0 : Int) (a1 : Option Addr) (c1 : Nat) (kl : List Int) (a2 : Option Addr) (c2 : Nat) (nl : List Int) (w : World) (_w0 : (Lit.int .i64 x0).wf = true) (s1 : Nums .u8 w a1 c1 kl) (s2 : Nums .i64 w a2 c2 nl) :
    Calls Try.prog 3 #[.int .i64 x0, .slice a1 kl.length c1, .slice a2 nl.length c2] w fun e w' => e = .returned (.bool true) ∧ Below w.heap.size w w' := by
  have H1 : Hid (Nums .u8 w a1 c1 kl) := s1
  have H2 : Hid (Nums .i64 w a2 c2 nl) := s2
  have l1 := s1.len
  have l2 := s2.len
  clear s1 s2
  by_cases hin : 0 ≤ x0 ∧ x0 ≤ 49
  · obtain ⟨q0, q1⟩ := hin
    have kn := solo_new w w (Below.refl _ _) x0 q0 q1
    go_enter Try.func3, Try.ntmps3
    go_wp2_with fail
    refine kn.mono ?_
    rintro e wa ⟨g, rfl, ha⟩
    clear kn
    have kr := ha.duo x0 q0 q1
    clear ha
    go_wp2_with fail
    refine kr.mono ?_
    rintro e wb ⟨r, rfl, hb⟩
    clear kr
    have HS : Hid (Duo w wb g r (newK x0) (newK x0)) := hb
    clear hb
    go_wp2
    go_loopw [11] (fun u wr => ∃ (k : Nat) (v : Ck), k ≤ 200 ∧ u = .int .i64 (k : Int) ∧ Duo w wr g r v v) (fun u _ => 200 - (intOf u).toNat)
    case atStart => exact ⟨0, _, by omega, rfl, HS.out⟩
    case round =>
      obtain ⟨k, v, hk, rfl, hs⟩ := hrel
      clear HS
      have g0 : (0 : Int) ≤ (k : Int) := Int.natCast_nonneg _
      by_cases hall : k < kl.length ∧ k < nl.length ∧ k < 200
      · obtain ⟨k1, k2, k3⟩ := hall
        obtain ⟨y, hy⟩ : ∃ y, kl[k]? = some y := ⟨kl[k], by simp [k1]⟩
        obtain ⟨kb, kof, rfl, cy⟩ := H1.out.get hy
        obtain ⟨z, hz⟩ : ∃ z, nl[k]? = some z := ⟨nl[k], by simp [k2]⟩
        obtain ⟨nb, no, rfl, cz⟩ := H2.out.get hz
        have by1 : 0 ≤ y ∧ y < 256 := by
          have := H1.out.wf y (List.mem_of_getElem? hy)
          simp [Lit.wf, IntKind.min, IntKind.max, IntKind.signed, IntKind.bits] at this; omega
        have cyw : wr.cell? ⟨kb, kof + k, none⟩ = some (.int .u8 y) := by rw [hs.low.cell (p := ⟨kb, kof + k, none⟩) (World.block_lt_of_cell? w _ cy)]; exact cy
        have HCZ : Hid (∀ W, Below w.heap.size w W → W.cell? ⟨nb, no + k, none⟩ = some (.int .i64 z)) := fun W hW => by rw [hW.cell (p := ⟨nb, no + k, none⟩) (World.block_lt_of_cell? w _ cz)]; exact cz
        have t1 : decide ((k : Int) < (kl.length : Int)) = true := by simp; omega
        have t2 : decide ((k : Int) < (nl.length : Int)) = true := by simp; omega
        have t3 : decide ((k : Int) < 200) = true := by simp; omega
        have i1 : (k : Int) < (kl.length : Int) := by omega
        have i2 : (k : Int) < (nl.length : Int) := by omega
        have hcase : y % 4 = 0 ∨ y % 4 = 1 ∨ y % 4 = 2 ∨ y % 4 = 3 := by omega
        have cz1 := HCZ.out wr hs.low
        have M1 : Hid (y.tmod 4 = y % 4) := Int.tmod_eq_emod_of_nonneg by1.1
        clear hy cy hz cz by1 H1 H2
        rcases hcase with m2 | m2 | m2 | m2
        · have m1 := M1.out
          rw [m2] at m1
          obtain ⟨v3, hv3⟩ : ∃ v3, v3 = stepV v z := ⟨_, rfl⟩
          obtain ⟨E, hE⟩ : ∃ E, E = stepE v z := ⟨_, rfl⟩
          have ka := hs.step z
          have KB : Hid (∀ W, Duo w W g r v3 v → Calls Try.prog 11 #[.pointer (some ⟨r, 0, none⟩), .int .i64 z] W fun e w' => e = .returned (.int .i64 E) ∧ Duo w w' g r v3 v3) := fun W hW => by rw [hE, hv3]; rw [hv3] at hW; exact hW.rstep z
          rw [← hv3, ← hE] at ka
          clear hs hv3 hE M1
          go_wp2_with fail
          refine ka.mono ?_
          rintro e wb ⟨rfl, hb⟩
          clear ka cz1 cyw
          have cz1 := HCZ.out wb hb.low
          have kb := KB.out wb hb
          clear hb KB HCZ
          go_wp2_with fail
          refine kb.mono ?_
          rintro e wd ⟨rfl, hd⟩
          clear kb cz1
          have HQ3 : Hid (Duo w wd g r v3 v3) := hd
          clear hd
          obtain ⟨T, hT⟩ : ∃ T, T = v3.t := ⟨_, rfl⟩
          obtain ⟨A, hA⟩ : ∃ A, A = v3.h := ⟨_, rfl⟩
          obtain ⟨O, hO⟩ : ∃ O, O = v3.o := ⟨_, rfl⟩
          have HK : Hid (∀ W, ((W.cell? ⟨r, 2, none⟩ = some (.int .i64 T) ∧ W.cell? ⟨r, 1, none⟩ = some (.int .i64 A) ∧ W.cell? ⟨r, 3, none⟩ = some (.int .i64 O)) ∧ Duo w W g r v3 v3) → (Calls Try.prog 16 #[.pointer (some ⟨g, 0, none⟩)] W fun e w' => e = .returned (.int .i64 T) ∧ w' = W) ∧ (Calls Try.prog 17 #[.pointer (some ⟨g, 0, none⟩)] W fun e w' => e = .returned (.int .i64 A) ∧ w' = W) ∧ (Calls Try.prog 18 #[.pointer (some ⟨g, 0, none⟩)] W fun e w' => e = .returned (.int .i64 O) ∧ w' = W)) := fun W hW => by rw [hT, hA, hO]; exact hW.2.tells
          have H0 : Hid ((wd.cell? ⟨r, 2, none⟩ = some (.int .i64 T) ∧ wd.cell? ⟨r, 1, none⟩ = some (.int .i64 A) ∧ wd.cell? ⟨r, 3, none⟩ = some (.int .i64 O)) ∧ Duo w wd g r v3 v3) := by rw [hT, hA, hO]; exact ⟨HQ3.out.cells, HQ3.out⟩
          have HD : Hid (∀ W, ((W.cell? ⟨r, 2, none⟩ = some (.int .i64 T) ∧ W.cell? ⟨r, 1, none⟩ = some (.int .i64 A) ∧ W.cell? ⟨r, 3, none⟩ = some (.int .i64 O)) ∧ Duo w W g r v3 v3) → ((W.drew.cell? ⟨r, 2, none⟩ = some (.int .i64 T) ∧ W.drew.cell? ⟨r, 1, none⟩ = some (.int .i64 A) ∧ W.drew.cell? ⟨r, 3, none⟩ = some (.int .i64 O)) ∧ Duo w W.drew g r v3 v3)) := fun W hW => ⟨hW.1, hW.2.drew⟩
          clear hT hA hO
          go_upto_region 22 with fail
          go_region_held3 (fun W => (W.cell? ⟨r, 2, none⟩ = some (.int .i64 T) ∧ W.cell? ⟨r, 1, none⟩ = some (.int .i64 A) ∧ W.cell? ⟨r, 3, none⟩ = some (.int .i64 O)) ∧ Duo w W g r v3 v3)
            (first | exact H0.out | assumption | exact HD.out _ H0.out | exact HD.out _ (by assumption))
            (first | (go_at_call 16; (with_reducible refine (HK.out _ ?_).1.mono ?_); (focus (first | exact H0.out | assumption | exact HD.out _ H0.out | exact HD.out _ (by assumption))); rintro e w9 ⟨rfl, rfl⟩) | (go_at_call 17; (with_reducible refine (HK.out _ ?_).2.1.mono ?_); (focus (first | exact H0.out | assumption | exact HD.out _ H0.out | exact HD.out _ (by assumption))); rintro e w9 ⟨rfl, rfl⟩) | (go_at_call 18; (with_reducible refine (HK.out _ ?_).2.2.mono ?_); (focus (first | exact H0.out | assumption | exact HD.out _ H0.out | exact HD.out _ (by assumption))); rintro e w9 ⟨rfl, rfl⟩))
          have HE : Hid (Duo w wd.drew g r v3 v3) := HQ3.out.drew
          clear HK H0 HD HQ3
          go_wp2
          go_roundw
          case rel => exact ⟨k + 1, v3, by omega, by go_num, HE.out⟩
          case measure => simp [intOf]; omega
        · have m1 := M1.out
          rw [m2] at m1
          obtain ⟨v3, hv3⟩ : ∃ v3, v3 = stepV v z := ⟨_, rfl⟩
          obtain ⟨E, hE⟩ : ∃ E, E = stepE v z := ⟨_, rfl⟩
          have ka := hs.step z
          have KB : Hid (∀ W, Duo w W g r v3 v → Calls Try.prog 11 #[.pointer (some ⟨r, 0, none⟩), .int .i64 z] W fun e w' => e = .returned (.int .i64 E) ∧ Duo w w' g r v3 v3) := fun W hW => by rw [hE, hv3]; rw [hv3] at hW; exact hW.rstep z
          rw [← hv3, ← hE] at ka
          clear hs hv3 hE M1
          go_wp2_with fail
          refine ka.mono ?_
          rintro e wb ⟨rfl, hb⟩
          clear ka cz1 cyw
          have cz1 := HCZ.out wb hb.low
          have kb := KB.out wb hb
          clear hb KB HCZ
          go_wp2_with fail
          refine kb.mono ?_
          rintro e wd ⟨rfl, hd⟩
          clear kb cz1
          have HQ3 : Hid (Duo w wd g r v3 v3) := hd
          clear hd
          obtain ⟨T, hT⟩ : ∃ T, T = v3.t := ⟨_, rfl⟩
          obtain ⟨A, hA⟩ : ∃ A, A = v3.h := ⟨_, rfl⟩
          obtain ⟨O, hO⟩ : ∃ O, O = v3.o := ⟨_, rfl⟩
          have HK : Hid (∀ W, ((W.cell? ⟨r, 2, none⟩ = some (.int .i64 T) ∧ W.cell? ⟨r, 1, none⟩ = some (.int .i64 A) ∧ W.cell? ⟨r, 3, none⟩ = some (.int .i64 O)) ∧ Duo w W g r v3 v3) → (Calls Try.prog 16 #[.pointer (some ⟨g, 0, none⟩)] W fun e w' => e = .returned (.int .i64 T) ∧ w' = W) ∧ (Calls Try.prog 17 #[.pointer (some ⟨g, 0, none⟩)] W fun e w' => e = .returned (.int .i64 A) ∧ w' = W) ∧ (Calls Try.prog 18 #[.pointer (some ⟨g, 0, none⟩)] W fun e w' => e = .returned (.int .i64 O) ∧ w' = W)) := fun W hW => by rw [hT, hA, hO]; exact hW.2.tells
          have H0 : Hid ((wd.cell? ⟨r, 2, none⟩ = some (.int .i64 T) ∧ wd.cell? ⟨r, 1, none⟩ = some (.int .i64 A) ∧ wd.cell? ⟨r, 3, none⟩ = some (.int .i64 O)) ∧ Duo w wd g r v3 v3) := by rw [hT, hA, hO]; exact ⟨HQ3.out.cells, HQ3.out⟩
          have HD : Hid (∀ W, ((W.cell? ⟨r, 2, none⟩ = some (.int .i64 T) ∧ W.cell? ⟨r, 1, none⟩ = some (.int .i64 A) ∧ W.cell? ⟨r, 3, none⟩ = some (.int .i64 O)) ∧ Duo w W g r v3 v3) → ((W.drew.cell? ⟨r, 2, none⟩ = some (.int .i64 T) ∧ W.drew.cell? ⟨r, 1, none⟩ = some (.int .i64 A) ∧ W.drew.cell? ⟨r, 3, none⟩ = some (.int .i64 O)) ∧ Duo w W.drew g r v3 v3)) := fun W hW => ⟨hW.1, hW.2.drew⟩
          clear hT hA hO
          go_upto_region 22 with fail
          go_region_held3 (fun W => (W.cell? ⟨r, 2, none⟩ = some (.int .i64 T) ∧ W.cell? ⟨r, 1, none⟩ = some (.int .i64 A) ∧ W.cell? ⟨r, 3, none⟩ = some (.int .i64 O)) ∧ Duo w W g r v3 v3)
            (first | exact H0.out | assumption | exact HD.out _ H0.out | exact HD.out _ (by assumption))
            (first | (go_at_call 16; (with_reducible refine (HK.out _ ?_).1.mono ?_); (focus (first | exact H0.out | assumption | exact HD.out _ H0.out | exact HD.out _ (by assumption))); rintro e w9 ⟨rfl, rfl⟩) | (go_at_call 17; (with_reducible refine (HK.out _ ?_).2.1.mono ?_); (focus (first | exact H0.out | assumption | exact HD.out _ H0.out | exact HD.out _ (by assumption))); rintro e w9 ⟨rfl, rfl⟩) | (go_at_call 18; (with_reducible refine (HK.out _ ?_).2.2.mono ?_); (focus (first | exact H0.out | assumption | exact HD.out _ H0.out | exact HD.out _ (by assumption))); rintro e w9 ⟨rfl, rfl⟩))
          have HE : Hid (Duo w wd.drew g r v3 v3) := HQ3.out.drew
          clear HK H0 HD HQ3
          go_wp2
          go_roundw
          case rel => exact ⟨k + 1, v3, by omega, by go_num, HE.out⟩
          case measure => simp [intOf]; omega
        · have m1 := M1.out
          rw [m2] at m1
          obtain ⟨v3, hv3⟩ : ∃ v3, v3 = adjV v z := ⟨_, rfl⟩
          obtain ⟨E, hE⟩ : ∃ E, E = adjE z := ⟨_, rfl⟩
          have ka := hs.adjust z
          have KB : Hid (∀ W, Duo w W g r v3 v → Calls Try.prog 13 #[.pointer (some ⟨r, 0, none⟩), .int .i64 z] W fun e w' => e = .returned (.int .i64 E) ∧ Duo w w' g r v3 v3) := fun W hW => by rw [hE, hv3]; rw [hv3] at hW; exact hW.radjust z
          rw [← hv3, ← hE] at ka
          clear hs hv3 hE M1
          go_wp2_with fail
          refine ka.mono ?_
          rintro e wb ⟨rfl, hb⟩
          clear ka cz1 cyw
          have cz1 := HCZ.out wb hb.low
          have kb := KB.out wb hb
          clear hb KB HCZ
          go_wp2_with fail
          refine kb.mono ?_
          rintro e wd ⟨rfl, hd⟩
          clear kb cz1
          have HQ3 : Hid (Duo w wd g r v3 v3) := hd
          clear hd
          obtain ⟨T, hT⟩ : ∃ T, T = v3.t := ⟨_, rfl⟩
          obtain ⟨A, hA⟩ : ∃ A, A = v3.h := ⟨_, rfl⟩
          obtain ⟨O, hO⟩ : ∃ O, O = v3.o := ⟨_, rfl⟩
          have HK : Hid (∀ W, ((W.cell? ⟨r, 2, none⟩ = some (.int .i64 T) ∧ W.cell? ⟨r, 1, none⟩ = some (.int .i64 A) ∧ W.cell? ⟨r, 3, none⟩ = some (.int .i64 O)) ∧ Duo w W g r v3 v3) → (Calls Try.prog 16 #[.pointer (some ⟨g, 0, none⟩)] W fun e w' => e = .returned (.int .i64 T) ∧ w' = W) ∧ (Calls Try.prog 17 #[.pointer (some ⟨g, 0, none⟩)] W fun e w' => e = .returned (.int .i64 A) ∧ w' = W) ∧ (Calls Try.prog 18 #[.pointer (some ⟨g, 0, none⟩)] W fun e w' => e = .returned (.int .i64 O) ∧ w' = W)) := fun W hW => by rw [hT, hA, hO]; exact hW.2.tells
          have H0 : Hid ((wd.cell? ⟨r, 2, none⟩ = some (.int .i64 T) ∧ wd.cell? ⟨r, 1, none⟩ = some (.int .i64 A) ∧ wd.cell? ⟨r, 3, none⟩ = some (.int .i64 O)) ∧ Duo w wd g r v3 v3) := by rw [hT, hA, hO]; exact ⟨HQ3.out.cells, HQ3.out⟩
          have HD : Hid (∀ W, ((W.cell? ⟨r, 2, none⟩ = some (.int .i64 T) ∧ W.cell? ⟨r, 1, none⟩ = some (.int .i64 A) ∧ W.cell? ⟨r, 3, none⟩ = some (.int .i64 O)) ∧ Duo w W g r v3 v3) → ((W.drew.cell? ⟨r, 2, none⟩ = some (.int .i64 T) ∧ W.drew.cell? ⟨r, 1, none⟩ = some (.int .i64 A) ∧ W.drew.cell? ⟨r, 3, none⟩ = some (.int .i64 O)) ∧ Duo w W.drew g r v3 v3)) := fun W hW => ⟨hW.1, hW.2.drew⟩
          clear hT hA hO
          go_upto_region 22 with fail
          go_region_held3 (fun W => (W.cell? ⟨r, 2, none⟩ = some (.int .i64 T) ∧ W.cell? ⟨r, 1, none⟩ = some (.int .i64 A) ∧ W.cell? ⟨r, 3, none⟩ = some (.int .i64 O)) ∧ Duo w W g r v3 v3)
            (first | exact H0.out | assumption | exact HD.out _ H0.out | exact HD.out _ (by assumption))
            (first | (go_at_call 16; (with_reducible refine (HK.out _ ?_).1.mono ?_); (focus (first | exact H0.out | assumption | exact HD.out _ H0.out | exact HD.out _ (by assumption))); rintro e w9 ⟨rfl, rfl⟩) | (go_at_call 17; (with_reducible refine (HK.out _ ?_).2.1.mono ?_); (focus (first | exact H0.out | assumption | exact HD.out _ H0.out | exact HD.out _ (by assumption))); rintro e w9 ⟨rfl, rfl⟩) | (go_at_call 18; (with_reducible refine (HK.out _ ?_).2.2.mono ?_); (focus (first | exact H0.out | assumption | exact HD.out _ H0.out | exact HD.out _ (by assumption))); rintro e w9 ⟨rfl, rfl⟩))
          have HE : Hid (Duo w wd.drew g r v3 v3) := HQ3.out.drew
          clear HK H0 HD HQ3
          go_wp2
          go_roundw
          case rel => exact ⟨k + 1, v3, by omega, by go_num, HE.out⟩
          case measure => simp [intOf]; omega
        · have m1 := M1.out
          rw [m2] at m1
          obtain ⟨v3, hv3⟩ : ∃ v3, v3 = setV v z := ⟨_, rfl⟩
          obtain ⟨E, hE⟩ : ∃ E, E = setE z := ⟨_, rfl⟩
          have ka := hs.set z
          have KB : Hid (∀ W, Duo w W g r v3 v → Calls Try.prog 15 #[.pointer (some ⟨r, 0, none⟩), .int .i64 z] W fun e w' => e = .returned (.int .i64 E) ∧ Duo w w' g r v3 v3) := fun W hW => by rw [hE, hv3]; rw [hv3] at hW; exact hW.rset z
          rw [← hv3, ← hE] at ka
          clear hs hv3 hE M1
          go_wp2_with fail
          refine ka.mono ?_
          rintro e wb ⟨rfl, hb⟩
          clear ka cz1 cyw
          have cz1 := HCZ.out wb hb.low
          have kb := KB.out wb hb
          clear hb KB HCZ
          go_wp2_with fail
          refine kb.mono ?_
          rintro e wd ⟨rfl, hd⟩
          clear kb cz1
          have HQ3 : Hid (Duo w wd g r v3 v3) := hd
          clear hd
          obtain ⟨T, hT⟩ : ∃ T, T = v3.t := ⟨_, rfl⟩
          obtain ⟨A, hA⟩ : ∃ A, A = v3.h := ⟨_, rfl⟩
          obtain ⟨O, hO⟩ : ∃ O, O = v3.o := ⟨_, rfl⟩
          have HK : Hid (∀ W, ((W.cell? ⟨r, 2, none⟩ = some (.int .i64 T) ∧ W.cell? ⟨r, 1, none⟩ = some (.int .i64 A) ∧ W.cell? ⟨r, 3, none⟩ = some (.int .i64 O)) ∧ Duo w W g r v3 v3) → (Calls Try.prog 16 #[.pointer (some ⟨g, 0, none⟩)] W fun e w' => e = .returned (.int .i64 T) ∧ w' = W) ∧ (Calls Try.prog 17 #[.pointer (some ⟨g, 0, none⟩)] W fun e w' => e = .returned (.int .i64 A) ∧ w' = W) ∧ (Calls Try.prog 18 #[.pointer (some ⟨g, 0, none⟩)] W fun e w' => e = .returned (.int .i64 O) ∧ w' = W)) := fun W hW => by rw [hT, hA, hO]; exact hW.2.tells
          have H0 : Hid ((wd.cell? ⟨r, 2, none⟩ = some (.int .i64 T) ∧ wd.cell? ⟨r, 1, none⟩ = some (.int .i64 A) ∧ wd.cell? ⟨r, 3, none⟩ = some (.int .i64 O)) ∧ Duo w wd g r v3 v3) := by rw [hT, hA, hO]; exact ⟨HQ3.out.cells, HQ3.out⟩
          have HD : Hid (∀ W, ((W.cell? ⟨r, 2, none⟩ = some (.int .i64 T) ∧ W.cell? ⟨r, 1, none⟩ = some (.int .i64 A) ∧ W.cell? ⟨r, 3, none⟩ = some (.int .i64 O)) ∧ Duo w W g r v3 v3) → ((W.drew.cell? ⟨r, 2, none⟩ = some (.int .i64 T) ∧ W.drew.cell? ⟨r, 1, none⟩ = some (.int .i64 A) ∧ W.drew.cell? ⟨r, 3, none⟩ = some (.int .i64 O)) ∧ Duo w W.drew g r v3 v3)) := fun W hW => ⟨hW.1, hW.2.drew⟩
          clear hT hA hO
          go_upto_region 22 with fail
          go_region_held3 (fun W => (W.cell? ⟨r, 2, none⟩ = some (.int .i64 T) ∧ W.cell? ⟨r, 1, none⟩ = some (.int .i64 A) ∧ W.cell? ⟨r, 3, none⟩ = some (.int .i64 O)) ∧ Duo w W g r v3 v3)
            (first | exact H0.out | assumption | exact HD.out _ H0.out | exact HD.out _ (by assumption))
            (first | (go_at_call 16; (with_reducible refine (HK.out _ ?_).1.mono ?_); (focus (first | exact H0.out | assumption | exact HD.out _ H0.out | exact HD.out _ (by assumption))); rintro e w9 ⟨rfl, rfl⟩) | (go_at_call 17; (with_reducible refine (HK.out _ ?_).2.1.mono ?_); (focus (first | exact H0.out | assumption | exact HD.out _ H0.out | exact HD.out _ (by assumption))); rintro e w9 ⟨rfl, rfl⟩) | (go_at_call 18; (with_reducible refine (HK.out _ ?_).2.2.mono ?_); (focus (first | exact H0.out | assumption | exact HD.out _ H0.out | exact HD.out _ (by assumption))); rintro e w9 ⟨rfl, rfl⟩))
          have HE : Hid (Duo w wd.drew g r v3 v3) := HQ3.out.drew
          clear HK H0 HD HQ3
          go_wp2
          go_roundw
          case rel => exact ⟨k + 1, v3, by omega, by go_num, HE.out⟩
          case measure => simp [intOf]; omega
      · have HB : Hid (Below w.heap.size w wr) := hs.low
        clear hs H1 H2
        by_cases b0 : ¬ (k < kl.length)
        · have f0 : decide ((k : Int) < (kl.length : Int)) = false := by simp; omega
          clear hall
          go_wp2_with fail
          refine (awake_ok _).mono ?_
          rintro e wc ⟨rfl, hc⟩
          have HC : Hid (Below w.heap.size w wc) := HB.out.trans (hc.mono HB.out.size)
          clear hc
          go_wp2
          go_ret
          exact ⟨rfl, HC.out⟩
        · have f0 : decide ((k : Int) < (kl.length : Int)) = true := by simp; omega
          by_cases b1 : ¬ (k < nl.length)
          · have f1 : decide ((k : Int) < (nl.length : Int)) = false := by simp; omega
            clear hall
            go_wp2_with fail
            refine (awake_ok _).mono ?_
            rintro e wc ⟨rfl, hc⟩
            have HC : Hid (Below w.heap.size w wc) := HB.out.trans (hc.mono HB.out.size)
            clear hc
            go_wp2
            go_ret
            exact ⟨rfl, HC.out⟩
          · have f1 : decide ((k : Int) < (nl.length : Int)) = true := by simp; omega
            have f2 : decide ((k : Int) < 200) = false := by simp; omega
            clear hall
            go_wp2_with fail
            refine (awake_ok _).mono ?_
            rintro e wc ⟨rfl, hc⟩
            have HC : Hid (Below w.heap.size w wc) := HB.out.trans (hc.mono HB.out.size)
            clear hc
            go_wp2
            go_ret
            exact ⟨rfl, HC.out⟩
  · have kn := new_no w x0 hin
    have kr := rnew_no w x0 hin
    clear hin H1 H2
    go_enter Try.func3, Try.ntmps3
    go_wp2_with fail
    refine kn.mono ?_
    rintro e w ⟨rfl, rfl⟩
    clear kn
    go_wp2_with fail
    refine kr.mono ?_
    rintro e w ⟨rfl, rfl⟩
    clear kr
    go_wp2_with fail
    refine (awake_ok _).mono ?_
    rintro e wc ⟨rfl, hc⟩
    have HC : Hid (Below w.heap.size w wc) := hc
    clear hc
    go_wp2
    go_ret
    exact ⟨rfl, HC.out⟩
end Go.Proofs.Ytddapnceehmgcaa
