/-
  The walk of BufferPlays.
-/
import Derived.Test.YteehkekmaikeiaaDuoX
import Derived.Test.YteehkekmaikeiaaPairArg
import Derived.Test.YteehkekmaikeiaaFloodW
namespace Go.Proofs.Yteehkekmaikeiaa
open Go.ChangeShapes Go.WideShapes Go.ChangeAt Go.RowKit

set_option maxHeartbeats 16000000 in
set_option maxRecDepth 20000 in
theorem plays_walk (x : Int) (a1 : Option Addr) (c1 : Nat) (kl : List Int) (a2 : Option Addr) (c2 : Nat) (cl : List Key) (a3 : Option Addr) (c3 : Nat) (P : List (List UInt8)) (w : World) (_w0 : (Lit.int .i64 x).wf = true) (s1 : Nums .u8 w a1 c1 kl) (s2 : Pairs w a2 c2 cl) (s3 : Rowss w a3 c3 P) :
    Calls Try.prog 3 #[.int .i64 x, .slice a1 kl.length c1, .slice a2 cl.length c2, .slice a3 P.length c3] w fun e w' => e = .returned (.bool true) ∧ Below w.heap.size w w' := by
  have H1 : Hid (Nums .u8 w a1 c1 kl) := s1
  have H2 : Hid (Pairs w a2 c2 cl) := s2
  have H3 : Hid (Rowss w a3 c3 P) := s3
  have l1 := s1.len
  have l2 := s2.len
  have l3 := s3.len
  clear s1 s2 s3
  have KA : Hid (∀ W, Below w.heap.size w W → Calls Try.prog 9 #[] W fun e w' => e = .returned (.bool true) ∧ Below w.heap.size w w') := fun W hW => (awake_ok W).mono fun _ _ ⟨h1, h2⟩ => ⟨h1, hW.trans (h2.mono hW.size)⟩
  by_cases hm : 1 ≤ x ∧ x ≤ 64
  rotate_left
  · have kn := new_no w x hm
    have KR := rnew_no w x hm
    clear hm H1 H2 H3
    go_enter Try.func3, Try.ntmps3
    go_wp2_with fail
    refine kn.mono ?_
    rintro e w ⟨rfl, rfl⟩
    go_wp2_with fail
    refine KR.mono ?_
    rintro e w ⟨rfl, rfl⟩
    have ka := KA.out w (Below.refl _ _)
    clear kn KR KA
    go_wp2_with fail
    refine ka.mono ?_
    rintro e wd ⟨rfl, hb⟩
    have HB : Hid (Below w.heap.size w wd) := hb
    clear ka hb
    go_wp2
    go_ret
    exact ⟨rfl, HB.out⟩
  obtain ⟨mo, rfl⟩ : ∃ mo : Nat, x = (mo : Int) := ⟨x.toNat, by omega⟩
  have kn := new_ok w mo (by omega) (by omega)
  have KR : Hid (∀ W g, Born w g ⟨mo, 0, []⟩ W → Calls Try.prog 8 #[.int .i64 (mo : Int)] W fun e w' => ∃ r, e = .returned (.tuple #[.pointer (some ⟨r, 0, none⟩), .int .i64 0]) ∧ Duo0 w w' g r ⟨mo, 0, []⟩ ⟨mo, 0, []⟩ 0) := fun W g hW => (rnew_ok W mo (by omega) (by omega)).mono fun _ _ ⟨h1, h2, h3⟩ => ⟨_, h1, hW.duo h3 h2⟩
  clear hm
  go_enter Try.func3, Try.ntmps3
  go_wp2_with fail
  refine kn.mono ?_
  rintro e wa ⟨g, rfl, ha⟩
  have kr := KR.out wa g ha
  clear kn ha KR
  go_wp2_with fail
  refine kr.mono ?_
  rintro e wb ⟨r, rfl, hb⟩
  have HS : Hid (Duo0 w wb g r ⟨mo, 0, []⟩ ⟨mo, 0, []⟩ 0) := hb
  clear kr hb
  go_wp2
  go_loopw [13] (fun u wr => ∃ (i : Nat) (s : Bs) (n : Nat), i ≤ 150 ∧ n ≤ 65 * i ∧ s.lost ≤ i ∧ u = .int .i64 (i : Int) ∧ Duo0 w wr g r s s n) (fun u _ => 150 - (intOf u).toNat)
  case atStart => exact ⟨0, _, 0, by omega, by omega, Nat.le_refl _, rfl, HS.out⟩
  case round =>
    obtain ⟨i, s, n, hi, hni, hlost, rfl, hs⟩ := hrel
    clear HS
    have g0 : (0 : Int) ≤ (i : Int) := Int.natCast_nonneg _
    by_cases hall : i < kl.length ∧ i < cl.length ∧ i < P.length ∧ i < 150
    · obtain ⟨i1, i2, i3, i4⟩ := hall
      obtain ⟨y, hy⟩ : ∃ y, kl[i]? = some y := ⟨kl[i], by simp [i1]⟩
      obtain ⟨kb, kof, rfl, cy⟩ := H1.out.get hy
      obtain ⟨z, hz⟩ : ∃ z, cl[i]? = some z := ⟨cl[i], by simp [i2]⟩
      obtain ⟨cb, cof, rfl, cz0, cz1⟩ := H2.out.get hz
      obtain ⟨l, hl⟩ : ∃ l, P[i]? = some l := ⟨P[i], by simp [i3]⟩
      obtain ⟨pb, po, rfl, xa, xc, cp, hsx⟩ := H3.out.at' i l hl
      have by1 : 0 ≤ y ∧ y < 256 := by have := H1.out.wf y (List.mem_of_getElem? hy); simp [Lit.wf, IntKind.min, IntKind.max, IntKind.signed, IntKind.bits] at this; omega
      have hwz := H2.out.wf z (List.mem_of_getElem? hz)
      have hlow := hs.low
      obtain ⟨k1, k2⟩ := z
      dsimp only at cz0 cz1
      obtain ⟨W, hW⟩ : ∃ W, W = wr.alloc (.cells #[.int .i64 k1, .int .i64 k2] 33) := ⟨_, rfl⟩
      have hbW : Below wr.heap.size wr W := by rw [hW]; exact (Below.refl _ _).alloc (Nat.le_refl _) _
      have hxb : XBox W wr.heap.size (k1, k2) := by rw [hW]; exact heap_alloc_new _ _
      obtain ⟨B, hB⟩ : ∃ B, B = wr.heap.size := ⟨_, rfl⟩
      rw [← hB] at hxb
      have hD : Duo w W g r s s n B (k1, k2) := hs.with hbW hxb
      have q0 : wr.cell? ⟨cb, cof + i * 2, none⟩ = some (.int .i64 k1) := by rw [hlow.cell (p := ⟨cb, cof + i * 2, none⟩) (World.block_lt_of_cell? w _ cz0)]; exact cz0
      have q1 : wr.cell? ⟨cb, cof + i * 2 + 1, none⟩ = some (.int .i64 k2) := by rw [hlow.cell (p := ⟨cb, cof + i * 2 + 1, none⟩) (World.block_lt_of_cell? w _ cz1)]; exact cz1
      have cyw : (wr.alloc (.cells #[.int .i64 k1, .int .i64 k2] 33)).cell? ⟨kb, kof + i, none⟩ = some (.int .u8 y) := by rw [← hW, hD.low.cell (p := ⟨kb, kof + i, none⟩) (World.block_lt_of_cell? w _ cy)]; exact cy
      obtain ⟨xl, hxl⟩ : ∃ xl, xl = l.length := ⟨_, rfl⟩
      have HSV : Hid (∀ V, Below w.heap.size w V → XBox V B (k1, k2) → (V.cell? ⟨B, 0, none⟩ = some (.int .i64 k1) ∧ V.cell? ⟨B, 1, none⟩ = some (.int .i64 k2) ∧ V.cell? ⟨pb, po + i, none⟩ = some (.slice xa xl xc))) := fun V hb hx => ⟨hx.c0, hx.c1, by rw [hb.cell (p := ⟨pb, po + i, none⟩) (World.block_lt_of_cell? w _ cp), hxl]; exact cp⟩
      have t1 : decide ((i : Int) < (kl.length : Int)) = true := by simp; omega
      have t2 : decide ((i : Int) < (cl.length : Int)) = true := by simp; omega
      have t3 : decide ((i : Int) < (P.length : Int)) = true := by simp; omega
      have t4 : decide ((i : Int) < 150) = true := by simp; omega
      have j1 : (i : Int) < (kl.length : Int) := by omega
      have j2 : (i : Int) < (cl.length : Int) := by omega
      have j3 : (i : Int) < (P.length : Int) := by omega
      have hcase : y % 5 = 0 ∨ y % 5 = 1 ∨ y % 5 = 2 ∨ y % 5 = 3 ∨ y % 5 = 4 := by omega
      have M1 : Hid (y.tmod 5 = y % 5) := Int.tmod_eq_emod_of_nonneg by1.1
      have e4 : IntKind.i64.wrap ((i : Int) + 1) = ((i + 1 : Nat) : Int) := by rw [IntKind.wrap_i64]; omega
      have HW : Hid (W = wr.alloc (.cells #[.int .i64 k1, .int .i64 k2] 33)) := hW
      have HBB : Hid (B = wr.heap.size) := hB
      have HD : Hid (Duo w W.drew g r s s n B (k1, k2)) := hD.below (Below.refl _ _).drew
      have HX : Hid (Sees w xa xc l ∧ xl = l.length ∧ wfK (k1, k2)) := ⟨hsx, hxl, hwz⟩
      have HI : Hid (i < 150) := i4
      clear hy cy hz cz0 cz1 hl cp hsx by1 hwz hlow hW hbW hxb hB hs hD hxl H1 H2 H3
      rcases hcase with m2 | m2 | m2 | m2 | m2
      · have m1 := M1.out
        rw [m2] at m1
        have m3 : IntKind.u8.wrap (y % 5) = y % 5 := by rw [IntKind.wrap_u8]; omega
        rw [m2] at m3
        obtain ⟨v3, hv3⟩ : ∃ v3, v3 = putV s k1 k2 l := ⟨_, rfl⟩
        obtain ⟨E, hE⟩ : ∃ E, E = putE s k1 k2 l := ⟨_, rfl⟩
        have ka := HD.out.put (by omega) (by omega) k1 k2 xa xc l HX.out.1
        have KB : Hid (∀ W, Duo w W g r v3 s (n + 65) B (k1, k2) → Calls Try.prog 11 #[.pointer (some ⟨r, 0, none⟩), .int .i64 k1, .int .i64 k2, .slice xa xl xc] W fun e w' => e = .returned (.int .i64 E) ∧ Duo w w' g r v3 v3 (n + 65) B (k1, k2)) := fun W hW => by
          have := hW.rput (by omega) k1 k2 xa xc l HX.out.1
          rw [← hv3, ← hE, ← HX.out.2.1] at this
          exact this
        rw [← hv3, ← hE, ← HX.out.2.1] at ka
        have HLO : Hid (v3.lost ≤ i + 1) := by
          have := putV_lost s k1 k2 l
          rw [← hv3] at this
          exact (show v3.lost ≤ i + 1 by omega)
        have HS0 := HSV.out W.drew HD.out.low HD.out.box
        clear hv3 hE M1 HD
        go_upto_region 17 with fail
        rw [← HW.out, ← HBB.out]
        clear HW HBB q0 q1 cyw
        refine wp_region_noPanic ?_
        refine wp_region_held (S := fun V => V.cell? ⟨B, 0, none⟩ = some (.int .i64 k1) ∧ V.cell? ⟨B, 1, none⟩ = some (.int .i64 k2) ∧ V.cell? ⟨pb, po + i, none⟩ = some (.slice xa xl xc)) (by kernel_rfl) ?_
        have hS := HS0
        refine any_take 0 ?vran1 rfl (by kernel_rfl) (by kernel_rfl) (by kernel_rfl) (fun _ _ _ h => h) (by rfl) ?hran1 hS ?_
        case hran1 => (intro w hSw; (try dsimp only at hSw); go_split_ands; go_simp; (try with_reducible rfl))
        (try simp only [Act.put, List.setIfInBounds_toArray, List.set_cons_zero, List.set_cons_succ])
        refine any_take 1 ?vran2 rfl (by kernel_rfl) (by kernel_rfl) (by kernel_rfl) (fun _ _ _ h => h) (by rfl) ?hran2 hS ?_
        case hran2 => (intro w hSw; (try dsimp only at hSw); go_split_ands; go_simp; (try with_reducible rfl))
        (try simp only [Act.put, List.setIfInBounds_toArray, List.set_cons_zero, List.set_cons_succ])
        refine any_take 2 ?vran3 rfl (by kernel_rfl) (by kernel_rfl) (by kernel_rfl) (fun _ _ _ h => h) (by rfl) ?hran3 hS ?_
        case hran3 => (intro w hSw; (try dsimp only at hSw); go_split_ands; go_simp; (try with_reducible rfl))
        (try simp only [Act.put, List.setIfInBounds_toArray, List.set_cons_zero, List.set_cons_succ])
        refine any_take 3 ?vran4 rfl (by kernel_rfl) (by kernel_rfl) (by kernel_rfl) (fun _ _ _ h => h) (by rfl) ?hran4 hS ?_
        case hran4 => (intro w hSw; (try dsimp only at hSw); go_split_ands; go_simp; (try with_reducible rfl))
        (try simp only [Act.put, List.setIfInBounds_toArray, List.set_cons_zero, List.set_cons_succ])
        refine any_take 4 ?vran5 rfl (by kernel_rfl) (by kernel_rfl) (by kernel_rfl) (fun _ _ _ h => h) (by rfl) ?hran5 hS ?_
        case hran5 => (intro w hSw; (try dsimp only at hSw); go_split_ands; go_simp; (try with_reducible rfl))
        (try simp only [Act.put, List.setIfInBounds_toArray, List.set_cons_zero, List.set_cons_succ])
        refine any_take 5 ?vran6 rfl (by kernel_rfl) (by kernel_rfl) (by kernel_rfl) (fun _ _ _ h => h) (by rfl) ?hran6 hS ?_
        case hran6 => (intro w hSw; (try dsimp only at hSw); go_split_ands; go_simp; (try with_reducible rfl))
        (try simp only [Act.put, List.setIfInBounds_toArray, List.set_cons_zero, List.set_cons_succ])
        refine any_take 6 ?vran7 rfl (by kernel_rfl) (by kernel_rfl) (by kernel_rfl) (fun _ _ _ h => h) (by rfl) ?hran7 hS ?_
        case hran7 => (intro w hSw; (try dsimp only at hSw); go_split_ands; go_simp; (try with_reducible rfl))
        (try simp only [Act.put, List.setIfInBounds_toArray, List.set_cons_zero, List.set_cons_succ])
        refine any_take 7 ?vran8 rfl (by kernel_rfl) (by kernel_rfl) (by kernel_rfl) (fun _ _ _ h => h) (by rfl) ?hran8 hS ?_
        case hran8 => (intro w hSw; (try dsimp only at hSw); go_split_ands; go_simp; (try with_reducible rfl))
        (try simp only [Act.put, List.setIfInBounds_toArray, List.set_cons_zero, List.set_cons_succ])
        refine any_take 8 ?vran9 rfl (by kernel_rfl) (by kernel_rfl) (by kernel_rfl) (fun _ _ _ h => h) (by rfl) ?hran9 hS ?_
        case hran9 => (intro w hSw; (try dsimp only at hSw); go_split_ands; go_simp; (try with_reducible rfl))
        (try simp only [Act.put, List.setIfInBounds_toArray, List.set_cons_zero, List.set_cons_succ])
        refine any_take 10 ?vran10 rfl (by kernel_rfl) (by kernel_rfl) (by kernel_rfl) (fun _ _ _ h => h) (by rfl) ?hran10 hS ?_
        case hran10 => (intro w hSw; (try dsimp only at hSw); go_split_ands; go_simp; (try with_reducible rfl))
        (try simp only [Act.put, List.setIfInBounds_toArray, List.set_cons_zero, List.set_cons_succ])
        refine any_take 11 ?vran11 rfl (by kernel_rfl) (by kernel_rfl) (by kernel_rfl) (fun _ _ _ h => h) (by rfl) ?hran11 hS ?_
        case hran11 => (intro w hSw; (try dsimp only at hSw); go_split_ands; go_simp; (try with_reducible rfl))
        (try simp only [Act.put, List.setIfInBounds_toArray, List.set_cons_zero, List.set_cons_succ])
        refine any_take 12 ?vran12 rfl (by kernel_rfl) (by kernel_rfl) (by kernel_rfl) (fun _ _ _ h => h) (by rfl) ?hran12 hS ?_
        case hran12 => (intro w hSw; (try dsimp only at hSw); go_split_ands; go_simp; (try with_reducible rfl))
        (try simp only [Act.put, List.setIfInBounds_toArray, List.set_cons_zero, List.set_cons_succ])
        refine any_take 13 ?vran13 rfl (by kernel_rfl) (by kernel_rfl) (by kernel_rfl) (fun _ _ _ h => h) (by rfl) ?hran13 hS ?_
        case hran13 => (intro w hSw; (try dsimp only at hSw); go_split_ands; go_simp; (try with_reducible rfl))
        (try simp only [Act.put, List.setIfInBounds_toArray, List.set_cons_zero, List.set_cons_succ])
        refine any_take 14 ?vran14 rfl (by kernel_rfl) (by kernel_rfl) (by kernel_rfl) (fun _ _ _ h => h) (by rfl) ?hran14 hS ?_
        case hran14 => (intro w hSw; (try dsimp only at hSw); go_split_ands; go_simp; (try with_reducible rfl))
        (try simp only [Act.put, List.setIfInBounds_toArray, List.set_cons_zero, List.set_cons_succ])
        refine any_take 15 ?vran15 rfl (by kernel_rfl) (by kernel_rfl) (by kernel_rfl) (fun _ _ _ h => h) (by rfl) ?hran15 hS ?_
        case hran15 => (intro w hSw; (try dsimp only at hSw); go_split_ands; go_simp; (try with_reducible rfl))
        (try simp only [Act.put, List.setIfInBounds_toArray, List.set_cons_zero, List.set_cons_succ])
        refine any_take 16 ?vran16 rfl (by kernel_rfl) (by kernel_rfl) (by kernel_rfl) (fun _ _ _ h => h) (by rfl) ?hran16 hS ?_
        case hran16 => (intro w hSw; (try dsimp only at hSw); go_split_ands; go_simp; (try with_reducible rfl))
        (try simp only [Act.put, List.setIfInBounds_toArray, List.set_cons_zero, List.set_cons_succ])
        refine any_take 17 ?vran17 rfl (by kernel_rfl) (by kernel_rfl) (by kernel_rfl) (fun _ _ _ h => h) (by rfl) ?hran17 hS ?_
        case hran17 => (intro w hSw; (try dsimp only at hSw); go_split_ands; go_simp; (try with_reducible rfl))
        (try simp only [Act.put, List.setIfInBounds_toArray, List.set_cons_zero, List.set_cons_succ])
        refine any_take 18 ?vran18 rfl (by kernel_rfl) (by kernel_rfl) (by kernel_rfl) (fun _ _ _ h => h) (by rfl) ?hran18 hS ?_
        case hran18 => (intro w hSw; (try dsimp only at hSw); go_split_ands; go_simp; (try with_reducible rfl))
        (try simp only [Act.put, List.setIfInBounds_toArray, List.set_cons_zero, List.set_cons_succ])
        refine any_one 9 rfl (by kernel_rfl) (by rfl) (fun K hK => ?_)
        clear hS
        go_simp
        refine ka.mono ?_
        rintro e wb ⟨rfl, hb⟩
        have kb := KB.out wb hb
        refine hK.out _ _ (HSV.out wb hb.low hb.box) (fun hS => ?_)
        clear hK
        (try simp only [Act.put, List.setIfInBounds_toArray, List.set_cons_zero, List.set_cons_succ])
        refine any_one 19 rfl (by kernel_rfl) (by rfl) (fun K hK => ?_)
        clear hS
        go_simp
        refine kb.mono ?_
        rintro e wd ⟨rfl, hd⟩
        refine hK.out _ _ (HSV.out wd hd.low hd.box) (fun hS => ?_)
        clear hK
        (try simp only [Act.put, List.setIfInBounds_toArray, List.set_cons_zero, List.set_cons_succ])
        refine any_take 20 ?vran19 rfl (by kernel_rfl) (by kernel_rfl) (by kernel_rfl) (fun _ _ _ h => h) (by rfl) ?hran19 hS ?_
        case hran19 => (intro w hSw; (try dsimp only at hSw); go_split_ands; go_simp; (try with_reducible rfl))
        (try simp only [Act.put, List.setIfInBounds_toArray, List.set_cons_zero, List.set_cons_succ])
        refine wpAnyH_done (by kernel_rfl) ?_ _
        refine NoPanic.normal ?_
        clear hS ka kb KB HS0 hb
        have HQ3 : Hid (Duo w wd g r v3 v3 (n + 65) B (k1, k2)) := hd
        clear hd
        obtain ⟨kt1, kt2, kt3, kt4, ⟨ta, tc, kt5⟩, kt6⟩ := HQ3.out.tells (k1, k2) HX.out.2.2
        have K17 : Hid (∀ j, Calls Try.prog 17 #[.pointer (some ⟨g, 0, none⟩)] (wd.drewN j) fun e w' => e = .returned (.int .i64 (v3.L.length : Int)) ∧ w' = wd.drewN j) := kt1
        have K18 : Hid (∀ j, Calls Try.prog 18 #[.pointer (some ⟨g, 0, none⟩)] (wd.drewN j) fun e w' => e = .returned (.int .i64 (v3.lost : Int)) ∧ w' = wd.drewN j) := kt2
        have K19 : Hid (∀ j, Calls Try.prog 19 #[.pointer (some ⟨g, 0, none⟩), .int .i64 k1, .int .i64 k2] (wd.drewN j) fun e w' => e = .returned (.int .i64 (cnt v3.L (k1, k2) : Int)) ∧ w' = wd.drewN j) := kt3
        have K20 : Hid (∀ j, Calls Try.prog 20 #[.pointer (some ⟨r, 0, none⟩), .int .i64 k1, .int .i64 k2] (wd.drewN j) fun e w' => e = .returned (.int .i64 (cnt v3.L (k1, k2) : Int)) ∧ w' = wd.drewN j) := kt4
        have z0 := HQ3.out.box.c0
        have z1 := HQ3.out.box.c1
        dsimp only at z0 z1
        have HE : Hid (∀ j, Duo0 w (wd.drewN j) g r v3 v3 (n + 65)) := fun j => HQ3.out.base.drewN j
        clear HQ3 kt1 kt2 kt3 kt4 HSV HX
        obtain ⟨T1, hT1⟩ : ∃ T, T = v3.L.length := ⟨_, rfl⟩
        obtain ⟨T2, hT2⟩ : ∃ T, T = v3.lost := ⟨_, rfl⟩
        obtain ⟨T3, hT3⟩ : ∃ T, T = cnt v3.L (k1, k2) := ⟨_, rfl⟩
        rw [← hT1] at K17 kt5
        rw [← hT2] at K18 kt6
        rw [← hT3] at K19 K20
        clear hT1 hT2 hT3
        go_upto_region 22 with fail
        go_quiet (first | (go_at_call 17; exact Calls.quiet_of_same (K17.out _)) | (go_at_call 18; exact Calls.quiet_of_same (K18.out _)) | (go_at_call 19; exact Calls.quiet_of_same (K19.out _)) | (go_at_call 20; exact Calls.quiet_of_same (K20.out _)))
        go_wp2
        go_roundw
        case rel => exact ⟨i + 1, v3, (n + 65), by have := HI.out; omega, by omega, by have := HLO.out; omega, by first | rfl | (congr 1; omega), HE.out _⟩
        case measure => have := HI.out; simp [intOf]; omega
      · have m1 := M1.out
        rw [m2] at m1
        have m3 : IntKind.u8.wrap (y % 5) = y % 5 := by rw [IntKind.wrap_u8]; omega
        rw [m2] at m3
        obtain ⟨v3, hv3⟩ : ∃ v3, v3 = putV s k1 k2 l := ⟨_, rfl⟩
        obtain ⟨E, hE⟩ : ∃ E, E = putE s k1 k2 l := ⟨_, rfl⟩
        have ka := HD.out.put (by omega) (by omega) k1 k2 xa xc l HX.out.1
        have KB : Hid (∀ W, Duo w W g r v3 s (n + 65) B (k1, k2) → Calls Try.prog 11 #[.pointer (some ⟨r, 0, none⟩), .int .i64 k1, .int .i64 k2, .slice xa xl xc] W fun e w' => e = .returned (.int .i64 E) ∧ Duo w w' g r v3 v3 (n + 65) B (k1, k2)) := fun W hW => by
          have := hW.rput (by omega) k1 k2 xa xc l HX.out.1
          rw [← hv3, ← hE, ← HX.out.2.1] at this
          exact this
        rw [← hv3, ← hE, ← HX.out.2.1] at ka
        have HLO : Hid (v3.lost ≤ i + 1) := by
          have := putV_lost s k1 k2 l
          rw [← hv3] at this
          exact (show v3.lost ≤ i + 1 by omega)
        have HS0 := HSV.out W.drew HD.out.low HD.out.box
        clear hv3 hE M1 HD
        go_upto_region 17 with fail
        rw [← HW.out, ← HBB.out]
        clear HW HBB q0 q1 cyw
        refine wp_region_noPanic ?_
        refine wp_region_held (S := fun V => V.cell? ⟨B, 0, none⟩ = some (.int .i64 k1) ∧ V.cell? ⟨B, 1, none⟩ = some (.int .i64 k2) ∧ V.cell? ⟨pb, po + i, none⟩ = some (.slice xa xl xc)) (by kernel_rfl) ?_
        have hS := HS0
        refine any_take 0 ?vrbn1 rfl (by kernel_rfl) (by kernel_rfl) (by kernel_rfl) (fun _ _ _ h => h) (by rfl) ?hrbn1 hS ?_
        case hrbn1 => (intro w hSw; (try dsimp only at hSw); go_split_ands; go_simp; (try with_reducible rfl))
        (try simp only [Act.put, List.setIfInBounds_toArray, List.set_cons_zero, List.set_cons_succ])
        refine any_take 1 ?vrbn2 rfl (by kernel_rfl) (by kernel_rfl) (by kernel_rfl) (fun _ _ _ h => h) (by rfl) ?hrbn2 hS ?_
        case hrbn2 => (intro w hSw; (try dsimp only at hSw); go_split_ands; go_simp; (try with_reducible rfl))
        (try simp only [Act.put, List.setIfInBounds_toArray, List.set_cons_zero, List.set_cons_succ])
        refine any_take 2 ?vrbn3 rfl (by kernel_rfl) (by kernel_rfl) (by kernel_rfl) (fun _ _ _ h => h) (by rfl) ?hrbn3 hS ?_
        case hrbn3 => (intro w hSw; (try dsimp only at hSw); go_split_ands; go_simp; (try with_reducible rfl))
        (try simp only [Act.put, List.setIfInBounds_toArray, List.set_cons_zero, List.set_cons_succ])
        refine any_take 3 ?vrbn4 rfl (by kernel_rfl) (by kernel_rfl) (by kernel_rfl) (fun _ _ _ h => h) (by rfl) ?hrbn4 hS ?_
        case hrbn4 => (intro w hSw; (try dsimp only at hSw); go_split_ands; go_simp; (try with_reducible rfl))
        (try simp only [Act.put, List.setIfInBounds_toArray, List.set_cons_zero, List.set_cons_succ])
        refine any_take 4 ?vrbn5 rfl (by kernel_rfl) (by kernel_rfl) (by kernel_rfl) (fun _ _ _ h => h) (by rfl) ?hrbn5 hS ?_
        case hrbn5 => (intro w hSw; (try dsimp only at hSw); go_split_ands; go_simp; (try with_reducible rfl))
        (try simp only [Act.put, List.setIfInBounds_toArray, List.set_cons_zero, List.set_cons_succ])
        refine any_take 5 ?vrbn6 rfl (by kernel_rfl) (by kernel_rfl) (by kernel_rfl) (fun _ _ _ h => h) (by rfl) ?hrbn6 hS ?_
        case hrbn6 => (intro w hSw; (try dsimp only at hSw); go_split_ands; go_simp; (try with_reducible rfl))
        (try simp only [Act.put, List.setIfInBounds_toArray, List.set_cons_zero, List.set_cons_succ])
        refine any_take 6 ?vrbn7 rfl (by kernel_rfl) (by kernel_rfl) (by kernel_rfl) (fun _ _ _ h => h) (by rfl) ?hrbn7 hS ?_
        case hrbn7 => (intro w hSw; (try dsimp only at hSw); go_split_ands; go_simp; (try with_reducible rfl))
        (try simp only [Act.put, List.setIfInBounds_toArray, List.set_cons_zero, List.set_cons_succ])
        refine any_take 7 ?vrbn8 rfl (by kernel_rfl) (by kernel_rfl) (by kernel_rfl) (fun _ _ _ h => h) (by rfl) ?hrbn8 hS ?_
        case hrbn8 => (intro w hSw; (try dsimp only at hSw); go_split_ands; go_simp; (try with_reducible rfl))
        (try simp only [Act.put, List.setIfInBounds_toArray, List.set_cons_zero, List.set_cons_succ])
        refine any_take 8 ?vrbn9 rfl (by kernel_rfl) (by kernel_rfl) (by kernel_rfl) (fun _ _ _ h => h) (by rfl) ?hrbn9 hS ?_
        case hrbn9 => (intro w hSw; (try dsimp only at hSw); go_split_ands; go_simp; (try with_reducible rfl))
        (try simp only [Act.put, List.setIfInBounds_toArray, List.set_cons_zero, List.set_cons_succ])
        refine any_take 10 ?vrbn10 rfl (by kernel_rfl) (by kernel_rfl) (by kernel_rfl) (fun _ _ _ h => h) (by rfl) ?hrbn10 hS ?_
        case hrbn10 => (intro w hSw; (try dsimp only at hSw); go_split_ands; go_simp; (try with_reducible rfl))
        (try simp only [Act.put, List.setIfInBounds_toArray, List.set_cons_zero, List.set_cons_succ])
        refine any_take 11 ?vrbn11 rfl (by kernel_rfl) (by kernel_rfl) (by kernel_rfl) (fun _ _ _ h => h) (by rfl) ?hrbn11 hS ?_
        case hrbn11 => (intro w hSw; (try dsimp only at hSw); go_split_ands; go_simp; (try with_reducible rfl))
        (try simp only [Act.put, List.setIfInBounds_toArray, List.set_cons_zero, List.set_cons_succ])
        refine any_take 12 ?vrbn12 rfl (by kernel_rfl) (by kernel_rfl) (by kernel_rfl) (fun _ _ _ h => h) (by rfl) ?hrbn12 hS ?_
        case hrbn12 => (intro w hSw; (try dsimp only at hSw); go_split_ands; go_simp; (try with_reducible rfl))
        (try simp only [Act.put, List.setIfInBounds_toArray, List.set_cons_zero, List.set_cons_succ])
        refine any_take 13 ?vrbn13 rfl (by kernel_rfl) (by kernel_rfl) (by kernel_rfl) (fun _ _ _ h => h) (by rfl) ?hrbn13 hS ?_
        case hrbn13 => (intro w hSw; (try dsimp only at hSw); go_split_ands; go_simp; (try with_reducible rfl))
        (try simp only [Act.put, List.setIfInBounds_toArray, List.set_cons_zero, List.set_cons_succ])
        refine any_take 14 ?vrbn14 rfl (by kernel_rfl) (by kernel_rfl) (by kernel_rfl) (fun _ _ _ h => h) (by rfl) ?hrbn14 hS ?_
        case hrbn14 => (intro w hSw; (try dsimp only at hSw); go_split_ands; go_simp; (try with_reducible rfl))
        (try simp only [Act.put, List.setIfInBounds_toArray, List.set_cons_zero, List.set_cons_succ])
        refine any_take 15 ?vrbn15 rfl (by kernel_rfl) (by kernel_rfl) (by kernel_rfl) (fun _ _ _ h => h) (by rfl) ?hrbn15 hS ?_
        case hrbn15 => (intro w hSw; (try dsimp only at hSw); go_split_ands; go_simp; (try with_reducible rfl))
        (try simp only [Act.put, List.setIfInBounds_toArray, List.set_cons_zero, List.set_cons_succ])
        refine any_take 16 ?vrbn16 rfl (by kernel_rfl) (by kernel_rfl) (by kernel_rfl) (fun _ _ _ h => h) (by rfl) ?hrbn16 hS ?_
        case hrbn16 => (intro w hSw; (try dsimp only at hSw); go_split_ands; go_simp; (try with_reducible rfl))
        (try simp only [Act.put, List.setIfInBounds_toArray, List.set_cons_zero, List.set_cons_succ])
        refine any_take 17 ?vrbn17 rfl (by kernel_rfl) (by kernel_rfl) (by kernel_rfl) (fun _ _ _ h => h) (by rfl) ?hrbn17 hS ?_
        case hrbn17 => (intro w hSw; (try dsimp only at hSw); go_split_ands; go_simp; (try with_reducible rfl))
        (try simp only [Act.put, List.setIfInBounds_toArray, List.set_cons_zero, List.set_cons_succ])
        refine any_take 18 ?vrbn18 rfl (by kernel_rfl) (by kernel_rfl) (by kernel_rfl) (fun _ _ _ h => h) (by rfl) ?hrbn18 hS ?_
        case hrbn18 => (intro w hSw; (try dsimp only at hSw); go_split_ands; go_simp; (try with_reducible rfl))
        (try simp only [Act.put, List.setIfInBounds_toArray, List.set_cons_zero, List.set_cons_succ])
        refine any_one 9 rfl (by kernel_rfl) (by rfl) (fun K hK => ?_)
        clear hS
        go_simp
        refine ka.mono ?_
        rintro e wb ⟨rfl, hb⟩
        have kb := KB.out wb hb
        refine hK.out _ _ (HSV.out wb hb.low hb.box) (fun hS => ?_)
        clear hK
        (try simp only [Act.put, List.setIfInBounds_toArray, List.set_cons_zero, List.set_cons_succ])
        refine any_one 19 rfl (by kernel_rfl) (by rfl) (fun K hK => ?_)
        clear hS
        go_simp
        refine kb.mono ?_
        rintro e wd ⟨rfl, hd⟩
        refine hK.out _ _ (HSV.out wd hd.low hd.box) (fun hS => ?_)
        clear hK
        (try simp only [Act.put, List.setIfInBounds_toArray, List.set_cons_zero, List.set_cons_succ])
        refine any_take 20 ?vrbn19 rfl (by kernel_rfl) (by kernel_rfl) (by kernel_rfl) (fun _ _ _ h => h) (by rfl) ?hrbn19 hS ?_
        case hrbn19 => (intro w hSw; (try dsimp only at hSw); go_split_ands; go_simp; (try with_reducible rfl))
        (try simp only [Act.put, List.setIfInBounds_toArray, List.set_cons_zero, List.set_cons_succ])
        refine wpAnyH_done (by kernel_rfl) ?_ _
        refine NoPanic.normal ?_
        clear hS ka kb KB HS0 hb
        have HQ3 : Hid (Duo w wd g r v3 v3 (n + 65) B (k1, k2)) := hd
        clear hd
        obtain ⟨kt1, kt2, kt3, kt4, ⟨ta, tc, kt5⟩, kt6⟩ := HQ3.out.tells (k1, k2) HX.out.2.2
        have K17 : Hid (∀ j, Calls Try.prog 17 #[.pointer (some ⟨g, 0, none⟩)] (wd.drewN j) fun e w' => e = .returned (.int .i64 (v3.L.length : Int)) ∧ w' = wd.drewN j) := kt1
        have K18 : Hid (∀ j, Calls Try.prog 18 #[.pointer (some ⟨g, 0, none⟩)] (wd.drewN j) fun e w' => e = .returned (.int .i64 (v3.lost : Int)) ∧ w' = wd.drewN j) := kt2
        have K19 : Hid (∀ j, Calls Try.prog 19 #[.pointer (some ⟨g, 0, none⟩), .int .i64 k1, .int .i64 k2] (wd.drewN j) fun e w' => e = .returned (.int .i64 (cnt v3.L (k1, k2) : Int)) ∧ w' = wd.drewN j) := kt3
        have K20 : Hid (∀ j, Calls Try.prog 20 #[.pointer (some ⟨r, 0, none⟩), .int .i64 k1, .int .i64 k2] (wd.drewN j) fun e w' => e = .returned (.int .i64 (cnt v3.L (k1, k2) : Int)) ∧ w' = wd.drewN j) := kt4
        have z0 := HQ3.out.box.c0
        have z1 := HQ3.out.box.c1
        dsimp only at z0 z1
        have HE : Hid (∀ j, Duo0 w (wd.drewN j) g r v3 v3 (n + 65)) := fun j => HQ3.out.base.drewN j
        clear HQ3 kt1 kt2 kt3 kt4 HSV HX
        obtain ⟨T1, hT1⟩ : ∃ T, T = v3.L.length := ⟨_, rfl⟩
        obtain ⟨T2, hT2⟩ : ∃ T, T = v3.lost := ⟨_, rfl⟩
        obtain ⟨T3, hT3⟩ : ∃ T, T = cnt v3.L (k1, k2) := ⟨_, rfl⟩
        rw [← hT1] at K17 kt5
        rw [← hT2] at K18 kt6
        rw [← hT3] at K19 K20
        clear hT1 hT2 hT3
        go_upto_region 22 with fail
        go_quiet (first | (go_at_call 17; exact Calls.quiet_of_same (K17.out _)) | (go_at_call 18; exact Calls.quiet_of_same (K18.out _)) | (go_at_call 19; exact Calls.quiet_of_same (K19.out _)) | (go_at_call 20; exact Calls.quiet_of_same (K20.out _)))
        go_wp2
        go_roundw
        case rel => exact ⟨i + 1, v3, (n + 65), by have := HI.out; omega, by omega, by have := HLO.out; omega, by first | rfl | (congr 1; omega), HE.out _⟩
        case measure => have := HI.out; simp [intOf]; omega
      · have m1 := M1.out
        rw [m2] at m1
        have m3 : IntKind.u8.wrap (y % 5) = y % 5 := by rw [IntKind.wrap_u8]; omega
        rw [m2] at m3
        obtain ⟨v3, hv3⟩ : ∃ v3, v3 = putV s k1 k2 l := ⟨_, rfl⟩
        obtain ⟨E, hE⟩ : ∃ E, E = putE s k1 k2 l := ⟨_, rfl⟩
        have ka := HD.out.put (by omega) (by omega) k1 k2 xa xc l HX.out.1
        have KB : Hid (∀ W, Duo w W g r v3 s (n + 65) B (k1, k2) → Calls Try.prog 11 #[.pointer (some ⟨r, 0, none⟩), .int .i64 k1, .int .i64 k2, .slice xa xl xc] W fun e w' => e = .returned (.int .i64 E) ∧ Duo w w' g r v3 v3 (n + 65) B (k1, k2)) := fun W hW => by
          have := hW.rput (by omega) k1 k2 xa xc l HX.out.1
          rw [← hv3, ← hE, ← HX.out.2.1] at this
          exact this
        rw [← hv3, ← hE, ← HX.out.2.1] at ka
        have HLO : Hid (v3.lost ≤ i + 1) := by
          have := putV_lost s k1 k2 l
          rw [← hv3] at this
          exact (show v3.lost ≤ i + 1 by omega)
        have HS0 := HSV.out W.drew HD.out.low HD.out.box
        clear hv3 hE M1 HD
        go_upto_region 17 with fail
        rw [← HW.out, ← HBB.out]
        clear HW HBB q0 q1 cyw
        refine wp_region_noPanic ?_
        refine wp_region_held (S := fun V => V.cell? ⟨B, 0, none⟩ = some (.int .i64 k1) ∧ V.cell? ⟨B, 1, none⟩ = some (.int .i64 k2) ∧ V.cell? ⟨pb, po + i, none⟩ = some (.slice xa xl xc)) (by kernel_rfl) ?_
        have hS := HS0
        refine any_take 0 ?vrcn1 rfl (by kernel_rfl) (by kernel_rfl) (by kernel_rfl) (fun _ _ _ h => h) (by rfl) ?hrcn1 hS ?_
        case hrcn1 => (intro w hSw; (try dsimp only at hSw); go_split_ands; go_simp; (try with_reducible rfl))
        (try simp only [Act.put, List.setIfInBounds_toArray, List.set_cons_zero, List.set_cons_succ])
        refine any_take 1 ?vrcn2 rfl (by kernel_rfl) (by kernel_rfl) (by kernel_rfl) (fun _ _ _ h => h) (by rfl) ?hrcn2 hS ?_
        case hrcn2 => (intro w hSw; (try dsimp only at hSw); go_split_ands; go_simp; (try with_reducible rfl))
        (try simp only [Act.put, List.setIfInBounds_toArray, List.set_cons_zero, List.set_cons_succ])
        refine any_take 2 ?vrcn3 rfl (by kernel_rfl) (by kernel_rfl) (by kernel_rfl) (fun _ _ _ h => h) (by rfl) ?hrcn3 hS ?_
        case hrcn3 => (intro w hSw; (try dsimp only at hSw); go_split_ands; go_simp; (try with_reducible rfl))
        (try simp only [Act.put, List.setIfInBounds_toArray, List.set_cons_zero, List.set_cons_succ])
        refine any_take 3 ?vrcn4 rfl (by kernel_rfl) (by kernel_rfl) (by kernel_rfl) (fun _ _ _ h => h) (by rfl) ?hrcn4 hS ?_
        case hrcn4 => (intro w hSw; (try dsimp only at hSw); go_split_ands; go_simp; (try with_reducible rfl))
        (try simp only [Act.put, List.setIfInBounds_toArray, List.set_cons_zero, List.set_cons_succ])
        refine any_take 4 ?vrcn5 rfl (by kernel_rfl) (by kernel_rfl) (by kernel_rfl) (fun _ _ _ h => h) (by rfl) ?hrcn5 hS ?_
        case hrcn5 => (intro w hSw; (try dsimp only at hSw); go_split_ands; go_simp; (try with_reducible rfl))
        (try simp only [Act.put, List.setIfInBounds_toArray, List.set_cons_zero, List.set_cons_succ])
        refine any_take 5 ?vrcn6 rfl (by kernel_rfl) (by kernel_rfl) (by kernel_rfl) (fun _ _ _ h => h) (by rfl) ?hrcn6 hS ?_
        case hrcn6 => (intro w hSw; (try dsimp only at hSw); go_split_ands; go_simp; (try with_reducible rfl))
        (try simp only [Act.put, List.setIfInBounds_toArray, List.set_cons_zero, List.set_cons_succ])
        refine any_take 6 ?vrcn7 rfl (by kernel_rfl) (by kernel_rfl) (by kernel_rfl) (fun _ _ _ h => h) (by rfl) ?hrcn7 hS ?_
        case hrcn7 => (intro w hSw; (try dsimp only at hSw); go_split_ands; go_simp; (try with_reducible rfl))
        (try simp only [Act.put, List.setIfInBounds_toArray, List.set_cons_zero, List.set_cons_succ])
        refine any_take 7 ?vrcn8 rfl (by kernel_rfl) (by kernel_rfl) (by kernel_rfl) (fun _ _ _ h => h) (by rfl) ?hrcn8 hS ?_
        case hrcn8 => (intro w hSw; (try dsimp only at hSw); go_split_ands; go_simp; (try with_reducible rfl))
        (try simp only [Act.put, List.setIfInBounds_toArray, List.set_cons_zero, List.set_cons_succ])
        refine any_take 8 ?vrcn9 rfl (by kernel_rfl) (by kernel_rfl) (by kernel_rfl) (fun _ _ _ h => h) (by rfl) ?hrcn9 hS ?_
        case hrcn9 => (intro w hSw; (try dsimp only at hSw); go_split_ands; go_simp; (try with_reducible rfl))
        (try simp only [Act.put, List.setIfInBounds_toArray, List.set_cons_zero, List.set_cons_succ])
        refine any_take 10 ?vrcn10 rfl (by kernel_rfl) (by kernel_rfl) (by kernel_rfl) (fun _ _ _ h => h) (by rfl) ?hrcn10 hS ?_
        case hrcn10 => (intro w hSw; (try dsimp only at hSw); go_split_ands; go_simp; (try with_reducible rfl))
        (try simp only [Act.put, List.setIfInBounds_toArray, List.set_cons_zero, List.set_cons_succ])
        refine any_take 11 ?vrcn11 rfl (by kernel_rfl) (by kernel_rfl) (by kernel_rfl) (fun _ _ _ h => h) (by rfl) ?hrcn11 hS ?_
        case hrcn11 => (intro w hSw; (try dsimp only at hSw); go_split_ands; go_simp; (try with_reducible rfl))
        (try simp only [Act.put, List.setIfInBounds_toArray, List.set_cons_zero, List.set_cons_succ])
        refine any_take 12 ?vrcn12 rfl (by kernel_rfl) (by kernel_rfl) (by kernel_rfl) (fun _ _ _ h => h) (by rfl) ?hrcn12 hS ?_
        case hrcn12 => (intro w hSw; (try dsimp only at hSw); go_split_ands; go_simp; (try with_reducible rfl))
        (try simp only [Act.put, List.setIfInBounds_toArray, List.set_cons_zero, List.set_cons_succ])
        refine any_take 13 ?vrcn13 rfl (by kernel_rfl) (by kernel_rfl) (by kernel_rfl) (fun _ _ _ h => h) (by rfl) ?hrcn13 hS ?_
        case hrcn13 => (intro w hSw; (try dsimp only at hSw); go_split_ands; go_simp; (try with_reducible rfl))
        (try simp only [Act.put, List.setIfInBounds_toArray, List.set_cons_zero, List.set_cons_succ])
        refine any_take 14 ?vrcn14 rfl (by kernel_rfl) (by kernel_rfl) (by kernel_rfl) (fun _ _ _ h => h) (by rfl) ?hrcn14 hS ?_
        case hrcn14 => (intro w hSw; (try dsimp only at hSw); go_split_ands; go_simp; (try with_reducible rfl))
        (try simp only [Act.put, List.setIfInBounds_toArray, List.set_cons_zero, List.set_cons_succ])
        refine any_take 15 ?vrcn15 rfl (by kernel_rfl) (by kernel_rfl) (by kernel_rfl) (fun _ _ _ h => h) (by rfl) ?hrcn15 hS ?_
        case hrcn15 => (intro w hSw; (try dsimp only at hSw); go_split_ands; go_simp; (try with_reducible rfl))
        (try simp only [Act.put, List.setIfInBounds_toArray, List.set_cons_zero, List.set_cons_succ])
        refine any_take 16 ?vrcn16 rfl (by kernel_rfl) (by kernel_rfl) (by kernel_rfl) (fun _ _ _ h => h) (by rfl) ?hrcn16 hS ?_
        case hrcn16 => (intro w hSw; (try dsimp only at hSw); go_split_ands; go_simp; (try with_reducible rfl))
        (try simp only [Act.put, List.setIfInBounds_toArray, List.set_cons_zero, List.set_cons_succ])
        refine any_take 17 ?vrcn17 rfl (by kernel_rfl) (by kernel_rfl) (by kernel_rfl) (fun _ _ _ h => h) (by rfl) ?hrcn17 hS ?_
        case hrcn17 => (intro w hSw; (try dsimp only at hSw); go_split_ands; go_simp; (try with_reducible rfl))
        (try simp only [Act.put, List.setIfInBounds_toArray, List.set_cons_zero, List.set_cons_succ])
        refine any_take 18 ?vrcn18 rfl (by kernel_rfl) (by kernel_rfl) (by kernel_rfl) (fun _ _ _ h => h) (by rfl) ?hrcn18 hS ?_
        case hrcn18 => (intro w hSw; (try dsimp only at hSw); go_split_ands; go_simp; (try with_reducible rfl))
        (try simp only [Act.put, List.setIfInBounds_toArray, List.set_cons_zero, List.set_cons_succ])
        refine any_one 9 rfl (by kernel_rfl) (by rfl) (fun K hK => ?_)
        clear hS
        go_simp
        refine ka.mono ?_
        rintro e wb ⟨rfl, hb⟩
        have kb := KB.out wb hb
        refine hK.out _ _ (HSV.out wb hb.low hb.box) (fun hS => ?_)
        clear hK
        (try simp only [Act.put, List.setIfInBounds_toArray, List.set_cons_zero, List.set_cons_succ])
        refine any_one 19 rfl (by kernel_rfl) (by rfl) (fun K hK => ?_)
        clear hS
        go_simp
        refine kb.mono ?_
        rintro e wd ⟨rfl, hd⟩
        refine hK.out _ _ (HSV.out wd hd.low hd.box) (fun hS => ?_)
        clear hK
        (try simp only [Act.put, List.setIfInBounds_toArray, List.set_cons_zero, List.set_cons_succ])
        refine any_take 20 ?vrcn19 rfl (by kernel_rfl) (by kernel_rfl) (by kernel_rfl) (fun _ _ _ h => h) (by rfl) ?hrcn19 hS ?_
        case hrcn19 => (intro w hSw; (try dsimp only at hSw); go_split_ands; go_simp; (try with_reducible rfl))
        (try simp only [Act.put, List.setIfInBounds_toArray, List.set_cons_zero, List.set_cons_succ])
        refine wpAnyH_done (by kernel_rfl) ?_ _
        refine NoPanic.normal ?_
        clear hS ka kb KB HS0 hb
        have HQ3 : Hid (Duo w wd g r v3 v3 (n + 65) B (k1, k2)) := hd
        clear hd
        obtain ⟨kt1, kt2, kt3, kt4, ⟨ta, tc, kt5⟩, kt6⟩ := HQ3.out.tells (k1, k2) HX.out.2.2
        have K17 : Hid (∀ j, Calls Try.prog 17 #[.pointer (some ⟨g, 0, none⟩)] (wd.drewN j) fun e w' => e = .returned (.int .i64 (v3.L.length : Int)) ∧ w' = wd.drewN j) := kt1
        have K18 : Hid (∀ j, Calls Try.prog 18 #[.pointer (some ⟨g, 0, none⟩)] (wd.drewN j) fun e w' => e = .returned (.int .i64 (v3.lost : Int)) ∧ w' = wd.drewN j) := kt2
        have K19 : Hid (∀ j, Calls Try.prog 19 #[.pointer (some ⟨g, 0, none⟩), .int .i64 k1, .int .i64 k2] (wd.drewN j) fun e w' => e = .returned (.int .i64 (cnt v3.L (k1, k2) : Int)) ∧ w' = wd.drewN j) := kt3
        have K20 : Hid (∀ j, Calls Try.prog 20 #[.pointer (some ⟨r, 0, none⟩), .int .i64 k1, .int .i64 k2] (wd.drewN j) fun e w' => e = .returned (.int .i64 (cnt v3.L (k1, k2) : Int)) ∧ w' = wd.drewN j) := kt4
        have z0 := HQ3.out.box.c0
        have z1 := HQ3.out.box.c1
        dsimp only at z0 z1
        have HE : Hid (∀ j, Duo0 w (wd.drewN j) g r v3 v3 (n + 65)) := fun j => HQ3.out.base.drewN j
        clear HQ3 kt1 kt2 kt3 kt4 HSV HX
        obtain ⟨T1, hT1⟩ : ∃ T, T = v3.L.length := ⟨_, rfl⟩
        obtain ⟨T2, hT2⟩ : ∃ T, T = v3.lost := ⟨_, rfl⟩
        obtain ⟨T3, hT3⟩ : ∃ T, T = cnt v3.L (k1, k2) := ⟨_, rfl⟩
        rw [← hT1] at K17 kt5
        rw [← hT2] at K18 kt6
        rw [← hT3] at K19 K20
        clear hT1 hT2 hT3
        go_upto_region 22 with fail
        go_quiet (first | (go_at_call 17; exact Calls.quiet_of_same (K17.out _)) | (go_at_call 18; exact Calls.quiet_of_same (K18.out _)) | (go_at_call 19; exact Calls.quiet_of_same (K19.out _)) | (go_at_call 20; exact Calls.quiet_of_same (K20.out _)))
        go_wp2
        go_roundw
        case rel => exact ⟨i + 1, v3, (n + 65), by have := HI.out; omega, by omega, by have := HLO.out; omega, by first | rfl | (congr 1; omega), HE.out _⟩
        case measure => have := HI.out; simp [intOf]; omega
      · have m1 := M1.out
        rw [m2] at m1
        have m3 : IntKind.u8.wrap (y % 5) = y % 5 := by rw [IntKind.wrap_u8]; omega
        rw [m2] at m3
        obtain ⟨v3, hv3⟩ : ∃ v3, v3 = takeV s (k1, k2) := ⟨_, rfl⟩
        have ka := HD.out.take (by omega) (k1, k2) HX.out.2.2
        have HLE : Hid ((takeL s (k1, k2)).length ≤ 1000) := by
          rw [takeL, List.length_map]
          have h1 := List.length_filter_le (isK (k1, k2)) s.L
          obtain ⟨_, _, _, _, _, h2, _⟩ := HD.out
          have h3 := h2.ok.len
          have h4 := h2.ok.hi
          exact (show _ ≤ 1000 by omega)
        have KS : Hid (∀ W u v, Duo w W g r (takeV s (k1, k2)) (takeV s (k1, k2)) (n + 65) B (k1, k2) → Lst W u (takeL s (k1, k2)) → Lst W v (takeL s (k1, k2)) → Calls Try.prog 12 #[u, v] W fun e w' => e = .returned (.bool true) ∧ Duo w w' g r v3 v3 (n + 65) B (k1, k2)) := fun W u v hW h1 h2 => by
          have hle : (takeL s (k1, k2)).length ≤ 1000 := HLE.out
          have := lists_same W u v _ _ h1 h2 hle
          rw [decide_eq_true rfl] at this
          refine Calls.mono this ?_
          rintro e w' ⟨rfl, hb⟩
          rw [hv3]
          exact ⟨rfl, hW.below hb⟩
        have HLO : Hid (v3.lost ≤ i + 1) := by rw [hv3]; exact (show s.lost ≤ i + 1 by omega)
        have HS0 : W.drew.cell? ⟨B, 0, none⟩ = some (.int .i64 k1) ∧ W.drew.cell? ⟨B, 1, none⟩ = some (.int .i64 k2) := ⟨HD.out.box.c0, HD.out.box.c1⟩
        dsimp only at ka
        clear M1 HD
        go_upto_region 20 with fail
        rw [← HW.out, ← HBB.out]
        clear HW HBB q0 q1 cyw
        refine wp_region_noPanic ?_
        refine wp_region_held (S := fun V => V.cell? ⟨B, 0, none⟩ = some (.int .i64 k1) ∧ V.cell? ⟨B, 1, none⟩ = some (.int .i64 k2)) (by kernel_rfl) ?_
        have hS := HS0
        refine any_take 0 ?vrdn1 rfl (by kernel_rfl) (by kernel_rfl) (by kernel_rfl) (fun _ _ _ h => h) (by rfl) ?hrdn1 hS ?_
        case hrdn1 => (intro w hSw; (try dsimp only at hSw); go_split_ands; go_simp; (try with_reducible rfl))
        (try simp only [Act.put, List.setIfInBounds_toArray, List.set_cons_zero, List.set_cons_succ])
        refine any_take 1 ?vrdn2 rfl (by kernel_rfl) (by kernel_rfl) (by kernel_rfl) (fun _ _ _ h => h) (by rfl) ?hrdn2 hS ?_
        case hrdn2 => (intro w hSw; (try dsimp only at hSw); go_split_ands; go_simp; (try with_reducible rfl))
        (try simp only [Act.put, List.setIfInBounds_toArray, List.set_cons_zero, List.set_cons_succ])
        refine any_take 2 ?vrdn3 rfl (by kernel_rfl) (by kernel_rfl) (by kernel_rfl) (fun _ _ _ h => h) (by rfl) ?hrdn3 hS ?_
        case hrdn3 => (intro w hSw; (try dsimp only at hSw); go_split_ands; go_simp; (try with_reducible rfl))
        (try simp only [Act.put, List.setIfInBounds_toArray, List.set_cons_zero, List.set_cons_succ])
        refine any_take 3 ?vrdn4 rfl (by kernel_rfl) (by kernel_rfl) (by kernel_rfl) (fun _ _ _ h => h) (by rfl) ?hrdn4 hS ?_
        case hrdn4 => (intro w hSw; (try dsimp only at hSw); go_split_ands; go_simp; (try with_reducible rfl))
        (try simp only [Act.put, List.setIfInBounds_toArray, List.set_cons_zero, List.set_cons_succ])
        refine any_take 4 ?vrdn5 rfl (by kernel_rfl) (by kernel_rfl) (by kernel_rfl) (fun _ _ _ h => h) (by rfl) ?hrdn5 hS ?_
        case hrdn5 => (intro w hSw; (try dsimp only at hSw); go_split_ands; go_simp; (try with_reducible rfl))
        (try simp only [Act.put, List.setIfInBounds_toArray, List.set_cons_zero, List.set_cons_succ])
        refine any_take 6 ?vrdn6 rfl (by kernel_rfl) (by kernel_rfl) (by kernel_rfl) (fun _ _ _ h => h) (by rfl) ?hrdn6 hS ?_
        case hrdn6 => (intro w hSw; (try dsimp only at hSw); go_split_ands; go_simp; (try with_reducible rfl))
        (try simp only [Act.put, List.setIfInBounds_toArray, List.set_cons_zero, List.set_cons_succ])
        refine any_take 7 ?vrdn7 rfl (by kernel_rfl) (by kernel_rfl) (by kernel_rfl) (fun _ _ _ h => h) (by rfl) ?hrdn7 hS ?_
        case hrdn7 => (intro w hSw; (try dsimp only at hSw); go_split_ands; go_simp; (try with_reducible rfl))
        (try simp only [Act.put, List.setIfInBounds_toArray, List.set_cons_zero, List.set_cons_succ])
        refine any_take 8 ?vrdn8 rfl (by kernel_rfl) (by kernel_rfl) (by kernel_rfl) (fun _ _ _ h => h) (by rfl) ?hrdn8 hS ?_
        case hrdn8 => (intro w hSw; (try dsimp only at hSw); go_split_ands; go_simp; (try with_reducible rfl))
        (try simp only [Act.put, List.setIfInBounds_toArray, List.set_cons_zero, List.set_cons_succ])
        refine any_take 9 ?vrdn9 rfl (by kernel_rfl) (by kernel_rfl) (by kernel_rfl) (fun _ _ _ h => h) (by rfl) ?hrdn9 hS ?_
        case hrdn9 => (intro w hSw; (try dsimp only at hSw); go_split_ands; go_simp; (try with_reducible rfl))
        (try simp only [Act.put, List.setIfInBounds_toArray, List.set_cons_zero, List.set_cons_succ])
        refine any_take 10 ?vrdn10 rfl (by kernel_rfl) (by kernel_rfl) (by kernel_rfl) (fun _ _ _ h => h) (by rfl) ?hrdn10 hS ?_
        case hrdn10 => (intro w hSw; (try dsimp only at hSw); go_split_ands; go_simp; (try with_reducible rfl))
        (try simp only [Act.put, List.setIfInBounds_toArray, List.set_cons_zero, List.set_cons_succ])
        refine any_one 5 rfl (by kernel_rfl) (by rfl) (fun K hK => ?_)
        clear hS
        go_simp
        refine ka.mono ?_
        rintro e wb ⟨va, vn, vc, rfl, hb, kb0⟩
        have kb := kb0
        refine hK.out _ _ (⟨hb.box.c0, hb.box.c1⟩) (fun hS => ?_)
        clear hK
        (try simp only [Act.put, List.setIfInBounds_toArray, List.set_cons_zero, List.set_cons_succ])
        refine any_one 11 rfl (by kernel_rfl) (by rfl) (fun K hK => ?_)
        clear hS
        go_simp
        refine kb.mono ?_
        rintro e wd ⟨ua, un, uc, rfl, hd, hL1, hL2⟩
        have kc := KS.out wd _ _ hd hL1 hL2
        refine hK.out _ _ (⟨hd.box.c0, hd.box.c1⟩) (fun hS => ?_)
        clear hK
        (try simp only [Act.put, List.setIfInBounds_toArray, List.set_cons_zero, List.set_cons_succ])
        refine any_one 12 rfl (by kernel_rfl) (by rfl) (fun K hK => ?_)
        clear hS
        go_simp
        refine kc.mono ?_
        rintro e wd ⟨rfl, hd⟩
        refine hK.out _ _ (⟨hd.box.c0, hd.box.c1⟩) (fun hS => ?_)
        clear hK
        (try simp only [Act.put, List.setIfInBounds_toArray, List.set_cons_zero, List.set_cons_succ])
        refine any_take 13 ?vrdn11 rfl (by kernel_rfl) (by kernel_rfl) (by kernel_rfl) (fun _ _ _ h => h) (by rfl) ?hrdn11 hS ?_
        case hrdn11 => (intro w hSw; (try dsimp only at hSw); go_split_ands; go_simp; (try with_reducible rfl))
        (try simp only [Act.put, List.setIfInBounds_toArray, List.set_cons_zero, List.set_cons_succ])
        refine wpAnyH_done (by kernel_rfl) ?_ _
        refine NoPanic.normal ?_
        clear hS ka kb kb0 kc KS HLE HS0 hb hL1 hL2 hv3
        have HQ3 : Hid (Duo w wd g r v3 v3 (n + 65) B (k1, k2)) := hd
        clear hd
        obtain ⟨kt1, kt2, kt3, kt4, ⟨ta, tc, kt5⟩, kt6⟩ := HQ3.out.tells (k1, k2) HX.out.2.2
        have K17 : Hid (∀ j, Calls Try.prog 17 #[.pointer (some ⟨g, 0, none⟩)] (wd.drewN j) fun e w' => e = .returned (.int .i64 (v3.L.length : Int)) ∧ w' = wd.drewN j) := kt1
        have K18 : Hid (∀ j, Calls Try.prog 18 #[.pointer (some ⟨g, 0, none⟩)] (wd.drewN j) fun e w' => e = .returned (.int .i64 (v3.lost : Int)) ∧ w' = wd.drewN j) := kt2
        have K19 : Hid (∀ j, Calls Try.prog 19 #[.pointer (some ⟨g, 0, none⟩), .int .i64 k1, .int .i64 k2] (wd.drewN j) fun e w' => e = .returned (.int .i64 (cnt v3.L (k1, k2) : Int)) ∧ w' = wd.drewN j) := kt3
        have K20 : Hid (∀ j, Calls Try.prog 20 #[.pointer (some ⟨r, 0, none⟩), .int .i64 k1, .int .i64 k2] (wd.drewN j) fun e w' => e = .returned (.int .i64 (cnt v3.L (k1, k2) : Int)) ∧ w' = wd.drewN j) := kt4
        have z0 := HQ3.out.box.c0
        have z1 := HQ3.out.box.c1
        dsimp only at z0 z1
        have HE : Hid (∀ j, Duo0 w (wd.drewN j) g r v3 v3 (n + 65)) := fun j => HQ3.out.base.drewN j
        clear HQ3 kt1 kt2 kt3 kt4 HSV HX
        obtain ⟨T1, hT1⟩ : ∃ T, T = v3.L.length := ⟨_, rfl⟩
        obtain ⟨T2, hT2⟩ : ∃ T, T = v3.lost := ⟨_, rfl⟩
        obtain ⟨T3, hT3⟩ : ∃ T, T = cnt v3.L (k1, k2) := ⟨_, rfl⟩
        rw [← hT1] at K17 kt5
        rw [← hT2] at K18 kt6
        rw [← hT3] at K19 K20
        clear hT1 hT2 hT3
        go_upto_region 22 with fail
        go_quiet (first | (go_at_call 17; exact Calls.quiet_of_same (K17.out _)) | (go_at_call 18; exact Calls.quiet_of_same (K18.out _)) | (go_at_call 19; exact Calls.quiet_of_same (K19.out _)) | (go_at_call 20; exact Calls.quiet_of_same (K20.out _)))
        go_wp2
        go_roundw
        case rel => exact ⟨i + 1, v3, (n + 65), by have := HI.out; omega, by omega, by have := HLO.out; omega, by first | rfl | (congr 1; omega), HE.out _⟩
        case measure => have := HI.out; simp [intOf]; omega
      · have m1 := M1.out
        rw [m2] at m1
        have m3 : IntKind.u8.wrap (y % 5) = y % 5 := by rw [IntKind.wrap_u8]; omega
        rw [m2] at m3
        obtain ⟨v3, hv3⟩ : ∃ v3, v3 = dropV s (k1, k2) := ⟨_, rfl⟩
        obtain ⟨E, hE⟩ : ∃ E, E = dropN s (k1, k2) := ⟨_, rfl⟩
        have ka := HD.out.drop (by omega) (k1, k2)
        have KB : Hid (∀ W, Duo w W g r v3 s (n + 65) B (k1, k2) → Calls Try.prog 16 #[.pointer (some ⟨r, 0, none⟩), .int .i64 k1, .int .i64 k2] W fun e w' => e = .returned (.int .i64 (E : Int)) ∧ Duo w w' g r v3 v3 (n + 65) B (k1, k2)) := fun W hW => by
          have := hW.rdrop (k1, k2)
          rw [← hv3, ← hE] at this
          exact this
        rw [← hv3, ← hE] at ka
        have HLO : Hid (v3.lost ≤ i + 1) := by rw [hv3]; exact (show s.lost ≤ i + 1 by omega)
        have HS0 : W.drew.cell? ⟨B, 0, none⟩ = some (.int .i64 k1) ∧ W.drew.cell? ⟨B, 1, none⟩ = some (.int .i64 k2) := ⟨HD.out.box.c0, HD.out.box.c1⟩
        dsimp only at ka
        clear hv3 hE M1 HD
        go_upto_region 12 with fail
        rw [← HW.out, ← HBB.out]
        clear HW HBB q0 q1 cyw
        refine wp_region_noPanic ?_
        refine wp_region_held (S := fun V => V.cell? ⟨B, 0, none⟩ = some (.int .i64 k1) ∧ V.cell? ⟨B, 1, none⟩ = some (.int .i64 k2)) (by kernel_rfl) ?_
        have hS := HS0
        refine any_take 0 ?vren1 rfl (by kernel_rfl) (by kernel_rfl) (by kernel_rfl) (fun _ _ _ h => h) (by rfl) ?hren1 hS ?_
        case hren1 => (intro w hSw; (try dsimp only at hSw); go_split_ands; go_simp; (try with_reducible rfl))
        (try simp only [Act.put, List.setIfInBounds_toArray, List.set_cons_zero, List.set_cons_succ])
        refine any_take 1 ?vren2 rfl (by kernel_rfl) (by kernel_rfl) (by kernel_rfl) (fun _ _ _ h => h) (by rfl) ?hren2 hS ?_
        case hren2 => (intro w hSw; (try dsimp only at hSw); go_split_ands; go_simp; (try with_reducible rfl))
        (try simp only [Act.put, List.setIfInBounds_toArray, List.set_cons_zero, List.set_cons_succ])
        refine any_take 2 ?vren3 rfl (by kernel_rfl) (by kernel_rfl) (by kernel_rfl) (fun _ _ _ h => h) (by rfl) ?hren3 hS ?_
        case hren3 => (intro w hSw; (try dsimp only at hSw); go_split_ands; go_simp; (try with_reducible rfl))
        (try simp only [Act.put, List.setIfInBounds_toArray, List.set_cons_zero, List.set_cons_succ])
        refine any_take 3 ?vren4 rfl (by kernel_rfl) (by kernel_rfl) (by kernel_rfl) (fun _ _ _ h => h) (by rfl) ?hren4 hS ?_
        case hren4 => (intro w hSw; (try dsimp only at hSw); go_split_ands; go_simp; (try with_reducible rfl))
        (try simp only [Act.put, List.setIfInBounds_toArray, List.set_cons_zero, List.set_cons_succ])
        refine any_take 4 ?vren5 rfl (by kernel_rfl) (by kernel_rfl) (by kernel_rfl) (fun _ _ _ h => h) (by rfl) ?hren5 hS ?_
        case hren5 => (intro w hSw; (try dsimp only at hSw); go_split_ands; go_simp; (try with_reducible rfl))
        (try simp only [Act.put, List.setIfInBounds_toArray, List.set_cons_zero, List.set_cons_succ])
        refine any_take 6 ?vren6 rfl (by kernel_rfl) (by kernel_rfl) (by kernel_rfl) (fun _ _ _ h => h) (by rfl) ?hren6 hS ?_
        case hren6 => (intro w hSw; (try dsimp only at hSw); go_split_ands; go_simp; (try with_reducible rfl))
        (try simp only [Act.put, List.setIfInBounds_toArray, List.set_cons_zero, List.set_cons_succ])
        refine any_take 7 ?vren7 rfl (by kernel_rfl) (by kernel_rfl) (by kernel_rfl) (fun _ _ _ h => h) (by rfl) ?hren7 hS ?_
        case hren7 => (intro w hSw; (try dsimp only at hSw); go_split_ands; go_simp; (try with_reducible rfl))
        (try simp only [Act.put, List.setIfInBounds_toArray, List.set_cons_zero, List.set_cons_succ])
        refine any_take 8 ?vren8 rfl (by kernel_rfl) (by kernel_rfl) (by kernel_rfl) (fun _ _ _ h => h) (by rfl) ?hren8 hS ?_
        case hren8 => (intro w hSw; (try dsimp only at hSw); go_split_ands; go_simp; (try with_reducible rfl))
        (try simp only [Act.put, List.setIfInBounds_toArray, List.set_cons_zero, List.set_cons_succ])
        refine any_take 9 ?vren9 rfl (by kernel_rfl) (by kernel_rfl) (by kernel_rfl) (fun _ _ _ h => h) (by rfl) ?hren9 hS ?_
        case hren9 => (intro w hSw; (try dsimp only at hSw); go_split_ands; go_simp; (try with_reducible rfl))
        (try simp only [Act.put, List.setIfInBounds_toArray, List.set_cons_zero, List.set_cons_succ])
        refine any_take 10 ?vren10 rfl (by kernel_rfl) (by kernel_rfl) (by kernel_rfl) (fun _ _ _ h => h) (by rfl) ?hren10 hS ?_
        case hren10 => (intro w hSw; (try dsimp only at hSw); go_split_ands; go_simp; (try with_reducible rfl))
        (try simp only [Act.put, List.setIfInBounds_toArray, List.set_cons_zero, List.set_cons_succ])
        refine any_one 5 rfl (by kernel_rfl) (by rfl) (fun K hK => ?_)
        clear hS
        go_simp
        refine ka.mono ?_
        rintro e wb ⟨rfl, hb⟩
        have kb := KB.out wb hb
        refine hK.out _ _ (⟨hb.box.c0, hb.box.c1⟩) (fun hS => ?_)
        clear hK
        (try simp only [Act.put, List.setIfInBounds_toArray, List.set_cons_zero, List.set_cons_succ])
        refine any_one 11 rfl (by kernel_rfl) (by rfl) (fun K hK => ?_)
        clear hS
        go_simp
        refine kb.mono ?_
        rintro e wd ⟨rfl, hd⟩
        refine hK.out _ _ (⟨hd.box.c0, hd.box.c1⟩) (fun hS => ?_)
        clear hK
        (try simp only [Act.put, List.setIfInBounds_toArray, List.set_cons_zero, List.set_cons_succ])
        refine any_take 12 ?vren11 rfl (by kernel_rfl) (by kernel_rfl) (by kernel_rfl) (fun _ _ _ h => h) (by rfl) ?hren11 hS ?_
        case hren11 => (intro w hSw; (try dsimp only at hSw); go_split_ands; go_simp; (try with_reducible rfl))
        (try simp only [Act.put, List.setIfInBounds_toArray, List.set_cons_zero, List.set_cons_succ])
        refine wpAnyH_done (by kernel_rfl) ?_ _
        refine NoPanic.normal ?_
        clear hS ka kb KB HS0 hb
        have HQ3 : Hid (Duo w wd g r v3 v3 (n + 65) B (k1, k2)) := hd
        clear hd
        obtain ⟨kt1, kt2, kt3, kt4, ⟨ta, tc, kt5⟩, kt6⟩ := HQ3.out.tells (k1, k2) HX.out.2.2
        have K17 : Hid (∀ j, Calls Try.prog 17 #[.pointer (some ⟨g, 0, none⟩)] (wd.drewN j) fun e w' => e = .returned (.int .i64 (v3.L.length : Int)) ∧ w' = wd.drewN j) := kt1
        have K18 : Hid (∀ j, Calls Try.prog 18 #[.pointer (some ⟨g, 0, none⟩)] (wd.drewN j) fun e w' => e = .returned (.int .i64 (v3.lost : Int)) ∧ w' = wd.drewN j) := kt2
        have K19 : Hid (∀ j, Calls Try.prog 19 #[.pointer (some ⟨g, 0, none⟩), .int .i64 k1, .int .i64 k2] (wd.drewN j) fun e w' => e = .returned (.int .i64 (cnt v3.L (k1, k2) : Int)) ∧ w' = wd.drewN j) := kt3
        have K20 : Hid (∀ j, Calls Try.prog 20 #[.pointer (some ⟨r, 0, none⟩), .int .i64 k1, .int .i64 k2] (wd.drewN j) fun e w' => e = .returned (.int .i64 (cnt v3.L (k1, k2) : Int)) ∧ w' = wd.drewN j) := kt4
        have z0 := HQ3.out.box.c0
        have z1 := HQ3.out.box.c1
        dsimp only at z0 z1
        have HE : Hid (∀ j, Duo0 w (wd.drewN j) g r v3 v3 (n + 65)) := fun j => HQ3.out.base.drewN j
        clear HQ3 kt1 kt2 kt3 kt4 HSV HX
        obtain ⟨T1, hT1⟩ : ∃ T, T = v3.L.length := ⟨_, rfl⟩
        obtain ⟨T2, hT2⟩ : ∃ T, T = v3.lost := ⟨_, rfl⟩
        obtain ⟨T3, hT3⟩ : ∃ T, T = cnt v3.L (k1, k2) := ⟨_, rfl⟩
        rw [← hT1] at K17 kt5
        rw [← hT2] at K18 kt6
        rw [← hT3] at K19 K20
        clear hT1 hT2 hT3
        go_upto_region 22 with fail
        go_quiet (first | (go_at_call 17; exact Calls.quiet_of_same (K17.out _)) | (go_at_call 18; exact Calls.quiet_of_same (K18.out _)) | (go_at_call 19; exact Calls.quiet_of_same (K19.out _)) | (go_at_call 20; exact Calls.quiet_of_same (K20.out _)))
        go_wp2
        go_roundw
        case rel => exact ⟨i + 1, v3, (n + 65), by have := HI.out; omega, by omega, by have := HLO.out; omega, by first | rfl | (congr 1; omega), HE.out _⟩
        case measure => have := HI.out; simp [intOf]; omega
    · by_cases b0 : ¬ (i < kl.length)
      · have f0 : decide ((i : Int) < (kl.length : Int)) = false := by simp; omega
        have ka := KA.out wr hs.low
        clear hall hs H1 H2 H3 KA
        go_wp2_with fail
        refine ka.mono ?_
        rintro e wc ⟨rfl, hc⟩
        have HC : Hid (Below w.heap.size w wc) := hc
        clear hc ka
        go_wp2
        go_ret
        exact ⟨rfl, HC.out⟩
      · have f0 : decide ((i : Int) < (kl.length : Int)) = true := by simp; omega
        by_cases b1 : ¬ (i < cl.length)
        · have f1 : decide ((i : Int) < (cl.length : Int)) = false := by simp; omega
          have ka := KA.out wr hs.low
          clear hall hs H1 H2 H3 KA
          go_wp2_with fail
          refine ka.mono ?_
          rintro e wc ⟨rfl, hc⟩
          have HC : Hid (Below w.heap.size w wc) := hc
          clear hc ka
          go_wp2
          go_ret
          exact ⟨rfl, HC.out⟩
        · have f1 : decide ((i : Int) < (cl.length : Int)) = true := by simp; omega
          by_cases b2 : ¬ (i < P.length)
          · have f2 : decide ((i : Int) < (P.length : Int)) = false := by simp; omega
            have ka := KA.out wr hs.low
            clear hall hs H1 H2 H3 KA
            go_wp2_with fail
            refine ka.mono ?_
            rintro e wc ⟨rfl, hc⟩
            have HC : Hid (Below w.heap.size w wc) := hc
            clear hc ka
            go_wp2
            go_ret
            exact ⟨rfl, HC.out⟩
          · have f2 : decide ((i : Int) < (P.length : Int)) = true := by simp; omega
            have f3 : decide ((i : Int) < 150) = false := by simp; omega
            have ka := KA.out wr hs.low
            clear hall hs H1 H2 H3 KA
            go_wp2_with fail
            refine ka.mono ?_
            rintro e wc ⟨rfl, hc⟩
            have HC : Hid (Below w.heap.size w wc) := hc
            clear hc ka
            go_wp2
            go_ret
            exact ⟨rfl, HC.out⟩
end Go.Proofs.Yteehkekmaikeiaa
