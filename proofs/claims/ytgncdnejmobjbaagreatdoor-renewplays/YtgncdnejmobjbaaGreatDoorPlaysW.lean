/-
  The walk of RenewPlays.
-/
import Derived.Test.YtgncdnejmobjbaaGreatDoorRenY
import Derived.Test.YtgncdnejmobjbaaGreatDoorPairArg
namespace Go.Proofs.YtgncdnejmobjbaaGreatDoor
open Go.ChangeShapes Go.WideShapes Go.ChangeAt Go.RowKit
set_option maxRecDepth 20000

set_option maxHeartbeats 16000000 in
theorem plays_walk (c : Cf) (a1 : Option Addr) (c1 : Nat) (own : List UInt8) (sl : Int) (a3 : Option Addr) (c3 : Nat) (kl : List Int) (a4 : Option Addr) (c4 : Nat) (cl : List Key) (a5 : Option Addr) (c5 : Nat) (tl : List Int) (w : World) (hTab : FTab w ∧ KTab w)
    (s1 : Sees w a1 c1 own) (_ : c1 ≤ 140737488351232) (_w2 : (Lit.int .i64 sl).wf = true) (s3 : Nums .u8 w a3 c3 kl) (s4 : Pairs w a4 c4 cl) (s5 : Nums .i64 w a5 c5 tl) :
    Calls Tryz.prog 3 #[.agg (cfC c), .slice a1 own.length c1, .int .i64 sl, .slice a3 kl.length c3, .slice a4 cl.length c4, .slice a5 tl.length c5] w fun e w' => e = .returned (.bool true) ∧ Below w.heap.size w w' := by
  have H1 : Hid (Sees w a1 c1 own) := s1
  have H3 : Hid (Nums .u8 w a3 c3 kl) := s3
  have H4 : Hid (Pairs w a4 c4 cl) := s4
  have H5 : Hid (Nums .i64 w a5 c5 tl) := s5
  have l3 := s3.len
  have l4 := s4.len
  have l5 := s5.len
  have HF : Hid (FTab w) := hTab.1
  have HT : Hid (KTab w) := hTab.2
  have KA : Hid (∀ V, Below w.heap.size w V → Calls Tryz.prog 4 #[] V fun e w' => e = .returned (.bool true) ∧ Below w.heap.size w w') := fun V hV => by
    refine (awake_ok V (HF.out.below hV) (HT.out.below hV)).mono ?_
    rintro e w' ⟨rfl, hb⟩
    exact ⟨rfl, hV.trans (hb.mono hV.size)⟩
  obtain ⟨W0, hW0⟩ : ∃ W0, W0 = w.alloc (.cells (cfC c) 23) := ⟨_, rfl⟩
  have HW0 : Hid (W0 = w.alloc (.cells (cfC c) 23)) := hW0
  have HC0 : Hid (CfAt W0 w.heap.size c) := by rw [hW0]; exact CfAt.new w c
  have HB0 : Hid (Below w.heap.size w W0) := by rw [hW0]; exact (Below.refl _ _).alloc (Nat.le_refl _) _
  have HL0 : Hid ((Instr.loadAt 23 (.pointer (some ⟨w.heap.size, 0, none⟩))).run Tryz.prog W0 = .ok (.agg (cfC c)) W0) := HC0.out.loads
  have q4 : W0.cell? ⟨w.heap.size, 4, none⟩ = some (.int .i64 c.k) := HC0.out.c4
  clear s1 s3 s4 s5 hTab hW0
  by_cases hk : 60 < c.k
  · have ka := KA.out W0 HB0.out
    clear H1 H3 H4 H5 KA
    go_enter Tryz.func3, Tryz.ntmps3
    go_upto_region 1 with fail
    rw [← HW0.out]
    go_wp2_with fail
    refine ka.mono ?_
    rintro e wd ⟨rfl, hb⟩
    have HB : Hid (Below w.heap.size w wd) := hb
    clear ka hb
    go_wp2
    go_ret
    exact ⟨rfl, HB.out⟩
  by_cases hr : rnB c own sl = true
  rotate_left
  · have hr' : rnB c own sl = false := by simpa using hr
    have K1 := pnew_no W0 c a1 c1 own sl hr'
    have K2 : Hid (∀ V, Below W0.heap.size W0 V → Calls Tryz.prog 6 #[.agg (cfC c), .slice a1 own.length c1, .int .i64 sl] V fun e w' => e = .returned (.tuple #[.pointer none, .int .i64 1]) ∧ Below W0.heap.size W0 w') := fun V hV => (dnew_no V c a1 c1 own sl hr').mono fun _ _ ⟨h1, h2⟩ => ⟨h1, hV.trans (h2.mono hV.size)⟩
    obtain ⟨n1, hn1⟩ : ∃ n, n = own.length := ⟨_, rfl⟩
    rw [← hn1] at K1 K2 ⊢
    clear H3 H4 H5 hr hr' hn1
    go_enter Tryz.func3, Tryz.ntmps3
    go_upto_region 1 with fail
    rw [← HW0.out]
    go_wp2_with (first | (refine wpList_gload_run rfl 23 _ rfl _ _ rfl HL0.out ?_) | fail)
    refine K1.mono ?_
    rintro e w1 ⟨rfl, hb1⟩
    have HL1 : Hid ((Instr.loadAt 23 (.pointer (some ⟨w.heap.size, 0, none⟩))).run Tryz.prog w1 = .ok (.agg (cfC c)) w1) := (HC0.out.below hb1).loads
    have k2 := K2.out w1 hb1
    clear K1 K2 hb1
    go_wp2_with (first | (refine wpList_gload_run rfl 23 _ rfl _ _ rfl HL1.out ?_) | fail)
    refine k2.mono ?_
    rintro e w2 ⟨rfl, hb2⟩
    have ka := KA.out w2 (HB0.out.trans (hb2.mono HB0.out.size))
    clear k2 hb2
    go_wp2_with fail
    refine ka.mono ?_
    rintro e wd ⟨rfl, hb⟩
    have HB : Hid (Below w.heap.size w wd) := hb
    clear ka hb
    go_wp2
    go_ret
    exact ⟨rfl, HB.out⟩
  have K1 := PSolo.new W0 c a1 c1 own sl (HF.out.below HB0.out) (HT.out.below HB0.out) (H1.out.below HB0.out) hr
  have K2 : Hid (∀ V R, PSolo W0 V R (rnNew c own sl) → Calls Tryz.prog 6 #[.agg (cfC c), .slice a1 own.length c1, .int .i64 sl] V fun e w' => ∃ D, e = .returned (.tuple #[.pointer (some ⟨D, 0, none⟩), .int .i64 0]) ∧ NDuo W0 w' R D (rnNew c own sl) (rnNew c own sl)) := fun V R hV => NDuo.new hV a1 c1 ((H1.out.below HB0.out).below hV.at'.2.2.2) hr
  obtain ⟨n1, hn1⟩ : ∃ n, n = own.length := ⟨_, rfl⟩
  rw [← hn1] at K1 K2 ⊢
  clear hr hn1
  go_enter Tryz.func3, Tryz.ntmps3
  go_upto_region 1 with fail
  rw [← HW0.out]
  go_wp2_with (first | (refine wpList_gload_run rfl 23 _ rfl _ _ rfl HL0.out ?_) | fail)
  refine K1.mono ?_
  rintro e w1 ⟨R, rfl, hP⟩
  have HL1 : Hid ((Instr.loadAt 23 (.pointer (some ⟨w.heap.size, 0, none⟩))).run Tryz.prog w1 = .ok (.agg (cfC c)) w1) := (HC0.out.below hP.at'.2.2.2).loads
  have k2 := K2.out w1 R hP
  clear K1 K2 hP
  go_wp2_with (first | (refine wpList_gload_run rfl 23 _ rfl _ _ rfl HL1.out ?_) | fail)
  refine k2.mono ?_
  rintro e w2 ⟨D, rfl, hD⟩
  have HS : Hid (NDuo W0 w2 R D (rnNew c own sl) (rnNew c own sl)) := hD
  clear k2 hD HL0 HL1 HC0 q4 hk
  go_wp2
  go_loopw [17] (fun u wr => ∃ (i : Nat) (s : Rn), i ≤ 60 ∧ u = .int .i64 (i : Int) ∧ NDuo W0 wr R D s s) (fun u _ => 60 - (intOf u).toNat)
  case atStart => exact ⟨0, _, by omega, rfl, HS.out⟩
  case round =>
    obtain ⟨i, s, hi, rfl, hs⟩ := hrel
    clear HS
    have g0 : (0 : Int) ≤ (i : Int) := Int.natCast_nonneg _
    have hlow : Below w.heap.size w wr := HB0.out.trans (hs.low.1.mono HB0.out.size)
    by_cases hall : i < kl.length ∧ i < cl.length ∧ i < tl.length ∧ i < 60
    · obtain ⟨i1, i2, i3, i4⟩ := hall
      obtain ⟨y, hy⟩ : ∃ y, kl[i]? = some y := ⟨kl[i], by simp [i1]⟩
      obtain ⟨kb, kof, rfl, cy⟩ := H3.out.get hy
      obtain ⟨z, hz⟩ : ∃ z, cl[i]? = some z := ⟨cl[i], by simp [i2]⟩
      obtain ⟨cb, cof, rfl, cz0, cz1⟩ := H4.out.get hz
      obtain ⟨tm, htm⟩ : ∃ tm, tl[i]? = some tm := ⟨tl[i], by simp [i3]⟩
      obtain ⟨tb, tof, rfl, ct⟩ := H5.out.get htm
      have by1 : 0 ≤ y ∧ y < 256 := by have := H3.out.wf y (List.mem_of_getElem? hy); simp [Lit.wf, IntKind.min, IntKind.max, IntKind.signed, IntKind.bits] at this; omega
      obtain ⟨k1, k2⟩ := z
      dsimp only at cz0 cz1
      obtain ⟨W, hW⟩ : ∃ W, W = wr.alloc (.cells #[.int .i64 k1, .int .i64 k2] 35) := ⟨_, rfl⟩
      have hbW : Below wr.heap.size wr W := by rw [hW]; exact (Below.refl _ _).alloc (Nat.le_refl _) _
      have hxb : NBox W wr.heap.size (k1, k2) := by rw [hW]; exact heap_alloc_new _ _
      obtain ⟨B, hB⟩ : ∃ B, B = wr.heap.size := ⟨_, rfl⟩
      rw [← hB] at hxb
      have q0 : wr.cell? ⟨cb, cof + i * 2, none⟩ = some (.int .i64 k1) := by rw [hlow.cell (p := ⟨cb, cof + i * 2, none⟩) (World.block_lt_of_cell? w _ cz0)]; exact cz0
      have q1 : wr.cell? ⟨cb, cof + i * 2 + 1, none⟩ = some (.int .i64 k2) := by rw [hlow.cell (p := ⟨cb, cof + i * 2 + 1, none⟩) (World.block_lt_of_cell? w _ cz1)]; exact cz1
      have HTM : Hid (∀ V, Below w.heap.size w V → V.cell? ⟨tb, tof + i, none⟩ = some (.int .i64 tm)) := fun V hb => by rw [hb.cell (p := ⟨tb, tof + i, none⟩) (World.block_lt_of_cell? w _ ct)]; exact ct
      have HSV : Hid (∀ V, Below w.heap.size w V → NBox V B (k1, k2) → (V.cell? ⟨kb, kof + i, none⟩ = some (.int .u8 y) ∧ V.cell? ⟨B, 0, none⟩ = some (.int .i64 k1) ∧ V.cell? ⟨B, 1, none⟩ = some (.int .i64 k2))) := fun V hb hx => ⟨by rw [hb.cell (p := ⟨kb, kof + i, none⟩) (World.block_lt_of_cell? w _ cy)]; exact cy, hx.c0, hx.c1⟩
      have HBL : Hid (∀ V s t, NDuo W0 V R D s t → Below w.heap.size w V) := fun V s t h => HB0.out.trans (h.low.1.mono HB0.out.size)
      have t1 : decide ((i : Int) < (kl.length : Int)) = true := by simp; omega
      have t2 : decide ((i : Int) < (cl.length : Int)) = true := by simp; omega
      have t3 : decide ((i : Int) < (tl.length : Int)) = true := by simp; omega
      have t4 : decide ((i : Int) < 60) = true := by simp; omega
      have j1 : (i : Int) < (kl.length : Int) := by omega
      have j2 : (i : Int) < (cl.length : Int) := by omega
      have j3 : (i : Int) < (tl.length : Int) := by omega
      have e4 : IntKind.i64.wrap ((i : Int) + 1) = ((i + 1 : Nat) : Int) := by rw [IntKind.wrap_i64]; omega
      have HW : Hid (W = wr.alloc (.cells #[.int .i64 k1, .int .i64 k2] 35)) := hW
      have HBB : Hid (B = wr.heap.size) := hB
      have HD : Hid (NDuo W0 W.drew R D s s ∧ NBox W.drew B (k1, k2)) := ⟨(hs.below hbW).below (Below.refl _ _).drew, hxb.below (Below.refl _ _).drew⟩
      have HI : Hid (i < 60) := i4
      have HS0 := HSV.out W.drew (HBL.out _ _ _ HD.out.1) HD.out.2
      have hyw : IntKind.u8.wrap (y % 4) = y % 4 := by rw [IntKind.wrap_u8]; omega
      have hyt : y.tmod 4 = y % 4 := Int.tmod_eq_emod_of_nonneg by1.1
      clear hy cy hz cz0 cz1 htm ct by1 hlow hW hbW hxb hB hs H3 H4 H5 H1
      by_cases hm : y % 4 = 0
      · rw [hm] at hyt hyw
        obtain ⟨v, hv⟩ : ∃ v, v = s.begV k1 k2 := ⟨_, rfl⟩
        obtain ⟨E, hE⟩ : ∃ E, E = s.begE k1 k2 := ⟨_, rfl⟩
        have ka := HD.out.1.pbegin k1 k2
        have KB : Hid (∀ V, NDuo W0 V R D v s → Calls Tryz.prog 8 #[.pointer (some ⟨D, 0, none⟩), .int .i64 k1, .int .i64 k2] V fun ev w' => ev = .returned (.int .i64 E) ∧ NDuo W0 w' R D v v ∧ Frame V w') := fun V hV => by
          have := hV.dbegin k1 k2
          rw [← hv, ← hE] at this
          exact this
        rw [← hv, ← hE] at ka
        clear hv hE
        go_upto_region 13 with fail
        rw [← HW.out, ← HBB.out]
        clear HW HBB q0 q1
        refine wp_region_noPanic ?_
        refine wp_region_held (S := fun V => V.cell? ⟨kb, kof + i, none⟩ = some (.int .u8 y) ∧ V.cell? ⟨B, 0, none⟩ = some (.int .i64 k1) ∧ V.cell? ⟨B, 1, none⟩ = some (.int .i64 k2)) (by kernel_rfl) ?_
        have hS := HS0
        refine any_take 0 ?vran1 rfl (by kernel_rfl) (by kernel_rfl) (by kernel_rfl) (fun _ _ _ h => h) (by rfl) ?hran1 hS ?_
        case hran1 => (intro w hSw; (try dsimp only at hSw); go_split_ands; go_simp; (try with_reducible rfl))
        (try simp only [Act.put, List.setIfInBounds_toArray, List.set_cons_zero, List.set_cons_succ])
        refine any_take 1 ?vran2 rfl (by kernel_rfl) (by kernel_rfl) (by kernel_rfl) (fun _ _ _ h => h) (by rfl) ?hran2 hS ?_
        case hran2 => (intro w hSw; (try dsimp only at hSw); go_split_ands; go_simp; (try with_reducible rfl))
        (try simp only [Act.put, List.setIfInBounds_toArray, List.set_cons_zero, List.set_cons_succ])
        refine any_take 2 ?vran3 rfl (by kernel_rfl) (by kernel_rfl) (by kernel_rfl) (fun _ _ _ h => h) (by rfl) ?hran3 hS ?_
        case hran3 => (intro w hSw; (try dsimp only at hSw); go_split_ands; go_simp; (try with_reducible rfl))
        (try simp only [Act.put, List.setIfInBounds_toArray, List.set_cons_zero, List.set_cons_succ])
        refine any_take 3 ?vran4 rfl (by kernel_rfl) (by kernel_rfl) (by kernel_rfl) (fun _ _ _ h => h) (by rfl) ?hran4 hS ?_
        case hran4 => (intro w hSw; (try dsimp only at hSw); go_split_ands; go_simp; (try with_reducible rfl))
        (try simp only [Act.put, List.setIfInBounds_toArray, List.set_cons_zero, List.set_cons_succ])
        refine any_take 4 ?vran5 rfl (by kernel_rfl) (by kernel_rfl) (by kernel_rfl) (fun _ _ _ h => h) (by rfl) ?hran5 hS ?_
        case hran5 => (intro w hSw; (try dsimp only at hSw); go_split_ands; go_simp; (try with_reducible rfl))
        (try simp only [Act.put, List.setIfInBounds_toArray, List.set_cons_zero, List.set_cons_succ])
        refine any_take 5 (Value.bool true) rfl (by kernel_rfl) (by kernel_rfl) (by kernel_rfl) (fun _ _ _ h => h) (by rfl) (by intro w hSw; (try dsimp only at hSw); go_split_ands; go_simp; first | done | (simp; omega)) hS ?_
        (try simp only [Act.put, List.setIfInBounds_toArray, List.set_cons_zero, List.set_cons_succ])
        refine any_take 6 ?vran6 rfl (by kernel_rfl) (by kernel_rfl) (by kernel_rfl) (fun _ _ _ h => h) (by rfl) ?hran6 hS ?_
        case hran6 => (intro w hSw; (try dsimp only at hSw); go_split_ands; go_simp; (try with_reducible rfl))
        (try simp only [Act.put, List.setIfInBounds_toArray, List.set_cons_zero, List.set_cons_succ])
        refine any_take 7 ?vran7 rfl (by kernel_rfl) (by kernel_rfl) (by kernel_rfl) (fun _ _ _ h => h) (by rfl) ?hran7 hS ?_
        case hran7 => (intro w hSw; (try dsimp only at hSw); go_split_ands; go_simp; (try with_reducible rfl))
        (try simp only [Act.put, List.setIfInBounds_toArray, List.set_cons_zero, List.set_cons_succ])
        refine any_take 8 ?vran8 rfl (by kernel_rfl) (by kernel_rfl) (by kernel_rfl) (fun _ _ _ h => h) (by rfl) ?hran8 hS ?_
        case hran8 => (intro w hSw; (try dsimp only at hSw); go_split_ands; go_simp; (try with_reducible rfl))
        (try simp only [Act.put, List.setIfInBounds_toArray, List.set_cons_zero, List.set_cons_succ])
        refine any_take 9 ?vran9 rfl (by kernel_rfl) (by kernel_rfl) (by kernel_rfl) (fun _ _ _ h => h) (by rfl) ?hran9 hS ?_
        case hran9 => (intro w hSw; (try dsimp only at hSw); go_split_ands; go_simp; (try with_reducible rfl))
        (try simp only [Act.put, List.setIfInBounds_toArray, List.set_cons_zero, List.set_cons_succ])
        refine any_take 10 ?vran10 rfl (by kernel_rfl) (by kernel_rfl) (by kernel_rfl) (fun _ _ _ h => h) (by rfl) ?hran10 hS ?_
        case hran10 => (intro w hSw; (try dsimp only at hSw); go_split_ands; go_simp; (try with_reducible rfl))
        (try simp only [Act.put, List.setIfInBounds_toArray, List.set_cons_zero, List.set_cons_succ])
        refine any_take 11 ?vran11 rfl (by kernel_rfl) (by kernel_rfl) (by kernel_rfl) (fun _ _ _ h => h) (by rfl) ?hran11 hS ?_
        case hran11 => (intro w hSw; (try dsimp only at hSw); go_split_ands; go_simp; (try with_reducible rfl))
        (try simp only [Act.put, List.setIfInBounds_toArray, List.set_cons_zero, List.set_cons_succ])
        refine any_take 13 ?vran12 rfl (by kernel_rfl) (by kernel_rfl) (by kernel_rfl) (fun _ _ _ h => h) (by rfl) ?hran12 hS ?_
        case hran12 => (intro w hSw; (try dsimp only at hSw); go_split_ands; go_simp; (try with_reducible rfl))
        (try simp only [Act.put, List.setIfInBounds_toArray, List.set_cons_zero, List.set_cons_succ])
        refine any_take 14 ?vran13 rfl (by kernel_rfl) (by kernel_rfl) (by kernel_rfl) (fun _ _ _ h => h) (by rfl) ?hran13 hS ?_
        case hran13 => (intro w hSw; (try dsimp only at hSw); go_split_ands; go_simp; (try with_reducible rfl))
        (try simp only [Act.put, List.setIfInBounds_toArray, List.set_cons_zero, List.set_cons_succ])
        refine any_take 15 ?vran14 rfl (by kernel_rfl) (by kernel_rfl) (by kernel_rfl) (fun _ _ _ h => h) (by rfl) ?hran14 hS ?_
        case hran14 => (intro w hSw; (try dsimp only at hSw); go_split_ands; go_simp; (try with_reducible rfl))
        (try simp only [Act.put, List.setIfInBounds_toArray, List.set_cons_zero, List.set_cons_succ])
        refine any_take 16 ?vran15 rfl (by kernel_rfl) (by kernel_rfl) (by kernel_rfl) (fun _ _ _ h => h) (by rfl) ?hran15 hS ?_
        case hran15 => (intro w hSw; (try dsimp only at hSw); go_split_ands; go_simp; (try with_reducible rfl))
        (try simp only [Act.put, List.setIfInBounds_toArray, List.set_cons_zero, List.set_cons_succ])
        refine any_take 17 ?vran16 rfl (by kernel_rfl) (by kernel_rfl) (by kernel_rfl) (fun _ _ _ h => h) (by rfl) ?hran16 hS ?_
        case hran16 => (intro w hSw; (try dsimp only at hSw); go_split_ands; go_simp; (try with_reducible rfl))
        (try simp only [Act.put, List.setIfInBounds_toArray, List.set_cons_zero, List.set_cons_succ])
        refine any_one 12 rfl (by kernel_rfl) (by rfl) (fun K hK => ?_)
        clear hS
        go_simp
        refine ka.mono ?_
        rintro ev wa ⟨rfl, ha, hfa⟩
        have kb1 := KB.out wa ha
        have hx1 := hfa.2 _ _ HD.out.2
        have hs1 := HSV.out wa (HBL.out _ _ _ ha) hx1
        refine hK.out _ _ (hs1) (fun hS => ?_)
        clear hK
        (try simp only [Act.put, List.setIfInBounds_toArray, List.set_cons_zero, List.set_cons_succ])
        refine any_one 18 rfl (by kernel_rfl) (by rfl) (fun K hK => ?_)
        clear hS
        go_simp
        refine kb1.mono ?_
        rintro ev wb ⟨rfl, hb, hfb⟩
        have hx2 := hfb.2 _ _ hx1
        have hs2 := HSV.out wb (HBL.out _ _ _ hb) hx2
        refine hK.out _ _ (hs2) (fun hS => ?_)
        clear hK
        (try simp only [Act.put, List.setIfInBounds_toArray, List.set_cons_zero, List.set_cons_succ])
        refine any_take 19 (Value.bool false) rfl (by kernel_rfl) (by kernel_rfl) (by kernel_rfl) (fun _ _ _ h => h) (by rfl) (by intro w hSw; (try dsimp only at hSw); go_split_ands; go_simp; first | done | (simp; omega)) hS ?_
        (try simp only [Act.put, List.setIfInBounds_toArray, List.set_cons_zero, List.set_cons_succ])
        refine any_take 20 ?vran17 rfl (by kernel_rfl) (by kernel_rfl) (by kernel_rfl) (fun _ _ _ h => h) (by rfl) ?hran17 hS ?_
        case hran17 => (intro w hSw; (try dsimp only at hSw); go_split_ands; go_simp; (try with_reducible rfl))
        (try simp only [Act.put, List.setIfInBounds_toArray, List.set_cons_zero, List.set_cons_succ])
        refine wpAnyH_done (by kernel_rfl) ?_ _
        refine NoPanic.normal ?_
        have HQ : Hid (NDuo W0 wb R D v v ∧ NBox wb B (k1, k2)) := ⟨hb, hx2⟩
        clear hS ka kb1 KB HS0 ha hfa hb hfb hx1 hx2 hs1 hs2 HD
        have z1 := HQ.out.2.c1
        dsimp only at z1
        obtain ⟨M, hM⟩ : ∃ M, M = v.mac k2 := ⟨_, rfl⟩
        obtain ⟨T, hT⟩ : ∃ T, T = v.told k2 := ⟨_, rfl⟩
        have HM : Hid (M = v.mac k2 ∧ T = v.told k2) := ⟨hM, hT⟩
        have K1 := HQ.out.1.pmac k2
        rw [← hM] at K1
        obtain ⟨m1, mb, m3⟩ := M
        obtain ⟨u1, ub, u3⟩ := T
        clear hM hT
        dsimp only at K1
        go_wp2_with fail
        refine K1.mono ?_
        rintro ev x1 ⟨d1, e1, rfl, p1, hN1, hf1⟩
        have HQ1 : Hid (NDuo W0 x1 R D v v ∧ NBox x1 B (k1, k2) ∧ Sees x1 d1 e1 mb) := ⟨hN1, hf1.2 _ _ HQ.out.2, p1⟩
        have K2 := HQ1.out.1.dmac k2
        rw [← HM.out.1] at K2
        dsimp only at K2
        clear K1 hN1 hf1 p1 z1
        have z1 := HQ1.out.2.1.c1
        dsimp only at z1
        go_wp2_with fail
        refine K2.mono ?_
        rintro ev x2 ⟨d2, e2, rfl, p2, hN2, hf2⟩
        have HQ2 : Hid (NDuo W0 x2 R D v v ∧ NBox x2 B (k1, k2) ∧ Sees x2 d1 e1 mb ∧ Sees x2 d2 e2 mb) := ⟨hN2, hf2.2 _ _ HQ1.out.2.1, hf2.1 _ _ _ HQ1.out.2.2, p2⟩
        have K3 := HQ2.out.1.ptold k2
        rw [← HM.out.2] at K3
        dsimp only at K3
        clear K2 hN2 hf2 p2 z1 HQ1
        have z1 := HQ2.out.2.1.c1
        dsimp only at z1
        go_wp2_with fail
        refine K3.mono ?_
        rintro ev x3 ⟨d3, e3, rfl, p3, hN3, hf3⟩
        have HQ3 : Hid (NDuo W0 x3 R D v v ∧ NBox x3 B (k1, k2) ∧ Sees x3 d1 e1 mb ∧ Sees x3 d2 e2 mb ∧ Sees x3 d3 e3 ub) := ⟨hN3, hf3.2 _ _ HQ2.out.2.1, hf3.1 _ _ _ HQ2.out.2.2.1, hf3.1 _ _ _ HQ2.out.2.2.2, p3⟩
        have K4 := HQ3.out.1.dtold k2
        rw [← HM.out.2] at K4
        dsimp only at K4
        clear K3 hN3 hf3 p3 z1 HQ2
        have z1 := HQ3.out.2.1.c1
        dsimp only at z1
        go_wp2_with fail
        refine K4.mono ?_
        rintro ev x4 ⟨d4, e4', rfl, p4, hN4, hf4⟩
        have HQ4 : Hid (NDuo W0 x4 R D v v ∧ NBox x4 B (k1, k2) ∧ Sees x4 d1 e1 mb ∧ Sees x4 d2 e2 mb ∧ Sees x4 d3 e3 ub ∧ Sees x4 d4 e4' ub) := ⟨hN4, hf4.2 _ _ HQ3.out.2.1, hf4.1 _ _ _ HQ3.out.2.2.1, hf4.1 _ _ _ HQ3.out.2.2.2.1, hf4.1 _ _ _ HQ3.out.2.2.2.2, p4⟩
        have K5 := HQ4.out.1.pknown tm
        clear K4 hN4 hf4 p4 z1 HQ3
        have z1 := HTM.out x4 (HBL.out _ _ _ HQ4.out.1)
        go_wp2_with fail
        refine K5.mono ?_
        rintro ev x5 ⟨Z, d5, e5, hz5, rfl, p5, hN5, hf5⟩
        obtain ⟨n1', nb, n3⟩ := Z
        have HQ5 : Hid (NDuo W0 x5 R D v v ∧ NBox x5 B (k1, k2) ∧ Sees x5 d1 e1 mb ∧ Sees x5 d2 e2 mb ∧ Sees x5 d3 e3 ub ∧ Sees x5 d4 e4' ub ∧ Sees x5 d5 e5 nb ∧ KnR v tm (n1', nb, n3)) := ⟨hN5, hf5.2 _ _ HQ4.out.2.1, hf5.1 _ _ _ HQ4.out.2.2.1, hf5.1 _ _ _ HQ4.out.2.2.2.1, hf5.1 _ _ _ HQ4.out.2.2.2.2.1, hf5.1 _ _ _ HQ4.out.2.2.2.2.2, p5, hz5⟩
        have K6 : Calls Tryz.prog 14 #[.pointer (some ⟨D, 0, none⟩), .int .i64 tm] x5 fun e w' => ∃ d cd, e = .returned (.tuple #[.int .i64 n1', .slice d nb.length cd, .int .i64 n3]) ∧ Sees w' d cd nb ∧ NDuo W0 w' R D v v ∧ Frame x5 w' := by
          refine (HQ5.out.1.dknown tm).mono ?_
          rintro e w' ⟨Z', d, cd, hz6, rfl, hs6, hN6, hf6⟩
          obtain ⟨_, _, _, _, _, _, _, hh⟩ := HQ5.out.1
          have := KnR.one hh.ok.1 HQ5.out.2.2.2.2.2.2.2 hz6
          subst this
          exact ⟨d, cd, rfl, hs6, hN6, hf6⟩
        dsimp only
        clear K5 hN5 hf5 p5 hz5 z1 HQ4
        have z1 := HTM.out x5 (HBL.out _ _ _ HQ5.out.1)
        go_wp2_with fail
        refine K6.mono ?_
        rintro ev x6 ⟨d6, e6, rfl, p6, hN6, hf6⟩
        have r1 := (hf6.1 _ _ _ HQ5.out.2.2.1).convert (P := Tryz.prog) 24 5 9 Tryz.underlying24 Tryz.underlying5 Tryz.underlying9
        have r2 := (hf6.1 _ _ _ HQ5.out.2.2.2.1).convert (P := Tryz.prog) 24 5 9 Tryz.underlying24 Tryz.underlying5 Tryz.underlying9
        have r3 := (hf6.1 _ _ _ HQ5.out.2.2.2.2.1).convert (P := Tryz.prog) 24 5 9 Tryz.underlying24 Tryz.underlying5 Tryz.underlying9
        have r4 := (hf6.1 _ _ _ HQ5.out.2.2.2.2.2.1).convert (P := Tryz.prog) 24 5 9 Tryz.underlying24 Tryz.underlying5 Tryz.underlying9
        have r5 := (hf6.1 _ _ _ HQ5.out.2.2.2.2.2.2.1).convert (P := Tryz.prog) 24 5 9 Tryz.underlying24 Tryz.underlying5 Tryz.underlying9
        have r6 := p6.convert (P := Tryz.prog) 24 5 9 Tryz.underlying24 Tryz.underlying5 Tryz.underlying9
        have HQ6 : Hid (NDuo W0 x6 R D v v ∧ NBox x6 B (k1, k2)) := ⟨hN6, hf6.2 _ _ HQ5.out.2.1⟩
        clear K6 hN6 hf6 p6 z1 HQ5 HM HTM
        go_upto_region 23 with fail
        clear r1 r2 r3 r4 r5 r6
        obtain ⟨ov, hov⟩ : ∃ ov, ov = v.over k2 := ⟨_, rfl⟩
        have KO := (HQ6.out.1.below (Below.refl _ _).drew).pover k2
        rw [← hov] at KO
        have KD : Hid (∀ V, NDuo W0 V R D v v → Calls Tryz.prog 16 #[.pointer (some ⟨D, 0, none⟩), .int .i64 k2] V fun e w' => e = .returned (.bool ov) ∧ Below V.heap.size V w') := fun V hV => by
          have := hV.dover k2
          rw [← hov] at this
          exact this
        have HS1 : Hid (∀ V, NDuo W0 V R D v v → NBox V B (k1, k2) → (V.cell? ⟨B, 1, none⟩ = some (.int .i64 k2) ∧ V.cell? ⟨D, 12, none⟩ = some (.int .i64 v.ep) ∧ V.cell? ⟨D, 13, none⟩ = some (.int .i64 v.st))) := fun V hV hx => ⟨hx.c1, hV.dcells.1, hV.dcells.2⟩
        have hS1 := HS1.out x6.drew (HQ6.out.1.below (Below.refl _ _).drew) (HQ6.out.2.below (Below.refl _ _).drew)
        clear hov
        refine wp_region_noPanic ?_
        refine wp_region_held (S := fun V => V.cell? ⟨B, 1, none⟩ = some (.int .i64 k2) ∧ V.cell? ⟨D, 12, none⟩ = some (.int .i64 v.ep) ∧ V.cell? ⟨D, 13, none⟩ = some (.int .i64 v.st)) (by kernel_rfl) ?_
        have hS := hS1
        refine any_take 0 ?vrcn1 rfl (by kernel_rfl) (by kernel_rfl) (by kernel_rfl) (fun _ _ _ h => h) (by rfl) ?hrcn1 hS ?_
        case hrcn1 => (intro w hSw; (try dsimp only at hSw); go_split_ands; go_simp; (try with_reducible rfl))
        (try simp only [Act.put, List.setIfInBounds_toArray, List.set_cons_zero, List.set_cons_succ])
        refine any_take 1 ?vrcn2 rfl (by kernel_rfl) (by kernel_rfl) (by kernel_rfl) (fun _ _ _ h => h) (by rfl) ?hrcn2 hS ?_
        case hrcn2 => (intro w hSw; (try dsimp only at hSw); go_split_ands; go_simp; (try with_reducible rfl))
        (try simp only [Act.put, List.setIfInBounds_toArray, List.set_cons_zero, List.set_cons_succ])
        refine any_take 2 ?vrcn3 rfl (by kernel_rfl) (by kernel_rfl) (by kernel_rfl) (fun _ _ _ h => h) (by rfl) ?hrcn3 hS ?_
        case hrcn3 => (intro w hSw; (try dsimp only at hSw); go_split_ands; go_simp; (try with_reducible rfl))
        (try simp only [Act.put, List.setIfInBounds_toArray, List.set_cons_zero, List.set_cons_succ])
        refine any_take 4 ?vrcn4 rfl (by kernel_rfl) (by kernel_rfl) (by kernel_rfl) (fun _ _ _ h => h) (by rfl) ?hrcn4 hS ?_
        case hrcn4 => (intro w hSw; (try dsimp only at hSw); go_split_ands; go_simp; (try with_reducible rfl))
        (try simp only [Act.put, List.setIfInBounds_toArray, List.set_cons_zero, List.set_cons_succ])
        refine any_take 5 ?vrcn5 rfl (by kernel_rfl) (by kernel_rfl) (by kernel_rfl) (fun _ _ _ h => h) (by rfl) ?hrcn5 hS ?_
        case hrcn5 => (intro w hSw; (try dsimp only at hSw); go_split_ands; go_simp; (try with_reducible rfl))
        (try simp only [Act.put, List.setIfInBounds_toArray, List.set_cons_zero, List.set_cons_succ])
        refine any_take 6 ?vrcn6 rfl (by kernel_rfl) (by kernel_rfl) (by kernel_rfl) (fun _ _ _ h => h) (by rfl) ?hrcn6 hS ?_
        case hrcn6 => (intro w hSw; (try dsimp only at hSw); go_split_ands; go_simp; (try with_reducible rfl))
        (try simp only [Act.put, List.setIfInBounds_toArray, List.set_cons_zero, List.set_cons_succ])
        refine any_one 3 rfl (by kernel_rfl) (by rfl) (fun K hK => ?_)
        clear hS
        go_simp
        refine KO.mono ?_
        rintro ev y1 ⟨rfl, hb1⟩
        have hy1 := (HQ6.out.1.below (Below.refl _ _).drew).below hb1
        have hbx1 := (HQ6.out.2.below (Below.refl _ _).drew).below hb1
        have kd := KD.out y1 hy1
        clear KO hb1
        refine hK.out _ _ (HS1.out y1 hy1 hbx1) (fun hS => ?_)
        clear hK
        (try simp only [Act.put, List.setIfInBounds_toArray, List.set_cons_zero, List.set_cons_succ])
        refine any_one 7 rfl (by kernel_rfl) (by rfl) (fun K hK => ?_)
        clear hS
        go_simp
        refine kd.mono ?_
        rintro ev y2 ⟨rfl, hb2⟩
        have hy2 := hy1.below hb2
        have hbx2 := hbx1.below hb2
        have ke := hy2.pepoch
        have kst := hy2.pstart
        clear kd hb2 hy1 hbx1
        refine hK.out _ _ (HS1.out y2 hy2 hbx2) (fun hS => ?_)
        clear hK
        (try simp only [Act.put, List.setIfInBounds_toArray, List.set_cons_zero, List.set_cons_succ])
        refine any_take 8 (Value.bool false) rfl (by kernel_rfl) (by kernel_rfl) (by kernel_rfl) (fun _ _ _ h => h) (by rfl) (by intro w hSw; (try dsimp only at hSw); go_split_ands; go_simp; first | done | (simp; omega)) hS ?_
        (try simp only [Act.put, List.setIfInBounds_toArray, List.set_cons_zero, List.set_cons_succ])
        refine any_take 9 ?vrcn7 rfl (by kernel_rfl) (by kernel_rfl) (by kernel_rfl) (fun _ _ _ h => h) (by rfl) ?hrcn7 hS ?_
        case hrcn7 => (intro w hSw; (try dsimp only at hSw); go_split_ands; go_simp; (try with_reducible rfl))
        (try simp only [Act.put, List.setIfInBounds_toArray, List.set_cons_zero, List.set_cons_succ])
        refine any_take 10 ?vrcn8 rfl (by kernel_rfl) (by kernel_rfl) (by kernel_rfl) (fun _ _ _ h => h) (by rfl) ?hrcn8 hS ?_
        case hrcn8 => (intro w hSw; (try dsimp only at hSw); go_split_ands; go_simp; (try with_reducible rfl))
        (try simp only [Act.put, List.setIfInBounds_toArray, List.set_cons_zero, List.set_cons_succ])
        refine any_take 12 ?vrcn9 rfl (by kernel_rfl) (by kernel_rfl) (by kernel_rfl) (fun _ _ _ h => h) (by rfl) ?hrcn9 hS ?_
        case hrcn9 => (intro w hSw; (try dsimp only at hSw); go_split_ands; go_simp; (try with_reducible rfl))
        (try simp only [Act.put, List.setIfInBounds_toArray, List.set_cons_zero, List.set_cons_succ])
        refine any_take 13 ?vrcn10 rfl (by kernel_rfl) (by kernel_rfl) (by kernel_rfl) (fun _ _ _ h => h) (by rfl) ?hrcn10 hS ?_
        case hrcn10 => (intro w hSw; (try dsimp only at hSw); go_split_ands; go_simp; (try with_reducible rfl))
        (try simp only [Act.put, List.setIfInBounds_toArray, List.set_cons_zero, List.set_cons_succ])
        refine any_take 14 ?vrcn11 rfl (by kernel_rfl) (by kernel_rfl) (by kernel_rfl) (fun _ _ _ h => h) (by rfl) ?hrcn11 hS ?_
        case hrcn11 => (intro w hSw; (try dsimp only at hSw); go_split_ands; go_simp; (try with_reducible rfl))
        (try simp only [Act.put, List.setIfInBounds_toArray, List.set_cons_zero, List.set_cons_succ])
        refine any_take 15 ?vrcn12 rfl (by kernel_rfl) (by kernel_rfl) (by kernel_rfl) (fun _ _ _ h => h) (by rfl) ?hrcn12 hS ?_
        case hrcn12 => (intro w hSw; (try dsimp only at hSw); go_split_ands; go_simp; (try with_reducible rfl))
        (try simp only [Act.put, List.setIfInBounds_toArray, List.set_cons_zero, List.set_cons_succ])
        refine any_one 11 rfl (by kernel_rfl) (by rfl) (fun K hK => ?_)
        clear hS
        go_simp
        refine ke.mono ?_
        rintro ev y3 ⟨rfl, rfl⟩
        clear ke
        refine hK.out _ _ (HS1.out _ hy2 hbx2) (fun hS => ?_)
        clear hK
        (try simp only [Act.put, List.setIfInBounds_toArray, List.set_cons_zero, List.set_cons_succ])
        refine any_take 16 (Value.bool false) rfl (by kernel_rfl) (by kernel_rfl) (by kernel_rfl) (fun _ _ _ h => h) (by rfl) (by intro w hSw; (try dsimp only at hSw); go_split_ands; go_simp; first | done | (simp; omega)) hS ?_
        (try simp only [Act.put, List.setIfInBounds_toArray, List.set_cons_zero, List.set_cons_succ])
        refine any_take 17 ?vrcn13 rfl (by kernel_rfl) (by kernel_rfl) (by kernel_rfl) (fun _ _ _ h => h) (by rfl) ?hrcn13 hS ?_
        case hrcn13 => (intro w hSw; (try dsimp only at hSw); go_split_ands; go_simp; (try with_reducible rfl))
        (try simp only [Act.put, List.setIfInBounds_toArray, List.set_cons_zero, List.set_cons_succ])
        refine any_take 18 ?vrcn14 rfl (by kernel_rfl) (by kernel_rfl) (by kernel_rfl) (fun _ _ _ h => h) (by rfl) ?hrcn14 hS ?_
        case hrcn14 => (intro w hSw; (try dsimp only at hSw); go_split_ands; go_simp; (try with_reducible rfl))
        (try simp only [Act.put, List.setIfInBounds_toArray, List.set_cons_zero, List.set_cons_succ])
        refine any_take 19 ?vrcn15 rfl (by kernel_rfl) (by kernel_rfl) (by kernel_rfl) (fun _ _ _ h => h) (by rfl) ?hrcn15 hS ?_
        case hrcn15 => (intro w hSw; (try dsimp only at hSw); go_split_ands; go_simp; (try with_reducible rfl))
        (try simp only [Act.put, List.setIfInBounds_toArray, List.set_cons_zero, List.set_cons_succ])
        refine any_take 21 ?vrcn16 rfl (by kernel_rfl) (by kernel_rfl) (by kernel_rfl) (fun _ _ _ h => h) (by rfl) ?hrcn16 hS ?_
        case hrcn16 => (intro w hSw; (try dsimp only at hSw); go_split_ands; go_simp; (try with_reducible rfl))
        (try simp only [Act.put, List.setIfInBounds_toArray, List.set_cons_zero, List.set_cons_succ])
        refine any_take 22 ?vrcn17 rfl (by kernel_rfl) (by kernel_rfl) (by kernel_rfl) (fun _ _ _ h => h) (by rfl) ?hrcn17 hS ?_
        case hrcn17 => (intro w hSw; (try dsimp only at hSw); go_split_ands; go_simp; (try with_reducible rfl))
        (try simp only [Act.put, List.setIfInBounds_toArray, List.set_cons_zero, List.set_cons_succ])
        refine any_take 23 ?vrcn18 rfl (by kernel_rfl) (by kernel_rfl) (by kernel_rfl) (fun _ _ _ h => h) (by rfl) ?hrcn18 hS ?_
        case hrcn18 => (intro w hSw; (try dsimp only at hSw); go_split_ands; go_simp; (try with_reducible rfl))
        (try simp only [Act.put, List.setIfInBounds_toArray, List.set_cons_zero, List.set_cons_succ])
        refine any_take 24 ?vrcn19 rfl (by kernel_rfl) (by kernel_rfl) (by kernel_rfl) (fun _ _ _ h => h) (by rfl) ?hrcn19 hS ?_
        case hrcn19 => (intro w hSw; (try dsimp only at hSw); go_split_ands; go_simp; (try with_reducible rfl))
        (try simp only [Act.put, List.setIfInBounds_toArray, List.set_cons_zero, List.set_cons_succ])
        refine any_one 20 rfl (by kernel_rfl) (by rfl) (fun K hK => ?_)
        clear hS
        go_simp
        refine kst.mono ?_
        rintro ev y4 ⟨rfl, rfl⟩
        clear kst
        refine hK.out _ _ (HS1.out _ hy2 hbx2) (fun hS => ?_)
        clear hK
        (try simp only [Act.put, List.setIfInBounds_toArray, List.set_cons_zero, List.set_cons_succ])
        refine any_take 25 (Value.bool false) rfl (by kernel_rfl) (by kernel_rfl) (by kernel_rfl) (fun _ _ _ h => h) (by rfl) (by intro w hSw; (try dsimp only at hSw); go_split_ands; go_simp; first | done | (simp; omega)) hS ?_
        (try simp only [Act.put, List.setIfInBounds_toArray, List.set_cons_zero, List.set_cons_succ])
        refine any_take 26 ?vrcn20 rfl (by kernel_rfl) (by kernel_rfl) (by kernel_rfl) (fun _ _ _ h => h) (by rfl) ?hrcn20 hS ?_
        case hrcn20 => (intro w hSw; (try dsimp only at hSw); go_split_ands; go_simp; (try with_reducible rfl))
        (try simp only [Act.put, List.setIfInBounds_toArray, List.set_cons_zero, List.set_cons_succ])
        refine wpAnyH_done (by kernel_rfl) ?_ _
        refine NoPanic.normal ?_
        have HEND := hy2
        clear hS hS1 KD HS1 hbx2 HQ6
        have HE : Hid (NDuo W0 y4 R D v v) := HEND
        clear HEND hy2
        go_wp2
        go_roundw
        case rel => exact ⟨i + 1, v, by have := HI.out; omega, by first | rfl | (congr 1; omega), HE.out⟩
        case measure => have := HI.out; simp [intOf]; omega
      · have hm' : (y % 4 == 0) = false := by simpa using hm
        obtain ⟨v, hv⟩ : ∃ v, v = s := ⟨_, rfl⟩
        obtain ⟨m, hmm⟩ : ∃ m, m = y % 4 := ⟨_, rfl⟩
        rw [← hmm] at hyt hyw hm hm'
        rw [← hv] at HD
        clear hv hmm
        go_upto_region 13 with fail
        rw [← HW.out, ← HBB.out]
        clear HW HBB q0 q1
        refine wp_region_noPanic ?_
        refine wp_region_held (S := fun V => V.cell? ⟨kb, kof + i, none⟩ = some (.int .u8 y) ∧ V.cell? ⟨B, 0, none⟩ = some (.int .i64 k1) ∧ V.cell? ⟨B, 1, none⟩ = some (.int .i64 k2)) (by kernel_rfl) ?_
        have hS := HS0
        refine any_take 0 ?vrbn1 rfl (by kernel_rfl) (by kernel_rfl) (by kernel_rfl) (fun _ _ _ h => h) (by rfl) ?hrbn1 hS ?_
        case hrbn1 => (intro w hSw; (try dsimp only at hSw); go_split_ands; go_simp; (try with_reducible rfl))
        (try simp only [Act.put, List.setIfInBounds_toArray, List.set_cons_zero, List.set_cons_succ])
        refine any_take 1 ?vrbn2 rfl (by kernel_rfl) (by kernel_rfl) (by kernel_rfl) (fun _ _ _ h => h) (by rfl) ?hrbn2 hS ?_
        case hrbn2 => (intro w hSw; (try dsimp only at hSw); go_split_ands; go_simp; (try with_reducible rfl))
        (try simp only [Act.put, List.setIfInBounds_toArray, List.set_cons_zero, List.set_cons_succ])
        refine any_take 2 ?vrbn3 rfl (by kernel_rfl) (by kernel_rfl) (by kernel_rfl) (fun _ _ _ h => h) (by rfl) ?hrbn3 hS ?_
        case hrbn3 => (intro w hSw; (try dsimp only at hSw); go_split_ands; go_simp; (try with_reducible rfl))
        (try simp only [Act.put, List.setIfInBounds_toArray, List.set_cons_zero, List.set_cons_succ])
        refine any_take 3 ?vrbn4 rfl (by kernel_rfl) (by kernel_rfl) (by kernel_rfl) (fun _ _ _ h => h) (by rfl) ?hrbn4 hS ?_
        case hrbn4 => (intro w hSw; (try dsimp only at hSw); go_split_ands; go_simp; (try with_reducible rfl))
        (try simp only [Act.put, List.setIfInBounds_toArray, List.set_cons_zero, List.set_cons_succ])
        refine any_take 4 ?vrbn5 rfl (by kernel_rfl) (by kernel_rfl) (by kernel_rfl) (fun _ _ _ h => h) (by rfl) ?hrbn5 hS ?_
        case hrbn5 => (intro w hSw; (try dsimp only at hSw); go_split_ands; go_simp; (try with_reducible rfl))
        (try simp only [Act.put, List.setIfInBounds_toArray, List.set_cons_zero, List.set_cons_succ])
        refine any_take 5 (Value.bool false) rfl (by kernel_rfl) (by kernel_rfl) (by kernel_rfl) (fun _ _ _ h => h) (by rfl) (by intro w hSw; (try dsimp only at hSw); go_split_ands; go_simp; first | done | (simp; omega)) hS ?_
        (try simp only [Act.put, List.setIfInBounds_toArray, List.set_cons_zero, List.set_cons_succ])
        refine any_take 6 ?vrbn6 rfl (by kernel_rfl) (by kernel_rfl) (by kernel_rfl) (fun _ _ _ h => h) (by rfl) ?hrbn6 hS ?_
        case hrbn6 => (intro w hSw; (try dsimp only at hSw); go_split_ands; go_simp; (try with_reducible rfl))
        (try simp only [Act.put, List.setIfInBounds_toArray, List.set_cons_zero, List.set_cons_succ])
        refine any_skip 7 rfl (by kernel_rfl) (by kernel_rfl) (by kernel_rfl) (fun _ _ _ h => h) (by rfl) hS ?_
        (try simp only [Act.put, List.setIfInBounds_toArray, List.set_cons_zero, List.set_cons_succ])
        refine any_skip 8 rfl (by kernel_rfl) (by kernel_rfl) (by kernel_rfl) (fun _ _ _ h => h) (by rfl) hS ?_
        (try simp only [Act.put, List.setIfInBounds_toArray, List.set_cons_zero, List.set_cons_succ])
        refine any_skip 9 rfl (by kernel_rfl) (by kernel_rfl) (by kernel_rfl) (fun _ _ _ h => h) (by rfl) hS ?_
        (try simp only [Act.put, List.setIfInBounds_toArray, List.set_cons_zero, List.set_cons_succ])
        refine any_skip 10 rfl (by kernel_rfl) (by kernel_rfl) (by kernel_rfl) (fun _ _ _ h => h) (by rfl) hS ?_
        (try simp only [Act.put, List.setIfInBounds_toArray, List.set_cons_zero, List.set_cons_succ])
        refine any_skip 11 rfl (by kernel_rfl) (by kernel_rfl) (by kernel_rfl) (fun _ _ _ h => h) (by rfl) hS ?_
        (try simp only [Act.put, List.setIfInBounds_toArray, List.set_cons_zero, List.set_cons_succ])
        refine any_skip 12 rfl (by kernel_rfl) (by kernel_rfl) (by kernel_rfl) (fun _ _ _ h => h) (by rfl) hS ?_
        (try simp only [Act.put, List.setIfInBounds_toArray, List.set_cons_zero, List.set_cons_succ])
        refine any_skip 13 rfl (by kernel_rfl) (by kernel_rfl) (by kernel_rfl) (fun _ _ _ h => h) (by rfl) hS ?_
        (try simp only [Act.put, List.setIfInBounds_toArray, List.set_cons_zero, List.set_cons_succ])
        refine any_skip 14 rfl (by kernel_rfl) (by kernel_rfl) (by kernel_rfl) (fun _ _ _ h => h) (by rfl) hS ?_
        (try simp only [Act.put, List.setIfInBounds_toArray, List.set_cons_zero, List.set_cons_succ])
        refine any_skip 15 rfl (by kernel_rfl) (by kernel_rfl) (by kernel_rfl) (fun _ _ _ h => h) (by rfl) hS ?_
        (try simp only [Act.put, List.setIfInBounds_toArray, List.set_cons_zero, List.set_cons_succ])
        refine any_skip 16 rfl (by kernel_rfl) (by kernel_rfl) (by kernel_rfl) (fun _ _ _ h => h) (by rfl) hS ?_
        (try simp only [Act.put, List.setIfInBounds_toArray, List.set_cons_zero, List.set_cons_succ])
        refine any_skip 17 rfl (by kernel_rfl) (by kernel_rfl) (by kernel_rfl) (fun _ _ _ h => h) (by rfl) hS ?_
        (try simp only [Act.put, List.setIfInBounds_toArray, List.set_cons_zero, List.set_cons_succ])
        refine any_skip 18 rfl (by kernel_rfl) (by kernel_rfl) (by kernel_rfl) (fun _ _ _ h => h) (by rfl) hS ?_
        (try simp only [Act.put, List.setIfInBounds_toArray, List.set_cons_zero, List.set_cons_succ])
        refine any_skip 19 rfl (by kernel_rfl) (by kernel_rfl) (by kernel_rfl) (fun _ _ _ h => h) (by rfl) hS ?_
        (try simp only [Act.put, List.setIfInBounds_toArray, List.set_cons_zero, List.set_cons_succ])
        refine any_take 20 ?vrbn7 rfl (by kernel_rfl) (by kernel_rfl) (by kernel_rfl) (fun _ _ _ h => h) (by rfl) ?hrbn7 hS ?_
        case hrbn7 => (intro w hSw; (try dsimp only at hSw); go_split_ands; go_simp; (try with_reducible rfl))
        (try simp only [Act.put, List.setIfInBounds_toArray, List.set_cons_zero, List.set_cons_succ])
        refine wpAnyH_done (by kernel_rfl) ?_ _
        refine NoPanic.normal ?_
        obtain ⟨wb, hwb⟩ : ∃ wb, wb = W.drew := ⟨_, rfl⟩
        rw [← hwb] at HD
        rw [show ({ heap := W.heap, tape := W.tape, drawn := W.drawn + 1, os := W.os, output := W.output } : World) = wb from hwb.symm]
        have HQ : Hid (NDuo W0 wb R D v v ∧ NBox wb B (k1, k2)) := HD
        clear hS HS0 HD hwb
        have z1 := HQ.out.2.c1
        dsimp only at z1
        obtain ⟨M, hM⟩ : ∃ M, M = v.mac k2 := ⟨_, rfl⟩
        obtain ⟨T, hT⟩ : ∃ T, T = v.told k2 := ⟨_, rfl⟩
        have HM : Hid (M = v.mac k2 ∧ T = v.told k2) := ⟨hM, hT⟩
        have K1 := HQ.out.1.pmac k2
        rw [← hM] at K1
        obtain ⟨m1, mb, m3⟩ := M
        obtain ⟨u1, ub, u3⟩ := T
        clear hM hT
        dsimp only at K1
        go_wp2_with fail
        refine K1.mono ?_
        rintro ev x1 ⟨d1, e1, rfl, p1, hN1, hf1⟩
        have HQ1 : Hid (NDuo W0 x1 R D v v ∧ NBox x1 B (k1, k2) ∧ Sees x1 d1 e1 mb) := ⟨hN1, hf1.2 _ _ HQ.out.2, p1⟩
        have K2 := HQ1.out.1.dmac k2
        rw [← HM.out.1] at K2
        dsimp only at K2
        clear K1 hN1 hf1 p1 z1
        have z1 := HQ1.out.2.1.c1
        dsimp only at z1
        go_wp2_with fail
        refine K2.mono ?_
        rintro ev x2 ⟨d2, e2, rfl, p2, hN2, hf2⟩
        have HQ2 : Hid (NDuo W0 x2 R D v v ∧ NBox x2 B (k1, k2) ∧ Sees x2 d1 e1 mb ∧ Sees x2 d2 e2 mb) := ⟨hN2, hf2.2 _ _ HQ1.out.2.1, hf2.1 _ _ _ HQ1.out.2.2, p2⟩
        have K3 := HQ2.out.1.ptold k2
        rw [← HM.out.2] at K3
        dsimp only at K3
        clear K2 hN2 hf2 p2 z1 HQ1
        have z1 := HQ2.out.2.1.c1
        dsimp only at z1
        go_wp2_with fail
        refine K3.mono ?_
        rintro ev x3 ⟨d3, e3, rfl, p3, hN3, hf3⟩
        have HQ3 : Hid (NDuo W0 x3 R D v v ∧ NBox x3 B (k1, k2) ∧ Sees x3 d1 e1 mb ∧ Sees x3 d2 e2 mb ∧ Sees x3 d3 e3 ub) := ⟨hN3, hf3.2 _ _ HQ2.out.2.1, hf3.1 _ _ _ HQ2.out.2.2.1, hf3.1 _ _ _ HQ2.out.2.2.2, p3⟩
        have K4 := HQ3.out.1.dtold k2
        rw [← HM.out.2] at K4
        dsimp only at K4
        clear K3 hN3 hf3 p3 z1 HQ2
        have z1 := HQ3.out.2.1.c1
        dsimp only at z1
        go_wp2_with fail
        refine K4.mono ?_
        rintro ev x4 ⟨d4, e4', rfl, p4, hN4, hf4⟩
        have HQ4 : Hid (NDuo W0 x4 R D v v ∧ NBox x4 B (k1, k2) ∧ Sees x4 d1 e1 mb ∧ Sees x4 d2 e2 mb ∧ Sees x4 d3 e3 ub ∧ Sees x4 d4 e4' ub) := ⟨hN4, hf4.2 _ _ HQ3.out.2.1, hf4.1 _ _ _ HQ3.out.2.2.1, hf4.1 _ _ _ HQ3.out.2.2.2.1, hf4.1 _ _ _ HQ3.out.2.2.2.2, p4⟩
        have K5 := HQ4.out.1.pknown tm
        clear K4 hN4 hf4 p4 z1 HQ3
        have z1 := HTM.out x4 (HBL.out _ _ _ HQ4.out.1)
        go_wp2_with fail
        refine K5.mono ?_
        rintro ev x5 ⟨Z, d5, e5, hz5, rfl, p5, hN5, hf5⟩
        obtain ⟨n1', nb, n3⟩ := Z
        have HQ5 : Hid (NDuo W0 x5 R D v v ∧ NBox x5 B (k1, k2) ∧ Sees x5 d1 e1 mb ∧ Sees x5 d2 e2 mb ∧ Sees x5 d3 e3 ub ∧ Sees x5 d4 e4' ub ∧ Sees x5 d5 e5 nb ∧ KnR v tm (n1', nb, n3)) := ⟨hN5, hf5.2 _ _ HQ4.out.2.1, hf5.1 _ _ _ HQ4.out.2.2.1, hf5.1 _ _ _ HQ4.out.2.2.2.1, hf5.1 _ _ _ HQ4.out.2.2.2.2.1, hf5.1 _ _ _ HQ4.out.2.2.2.2.2, p5, hz5⟩
        have K6 : Calls Tryz.prog 14 #[.pointer (some ⟨D, 0, none⟩), .int .i64 tm] x5 fun e w' => ∃ d cd, e = .returned (.tuple #[.int .i64 n1', .slice d nb.length cd, .int .i64 n3]) ∧ Sees w' d cd nb ∧ NDuo W0 w' R D v v ∧ Frame x5 w' := by
          refine (HQ5.out.1.dknown tm).mono ?_
          rintro e w' ⟨Z', d, cd, hz6, rfl, hs6, hN6, hf6⟩
          obtain ⟨_, _, _, _, _, _, _, hh⟩ := HQ5.out.1
          have := KnR.one hh.ok.1 HQ5.out.2.2.2.2.2.2.2 hz6
          subst this
          exact ⟨d, cd, rfl, hs6, hN6, hf6⟩
        dsimp only
        clear K5 hN5 hf5 p5 hz5 z1 HQ4
        have z1 := HTM.out x5 (HBL.out _ _ _ HQ5.out.1)
        go_wp2_with fail
        refine K6.mono ?_
        rintro ev x6 ⟨d6, e6, rfl, p6, hN6, hf6⟩
        have r1 := (hf6.1 _ _ _ HQ5.out.2.2.1).convert (P := Tryz.prog) 24 5 9 Tryz.underlying24 Tryz.underlying5 Tryz.underlying9
        have r2 := (hf6.1 _ _ _ HQ5.out.2.2.2.1).convert (P := Tryz.prog) 24 5 9 Tryz.underlying24 Tryz.underlying5 Tryz.underlying9
        have r3 := (hf6.1 _ _ _ HQ5.out.2.2.2.2.1).convert (P := Tryz.prog) 24 5 9 Tryz.underlying24 Tryz.underlying5 Tryz.underlying9
        have r4 := (hf6.1 _ _ _ HQ5.out.2.2.2.2.2.1).convert (P := Tryz.prog) 24 5 9 Tryz.underlying24 Tryz.underlying5 Tryz.underlying9
        have r5 := (hf6.1 _ _ _ HQ5.out.2.2.2.2.2.2.1).convert (P := Tryz.prog) 24 5 9 Tryz.underlying24 Tryz.underlying5 Tryz.underlying9
        have r6 := p6.convert (P := Tryz.prog) 24 5 9 Tryz.underlying24 Tryz.underlying5 Tryz.underlying9
        have HQ6 : Hid (NDuo W0 x6 R D v v ∧ NBox x6 B (k1, k2)) := ⟨hN6, hf6.2 _ _ HQ5.out.2.1⟩
        clear K6 hN6 hf6 p6 z1 HQ5 HM HTM
        go_upto_region 23 with fail
        clear r1 r2 r3 r4 r5 r6
        obtain ⟨ov, hov⟩ : ∃ ov, ov = v.over k2 := ⟨_, rfl⟩
        have KO := (HQ6.out.1.below (Below.refl _ _).drew).pover k2
        rw [← hov] at KO
        have KD : Hid (∀ V, NDuo W0 V R D v v → Calls Tryz.prog 16 #[.pointer (some ⟨D, 0, none⟩), .int .i64 k2] V fun e w' => e = .returned (.bool ov) ∧ Below V.heap.size V w') := fun V hV => by
          have := hV.dover k2
          rw [← hov] at this
          exact this
        have HS1 : Hid (∀ V, NDuo W0 V R D v v → NBox V B (k1, k2) → (V.cell? ⟨B, 1, none⟩ = some (.int .i64 k2) ∧ V.cell? ⟨D, 12, none⟩ = some (.int .i64 v.ep) ∧ V.cell? ⟨D, 13, none⟩ = some (.int .i64 v.st))) := fun V hV hx => ⟨hx.c1, hV.dcells.1, hV.dcells.2⟩
        have hS1 := HS1.out x6.drew (HQ6.out.1.below (Below.refl _ _).drew) (HQ6.out.2.below (Below.refl _ _).drew)
        clear hov
        refine wp_region_noPanic ?_
        refine wp_region_held (S := fun V => V.cell? ⟨B, 1, none⟩ = some (.int .i64 k2) ∧ V.cell? ⟨D, 12, none⟩ = some (.int .i64 v.ep) ∧ V.cell? ⟨D, 13, none⟩ = some (.int .i64 v.st)) (by kernel_rfl) ?_
        have hS := hS1
        refine any_take 0 ?vrdn1 rfl (by kernel_rfl) (by kernel_rfl) (by kernel_rfl) (fun _ _ _ h => h) (by rfl) ?hrdn1 hS ?_
        case hrdn1 => (intro w hSw; (try dsimp only at hSw); go_split_ands; go_simp; (try with_reducible rfl))
        (try simp only [Act.put, List.setIfInBounds_toArray, List.set_cons_zero, List.set_cons_succ])
        refine any_take 1 ?vrdn2 rfl (by kernel_rfl) (by kernel_rfl) (by kernel_rfl) (fun _ _ _ h => h) (by rfl) ?hrdn2 hS ?_
        case hrdn2 => (intro w hSw; (try dsimp only at hSw); go_split_ands; go_simp; (try with_reducible rfl))
        (try simp only [Act.put, List.setIfInBounds_toArray, List.set_cons_zero, List.set_cons_succ])
        refine any_take 2 ?vrdn3 rfl (by kernel_rfl) (by kernel_rfl) (by kernel_rfl) (fun _ _ _ h => h) (by rfl) ?hrdn3 hS ?_
        case hrdn3 => (intro w hSw; (try dsimp only at hSw); go_split_ands; go_simp; (try with_reducible rfl))
        (try simp only [Act.put, List.setIfInBounds_toArray, List.set_cons_zero, List.set_cons_succ])
        refine any_take 4 ?vrdn4 rfl (by kernel_rfl) (by kernel_rfl) (by kernel_rfl) (fun _ _ _ h => h) (by rfl) ?hrdn4 hS ?_
        case hrdn4 => (intro w hSw; (try dsimp only at hSw); go_split_ands; go_simp; (try with_reducible rfl))
        (try simp only [Act.put, List.setIfInBounds_toArray, List.set_cons_zero, List.set_cons_succ])
        refine any_take 5 ?vrdn5 rfl (by kernel_rfl) (by kernel_rfl) (by kernel_rfl) (fun _ _ _ h => h) (by rfl) ?hrdn5 hS ?_
        case hrdn5 => (intro w hSw; (try dsimp only at hSw); go_split_ands; go_simp; (try with_reducible rfl))
        (try simp only [Act.put, List.setIfInBounds_toArray, List.set_cons_zero, List.set_cons_succ])
        refine any_take 6 ?vrdn6 rfl (by kernel_rfl) (by kernel_rfl) (by kernel_rfl) (fun _ _ _ h => h) (by rfl) ?hrdn6 hS ?_
        case hrdn6 => (intro w hSw; (try dsimp only at hSw); go_split_ands; go_simp; (try with_reducible rfl))
        (try simp only [Act.put, List.setIfInBounds_toArray, List.set_cons_zero, List.set_cons_succ])
        refine any_one 3 rfl (by kernel_rfl) (by rfl) (fun K hK => ?_)
        clear hS
        go_simp
        refine KO.mono ?_
        rintro ev y1 ⟨rfl, hb1⟩
        have hy1 := (HQ6.out.1.below (Below.refl _ _).drew).below hb1
        have hbx1 := (HQ6.out.2.below (Below.refl _ _).drew).below hb1
        have kd := KD.out y1 hy1
        clear KO hb1
        refine hK.out _ _ (HS1.out y1 hy1 hbx1) (fun hS => ?_)
        clear hK
        (try simp only [Act.put, List.setIfInBounds_toArray, List.set_cons_zero, List.set_cons_succ])
        refine any_one 7 rfl (by kernel_rfl) (by rfl) (fun K hK => ?_)
        clear hS
        go_simp
        refine kd.mono ?_
        rintro ev y2 ⟨rfl, hb2⟩
        have hy2 := hy1.below hb2
        have hbx2 := hbx1.below hb2
        have ke := hy2.pepoch
        have kst := hy2.pstart
        clear kd hb2 hy1 hbx1
        refine hK.out _ _ (HS1.out y2 hy2 hbx2) (fun hS => ?_)
        clear hK
        (try simp only [Act.put, List.setIfInBounds_toArray, List.set_cons_zero, List.set_cons_succ])
        refine any_take 8 (Value.bool false) rfl (by kernel_rfl) (by kernel_rfl) (by kernel_rfl) (fun _ _ _ h => h) (by rfl) (by intro w hSw; (try dsimp only at hSw); go_split_ands; go_simp; first | done | (simp; omega)) hS ?_
        (try simp only [Act.put, List.setIfInBounds_toArray, List.set_cons_zero, List.set_cons_succ])
        refine any_take 9 ?vrdn7 rfl (by kernel_rfl) (by kernel_rfl) (by kernel_rfl) (fun _ _ _ h => h) (by rfl) ?hrdn7 hS ?_
        case hrdn7 => (intro w hSw; (try dsimp only at hSw); go_split_ands; go_simp; (try with_reducible rfl))
        (try simp only [Act.put, List.setIfInBounds_toArray, List.set_cons_zero, List.set_cons_succ])
        refine any_take 10 ?vrdn8 rfl (by kernel_rfl) (by kernel_rfl) (by kernel_rfl) (fun _ _ _ h => h) (by rfl) ?hrdn8 hS ?_
        case hrdn8 => (intro w hSw; (try dsimp only at hSw); go_split_ands; go_simp; (try with_reducible rfl))
        (try simp only [Act.put, List.setIfInBounds_toArray, List.set_cons_zero, List.set_cons_succ])
        refine any_take 12 ?vrdn9 rfl (by kernel_rfl) (by kernel_rfl) (by kernel_rfl) (fun _ _ _ h => h) (by rfl) ?hrdn9 hS ?_
        case hrdn9 => (intro w hSw; (try dsimp only at hSw); go_split_ands; go_simp; (try with_reducible rfl))
        (try simp only [Act.put, List.setIfInBounds_toArray, List.set_cons_zero, List.set_cons_succ])
        refine any_take 13 ?vrdn10 rfl (by kernel_rfl) (by kernel_rfl) (by kernel_rfl) (fun _ _ _ h => h) (by rfl) ?hrdn10 hS ?_
        case hrdn10 => (intro w hSw; (try dsimp only at hSw); go_split_ands; go_simp; (try with_reducible rfl))
        (try simp only [Act.put, List.setIfInBounds_toArray, List.set_cons_zero, List.set_cons_succ])
        refine any_take 14 ?vrdn11 rfl (by kernel_rfl) (by kernel_rfl) (by kernel_rfl) (fun _ _ _ h => h) (by rfl) ?hrdn11 hS ?_
        case hrdn11 => (intro w hSw; (try dsimp only at hSw); go_split_ands; go_simp; (try with_reducible rfl))
        (try simp only [Act.put, List.setIfInBounds_toArray, List.set_cons_zero, List.set_cons_succ])
        refine any_take 15 ?vrdn12 rfl (by kernel_rfl) (by kernel_rfl) (by kernel_rfl) (fun _ _ _ h => h) (by rfl) ?hrdn12 hS ?_
        case hrdn12 => (intro w hSw; (try dsimp only at hSw); go_split_ands; go_simp; (try with_reducible rfl))
        (try simp only [Act.put, List.setIfInBounds_toArray, List.set_cons_zero, List.set_cons_succ])
        refine any_one 11 rfl (by kernel_rfl) (by rfl) (fun K hK => ?_)
        clear hS
        go_simp
        refine ke.mono ?_
        rintro ev y3 ⟨rfl, rfl⟩
        clear ke
        refine hK.out _ _ (HS1.out _ hy2 hbx2) (fun hS => ?_)
        clear hK
        (try simp only [Act.put, List.setIfInBounds_toArray, List.set_cons_zero, List.set_cons_succ])
        refine any_take 16 (Value.bool false) rfl (by kernel_rfl) (by kernel_rfl) (by kernel_rfl) (fun _ _ _ h => h) (by rfl) (by intro w hSw; (try dsimp only at hSw); go_split_ands; go_simp; first | done | (simp; omega)) hS ?_
        (try simp only [Act.put, List.setIfInBounds_toArray, List.set_cons_zero, List.set_cons_succ])
        refine any_take 17 ?vrdn13 rfl (by kernel_rfl) (by kernel_rfl) (by kernel_rfl) (fun _ _ _ h => h) (by rfl) ?hrdn13 hS ?_
        case hrdn13 => (intro w hSw; (try dsimp only at hSw); go_split_ands; go_simp; (try with_reducible rfl))
        (try simp only [Act.put, List.setIfInBounds_toArray, List.set_cons_zero, List.set_cons_succ])
        refine any_take 18 ?vrdn14 rfl (by kernel_rfl) (by kernel_rfl) (by kernel_rfl) (fun _ _ _ h => h) (by rfl) ?hrdn14 hS ?_
        case hrdn14 => (intro w hSw; (try dsimp only at hSw); go_split_ands; go_simp; (try with_reducible rfl))
        (try simp only [Act.put, List.setIfInBounds_toArray, List.set_cons_zero, List.set_cons_succ])
        refine any_take 19 ?vrdn15 rfl (by kernel_rfl) (by kernel_rfl) (by kernel_rfl) (fun _ _ _ h => h) (by rfl) ?hrdn15 hS ?_
        case hrdn15 => (intro w hSw; (try dsimp only at hSw); go_split_ands; go_simp; (try with_reducible rfl))
        (try simp only [Act.put, List.setIfInBounds_toArray, List.set_cons_zero, List.set_cons_succ])
        refine any_take 21 ?vrdn16 rfl (by kernel_rfl) (by kernel_rfl) (by kernel_rfl) (fun _ _ _ h => h) (by rfl) ?hrdn16 hS ?_
        case hrdn16 => (intro w hSw; (try dsimp only at hSw); go_split_ands; go_simp; (try with_reducible rfl))
        (try simp only [Act.put, List.setIfInBounds_toArray, List.set_cons_zero, List.set_cons_succ])
        refine any_take 22 ?vrdn17 rfl (by kernel_rfl) (by kernel_rfl) (by kernel_rfl) (fun _ _ _ h => h) (by rfl) ?hrdn17 hS ?_
        case hrdn17 => (intro w hSw; (try dsimp only at hSw); go_split_ands; go_simp; (try with_reducible rfl))
        (try simp only [Act.put, List.setIfInBounds_toArray, List.set_cons_zero, List.set_cons_succ])
        refine any_take 23 ?vrdn18 rfl (by kernel_rfl) (by kernel_rfl) (by kernel_rfl) (fun _ _ _ h => h) (by rfl) ?hrdn18 hS ?_
        case hrdn18 => (intro w hSw; (try dsimp only at hSw); go_split_ands; go_simp; (try with_reducible rfl))
        (try simp only [Act.put, List.setIfInBounds_toArray, List.set_cons_zero, List.set_cons_succ])
        refine any_take 24 ?vrdn19 rfl (by kernel_rfl) (by kernel_rfl) (by kernel_rfl) (fun _ _ _ h => h) (by rfl) ?hrdn19 hS ?_
        case hrdn19 => (intro w hSw; (try dsimp only at hSw); go_split_ands; go_simp; (try with_reducible rfl))
        (try simp only [Act.put, List.setIfInBounds_toArray, List.set_cons_zero, List.set_cons_succ])
        refine any_one 20 rfl (by kernel_rfl) (by rfl) (fun K hK => ?_)
        clear hS
        go_simp
        refine kst.mono ?_
        rintro ev y4 ⟨rfl, rfl⟩
        clear kst
        refine hK.out _ _ (HS1.out _ hy2 hbx2) (fun hS => ?_)
        clear hK
        (try simp only [Act.put, List.setIfInBounds_toArray, List.set_cons_zero, List.set_cons_succ])
        refine any_take 25 (Value.bool false) rfl (by kernel_rfl) (by kernel_rfl) (by kernel_rfl) (fun _ _ _ h => h) (by rfl) (by intro w hSw; (try dsimp only at hSw); go_split_ands; go_simp; first | done | (simp; omega)) hS ?_
        (try simp only [Act.put, List.setIfInBounds_toArray, List.set_cons_zero, List.set_cons_succ])
        refine any_take 26 ?vrdn20 rfl (by kernel_rfl) (by kernel_rfl) (by kernel_rfl) (fun _ _ _ h => h) (by rfl) ?hrdn20 hS ?_
        case hrdn20 => (intro w hSw; (try dsimp only at hSw); go_split_ands; go_simp; (try with_reducible rfl))
        (try simp only [Act.put, List.setIfInBounds_toArray, List.set_cons_zero, List.set_cons_succ])
        refine wpAnyH_done (by kernel_rfl) ?_ _
        refine NoPanic.normal ?_
        have HEND := hy2
        clear hS hS1 KD HS1 hbx2 HQ6
        have HE : Hid (NDuo W0 y4 R D v v) := HEND
        clear HEND hy2
        go_wp2
        go_roundw
        case rel => exact ⟨i + 1, v, by have := HI.out; omega, by first | rfl | (congr 1; omega), HE.out⟩
        case measure => have := HI.out; simp [intOf]; omega
    · by_cases b0 : ¬ (i < kl.length)
      · have f0 : decide ((i : Int) < (kl.length : Int)) = false := by simp; omega
        have ka := KA.out wr hlow
        clear hall hs H1 H3 H4 H5 KA hlow
        go_wp2_with fail
        refine ka.mono ?_
        rintro e wc ⟨rfl, hc⟩
        have HC : Hid (Below w.heap.size w wc) := hc
        clear hc ka
        go_wp2
        go_ret
        exact ⟨rfl, HC.out⟩
      · have f0 : decide ((i : Int) < (kl.length : Int)) = true := by simp; omega
        by_cases b1 : ¬ (i < cl.length)
        · have f1 : decide ((i : Int) < (cl.length : Int)) = false := by simp; omega
          have ka := KA.out wr hlow
          clear hall hs H1 H3 H4 H5 KA hlow
          go_wp2_with fail
          refine ka.mono ?_
          rintro e wc ⟨rfl, hc⟩
          have HC : Hid (Below w.heap.size w wc) := hc
          clear hc ka
          go_wp2
          go_ret
          exact ⟨rfl, HC.out⟩
        · have f1 : decide ((i : Int) < (cl.length : Int)) = true := by simp; omega
          by_cases b2 : ¬ (i < tl.length)
          · have f2 : decide ((i : Int) < (tl.length : Int)) = false := by simp; omega
            have ka := KA.out wr hlow
            clear hall hs H1 H3 H4 H5 KA hlow
            go_wp2_with fail
            refine ka.mono ?_
            rintro e wc ⟨rfl, hc⟩
            have HC : Hid (Below w.heap.size w wc) := hc
            clear hc ka
            go_wp2
            go_ret
            exact ⟨rfl, HC.out⟩
          · have f2 : decide ((i : Int) < (tl.length : Int)) = true := by simp; omega
            have f3 : decide ((i : Int) < 60) = false := by simp; omega
            have ka := KA.out wr hlow
            clear hall hs H1 H3 H4 H5 KA hlow
            go_wp2_with fail
            refine ka.mono ?_
            rintro e wc ⟨rfl, hc⟩
            have HC : Hid (Below w.heap.size w wc) := hc
            clear hc ka
            go_wp2
            go_ret
            exact ⟨rfl, HC.out⟩
end Go.Proofs.YtgncdnejmobjbaaGreatDoor
