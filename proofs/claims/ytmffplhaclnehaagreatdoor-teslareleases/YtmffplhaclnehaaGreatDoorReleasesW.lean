/-
  The walk of TeslaReleases.
-/
import Derived.Test.YtmffplhaclnehaaGreatDoorRelM
namespace Go.Proofs.YtmffplhaclnehaaGreatDoor
open Go.ChangeShapes Go.WideShapes Go.ChangeAt Go.RowKit
set_option maxRecDepth 20000
set_option linter.unusedSimpArgs false
set_option maxHeartbeats 16000000 in
theorem releases_walk (a : Option Addr) (ca : Nat) (seed : List UInt8) (x1 x2 : Int) (a3 : Option Addr) (ca3 : Nat) (RL : List UInt8) (a4 : Option Addr) (ca4 : Nat) (TL : List UInt8) (a5 : Option Addr) (ca5 : Nat) (BL : List (List UInt8)) (w : World) (hTab : ETab w ∧ FTab w ∧ KTab w) (ha : Sees w a ca seed) (_ : ca ≤ 140737488351232) (wx1 : (Lit.int .u8 x1).wf = true) (wx2 : (Lit.int .u8 x2).wf = true) (s3 : Sees w a3 ca3 RL) (_ : ca3 ≤ 140737488351232) (s4 : Sees w a4 ca4 TL) (_ : ca4 ≤ 140737488351232) (s5 : Rowss w a5 ca5 BL) (m5 : ∀ l ∈ BL, l.length ≤ 140737488351232) :
    Calls Tryz.prog 4 #[.slice a seed.length ca, .int .u8 x1, .int .u8 x2, .slice a3 RL.length ca3, .slice a4 TL.length ca4, .slice a5 BL.length ca5] w fun e w' => e = .returned (.bool true) ∧ Below w.heap.size w w' := by
  have bx1 := u8_in wx1
  have bx2 := u8_in wx2
  obtain ⟨me, m1⟩ : ∃ me : Nat, x1.tmod 3 = (me : Int) := ⟨(x1.tmod 3).toNat, by rw [Int.tmod_eq_emod_of_nonneg (by omega)]; omega⟩
  have hme : me < 3 := by rw [Int.tmod_eq_emod_of_nonneg (by omega)] at m1; omega
  obtain ⟨bg, m2⟩ : ∃ bg : Nat, x2.tmod 50 = (bg : Int) := ⟨(x2.tmod 50).toNat, by rw [Int.tmod_eq_emod_of_nonneg (by omega)]; omega⟩
  have hbg : bg < 50 := by rw [Int.tmod_eq_emod_of_nonneg (by omega)] at m2; omega
  have HT : Hid (TTab w) := hTab
  have HA : Hid (Sees w a ca seed) := ha
  have H3 : Hid (Sees w a3 ca3 RL) := s3
  have H4 : Hid (Sees w a4 ca4 TL) := s4
  have H5 : Hid (Rowss w a5 ca5 BL ∧ ∀ l ∈ BL, l.length ≤ 140737488351232) := ⟨s5, m5⟩
  have l3 := s3.len
  have l4 := s4.len
  have l5 := s5.len
  have k1 := usual_ok w
  clear hTab ha wx1 wx2 s3 s4 s5 m5
  go_enter Tryz.func4, Tryz.ntmps4
  go_wp2_with fail
  refine k1.mono ?_
  rintro e w1 ⟨rfl, hb1⟩
  obtain ⟨W2, hst, hCf, hb2⟩ := cf_stored w1 usC
  have HST : Hid ((Instr.storeAt 23 (.pointer (some ⟨w1.heap.size, 0, none⟩)) (.agg (cfC usC))).run Tryz.prog (w1.alloc (.cells #[.int .i64 0, .int .i64 0, .int .i64 0, .int .i64 0, .int .i64 0, .int .i64 0, .int .i64 0, .int .i64 0, .int .i64 0, .int .i64 0] 23)) = .ok () W2) := hst
  have HB2 : Hid (Below w.heap.size w W2) := hb1.trans (hb2.mono hb1.size)
  have HC2 : Hid (CfAt W2 w1.heap.size usC) := hCf
  clear hst hb1 hb2 hCf k1
  go_upto_region 2 with (first | (refine wpList_store_run rfl 23 _ _ rfl _ _ rfl rfl HST.out ?_) | fail)
  clear HST
  obtain ⟨C, hC⟩ : ∃ C, C = w1.heap.size := ⟨_, rfl⟩
  rw [← hC] at HC2 ⊢
  clear hC
  have c4 : W2.cell? ⟨C, 4, none⟩ = some (.int .i64 16) := HC2.out.c4
  have HZ : Hid (3 ≤ w.heap.size) := HT.out.2.2.two
  by_cases hs : seed.length = 16
  · have hT2 := HT.out.below HB2.out
    have KA := all_ok W2 a ca seed hs 16 (by omega) (by omega) hT2.2.1 hT2.2.2 (HA.out.below HB2.out)
    rw [hs]
    clear hs hT2
    go_wp2_with fail
    refine KA.mono ?_
    rintro e w3 ⟨g, rfl, hFu, hb3⟩
    clear KA c4
    have HB3 : Hid (Below w.heap.size w w3) := HB2.out.trans (hb3.mono HB2.out.size)
    have HC3 : Hid (CfAt w3 C usC) := HC2.out.below hb3
    have HF3 : Hid (Full w3 g 16 (lastL seed)) := hFu
    have HLC : Hid ((Instr.loadAt 23 (.pointer (some ⟨C, 0, none⟩))).run Tryz.prog w3 = .ok (.agg (cfC usC)) w3) := HC3.out.loads
    have KN := tnew_ok w3 usC (me : Int) (Nat.le_trans HZ.out HB3.out.size) usC_ok (by omega) (by show (me : Int) < 3; omega)
    have v1 : IntKind.u8.wrap (me : Int) = (me : Int) := by rw [IntKind.wrap_u8]; omega
    have v2 : IntKind.i64.wrap (me : Int) = (me : Int) := by rw [IntKind.wrap_i64]; omega
    clear hb3 hFu HC2
    go_wp2_with (first | (refine wpList_gload_run rfl 23 _ rfl _ _ rfl HLC.out ?_) | fail)
    refine KN.mono ?_
    rintro e w4 ⟨R, rfl, hBo⟩
    have hS := hBo.solo
    have hF4 := (Full.kp g 16 (lastL seed)).below HF3.out hS.bel
    have hC4 := HC3.out.below hS.bel
    have c4 : w4.cell? ⟨C, 4, none⟩ = some (.int .i64 16) := hC4.c4
    obtain ⟨p0, q0, s0⟩ := hF4.at (j := 0) (by omega)
    obtain ⟨k0, hk0⟩ : ∃ k0, k0 = backL 16 (lastL seed) := ⟨_, rfl⟩
    have hk16 : k0.length = 16 := by rw [hk0]; exact backL_len _ _ (lastL_len seed)
    rw [show 16 - 0 = 16 from rfl, ← hk0] at s0
    have KAn := hS.anchor (HT.out.below HB3.out) (by omega) 3 (bg : Int) 0 p0.1 p0.2 k0 s0 (by omega)
    obtain ⟨an1, an2⟩ := anc_new (c := usC) (me := (me : Int)) (e := 3) (t := (bg : Int)) hk16 (by omega) (by omega) (by decide)
    rw [hk16, an1, an2] at KAn
    have v3 : IntKind.u8.wrap (bg : Int) = (bg : Int) := by rw [IntKind.wrap_u8]; omega
    have v4 : IntKind.i64.wrap (bg : Int) = (bg : Int) := by rw [IntKind.wrap_i64]; omega
    have HK0 : Hid (k0.length = 16 ∧ k0 = backL 16 (lastL seed)) := ⟨hk16, hk0⟩
    clear KN hBo hS hF4 hC4 s0 hk16 hk0 an1 an2 HLC
    go_wp2_with fail
    refine KAn.mono ?_
    rintro e w5 ⟨rfl, hS5⟩
    have HS5 : Hid (TSolo w3 w5 R (anR me bg k0) 64) := hS5
    have HW3 : Hid (TTab w3 ∧ Full w3 g 16 (lastL seed) ∧ CfAt w3 C usC ∧ Below w.heap.size w w3) := ⟨HT.out.below HB3.out, HF3.out, HC3.out, HB3.out⟩
    have KA : Hid (∀ W, Below w.heap.size w W → Calls Tryz.prog 10 #[] W fun e w' => e = .returned (.bool true) ∧ Below w.heap.size w w') := fun W hW => (tawake_ok W (HT.out.below hW)).mono fun _ _ ⟨h1, h2⟩ => ⟨h1, hW.trans (h2.mono hW.size)⟩
    clear KAn c4 q0 hS5 HA HB2 HB3 HC3 HF3 HT HZ v1 v2 v3 v4 m1 m2
    go_wp2
    go_loopw [20, 21] (fun u v wr => ∃ (i : Nat) (s : Rv) (n : Nat), i ≤ 40 ∧ n ≤ 64 + 16513 * i ∧ s.b.lost ≤ i ∧ s.me = (me : Int) ∧ s.st = (bg : Int) ∧ u = .int .i64 s.last ∧ v = .int .i64 (i : Int) ∧ TSolo w3 wr R s n) (fun _ v _ => 40 - (intOf v).toNat)
    case atStart => exact ⟨0, anR me bg k0, 64, by omega, by omega, Nat.le_refl _, rfl, rfl, rfl, rfl, HS5.out⟩
    case round =>
      obtain ⟨i, s, n, hi, hni, hlost, hsme, hsst, rfl, rfl, hs⟩ := hrel
      clear HS5
      have g0 : (0 : Int) ≤ (i : Int) := Int.natCast_nonneg _
      have hlow : Below w.heap.size w wr := HW3.out.2.2.2.trans (hs.bel.mono HW3.out.2.2.2.size)
      by_cases hall : i < RL.length ∧ i < TL.length ∧ i < BL.length ∧ i < 40
      · obtain ⟨i1, i2, i3, i4⟩ := hall
        obtain ⟨x, hx⟩ : ∃ x, RL[i]? = some x := ⟨RL[i], by simp [i1]⟩
        obtain ⟨rb, ro, rfl, cx⟩ := H3.out.get hx
        obtain ⟨y, hy⟩ : ∃ y, TL[i]? = some y := ⟨TL[i], by simp [i2]⟩
        obtain ⟨tb, tf, rfl, cy⟩ := H4.out.get hy
        obtain ⟨l, hl⟩ : ∃ l, BL[i]? = some l := ⟨BL[i], by simp [i3]⟩
        obtain ⟨pb, po, rfl, xa, xc, cp, hsx⟩ := H5.out.1.at' i l hl
        obtain ⟨X, hX⟩ : ∃ X, X = x.toNat := ⟨_, rfl⟩
        obtain ⟨Y, hY⟩ : ∃ Y, Y = y.toNat := ⟨_, rfl⟩
        have hX8 : X < 256 := by rw [hX]; exact UInt8.toNat_lt x
        have hY8 : Y < 256 := by rw [hY]; exact UInt8.toNat_lt y
        rw [← hX] at cx
        rw [← hY] at cy
        obtain ⟨q, hq⟩ : ∃ q, q = X % 16 := ⟨_, rfl⟩
        obtain ⟨J, hJ⟩ : ∃ J, J = Y % 17 := ⟨_, rfl⟩
        obtain ⟨RR, hRR⟩ : ∃ RR : Int, RR = (bg : Int) + 1 + (q : Int) := ⟨_, rfl⟩
        obtain ⟨xl, hxl⟩ : ∃ xl, xl = l.length := ⟨_, rfl⟩
        obtain ⟨bl, hbl⟩ : ∃ bl, bl = (l.take 16).length := ⟨_, rfl⟩
        have hq16 : q < 16 := by omega
        have hJ17 : J ≤ 16 := by omega
        have j1 : (i : Int) < (RL.length : Int) := by omega
        have j2 : (i : Int) < (TL.length : Int) := by omega
        have j3 : (i : Int) < (BL.length : Int) := by omega
        have t1 : decide ((i : Int) < (RL.length : Int)) = true := decide_eq_true j1
        have t2 : decide ((i : Int) < (TL.length : Int)) = true := decide_eq_true j2
        have t3 : decide ((i : Int) < (BL.length : Int)) = true := decide_eq_true j3
        have t4 : decide ((i : Int) < 40) = true := decide_eq_true (by omega)
        have HI : Hid (i < 40) := i4
        have HJ : Hid (J = Y % 17) := hJ
        have HC : Hid (∀ V, Below w3.heap.size w3 V → V.cell? ⟨C, 4, none⟩ = some (.int .i64 16)) := fun V hb => (HW3.out.2.2.1.below hb).c4
        have HCX : Hid (∀ V, Below w3.heap.size w3 V → (V.cell? ⟨rb, ro + i, none⟩ = some (.int .u8 (X : Int)) ∧ V.cell? ⟨C, 4, none⟩ = some (.int .i64 16))) := fun V hb => ⟨by rw [(HW3.out.2.2.2.trans (hb.mono HW3.out.2.2.2.size)).cell (p := ⟨rb, ro + i, none⟩) (World.block_lt_of_cell? w _ cx)]; exact cx, HC.out V hb⟩
        have HCY : Hid (∀ V, Below w3.heap.size w3 V → (V.cell? ⟨tb, tf + i, none⟩ = some (.int .u8 (Y : Int)) ∧ V.cell? ⟨C, 4, none⟩ = some (.int .i64 16))) := fun V hb => ⟨by rw [(HW3.out.2.2.2.trans (hb.mono HW3.out.2.2.2.size)).cell (p := ⟨tb, tf + i, none⟩) (World.block_lt_of_cell? w _ cy)]; exact cy, HC.out V hb⟩
        have HCP : Hid (∀ V, Below w3.heap.size w3 V → V.cell? ⟨pb, po + i, none⟩ = some (.slice xa xl xc)) := fun V hb => by rw [(HW3.out.2.2.2.trans (hb.mono HW3.out.2.2.2.size)).cell (p := ⟨pb, po + i, none⟩) (World.block_lt_of_cell? w _ cp), hxl]; exact cp
        have HL : Hid (Sees w3 xa xc l ∧ xl = l.length ∧ bl = (l.take 16).length ∧ bl ≤ 16) := ⟨hsx.below HW3.out.2.2.2, hxl, hbl, by rw [hbl, List.length_take]; omega⟩
        have HD : Hid (TSolo w3 wr.drew R s n) := hs.below (Below.refl _ _).drew
        have HS : Hid (n ≤ 64 + 16513 * i ∧ s.b.lost ≤ i ∧ s.me = (me : Int) ∧ s.st = (bg : Int)) := ⟨hni, hlost, hsme, hsst⟩
        have e1 : IntKind.i64.wrap (X : Int) = (X : Int) := by rw [IntKind.wrap_i64]; omega
        have e2 : (X : Int).tmod 16 = (q : Int) := by rw [Int.tmod_eq_emod_of_nonneg (by omega)]; omega
        have e3 : IntKind.i64.wrap (q : Int) = (q : Int) := by rw [IntKind.wrap_i64]; omega
        have e4 : IntKind.i64.wrap ((bg : Int) + 1) = (bg : Int) + 1 := by rw [IntKind.wrap_i64]; omega
        have e5 : IntKind.i64.wrap ((bg : Int) + 1 + (q : Int)) = RR := by rw [IntKind.wrap_i64]; omega
        have HR : Hid (RR = (bg : Int) + 1 + (q : Int)) := hRR
        have hc0 := HCX.out wr.drew HD.out.bel
        clear cx cy cp hsx hx hy hl hX hY hq hJ hRR hxl hbl hs hlow hni hlost hsme hsst H3 H4 H5 KA
        go_upto_region 14 with fail
        refine wp_region_noPanic ?_
        refine wp_region_held (S := fun V => V.cell? ⟨rb, ro + i, none⟩ = some (.int .u8 (X : Int)) ∧ V.cell? ⟨C, 4, none⟩ = some (.int .i64 16)) (by kernel_rfl) ?_
        have hS := hc0
        refine tk 0 hS ?_
        refine tk 1 hS ?_
        refine tk 2 hS ?_
        refine tk 3 hS ?_
        refine tk 4 hS ?_
        refine tk 5 hS ?_
        refine tk 6 hS ?_
        refine tk 7 hS ?_
        refine tk 8 hS ?_
        refine tk 9 hS ?_
        refine tk 10 hS ?_
        refine tk 11 hS ?_
        refine wpAnyH_done (by kernel_rfl) ?_ _
        refine NoPanic.normal ?_
        clear hS hc0 e1 e2 e3 e4 e5
        obtain ⟨W1, hW1⟩ : ∃ W1, W1 = wr.drew := ⟨_, rfl⟩
        have hW1e : ({ heap := wr.heap, tape := wr.tape, drawn := wr.drawn + 1, os := wr.os, output := wr.output } : World) = W1 := hW1.symm
        rw [hW1e]
        have HD1 : Hid (TSolo w3 W1.drew R s n) := by rw [hW1]; exact HD.out.below (Below.refl _ _).drew
        clear hW1 hW1e HD
        obtain ⟨p0, q0, s0⟩ := ((Full.kp g 16 (lastL seed)).below HW3.out.2.1 HD1.out.bel).at (j := 0) (by omega)
        rw [show 16 - 0 = 16 from rfl, ← HK0.out.2] at s0
        obtain ⟨F, hF⟩ : ∃ F, F = dF me 3 RR k0 (l.take 16) := ⟨_, rfl⟩
        have HKC : Hid (∀ V, Calls Tryz.prog 24 #[.slice xa xl xc] V fun e w' => e = .returned (.slice xa bl xc) ∧ w' = V) := fun V => by
          have h := HL.out.1
          have hm := h.room
          unfold maxLen at hm
          have := cut_ok V xa xl xc (by rw [HL.out.2.1]; exact h.fits) (by omega) h.bare
          rw [show min xl 16 = bl by rw [HL.out.2.2.1, List.length_take, HL.out.2.1]; omega] at this
          exact this
        have HBu : Hid (∀ V, (Instr.build 61 #[(0, .int .i64 1), (1, .int .i64 (me : Int)), (3, .int .i64 3), (5, .int .i64 RR), (10, .slice p0.1 16 p0.2), (11, .slice xa bl xc)]).run Tryz.prog V = .ok (.agg (frC F ⟨p0.1, p0.2, xa, xc, none, 0⟩)) V) := fun V => by rw [hF]; exact dF_buildB V me 3 RR k0 _ HK0.out.1 p0.1 p0.2 xa xc bl HL.out.2.2.1
        obtain ⟨W2', hst, hFr, hb2⟩ := fr_stored W1.drew F ⟨p0.1, p0.2, xa, xc, none, 0⟩
        have HST : Hid ((Instr.storeAt 61 (.pointer (some ⟨W1.drew.heap.size, 0, none⟩)) (.agg (frC F ⟨p0.1, p0.2, xa, xc, none, 0⟩))).run Tryz.prog (W1.drew.alloc (.cells #[.int .i64 0, .int .i64 0, .int .i64 0, .int .i64 0, .int .i64 0, .int .i64 0, .int .u64 0, .int .i64 0, .int .i64 0, .int .i64 0, .slice none 0 0, .slice none 0 0, .slice none 0 0] 61)) = .ok () W2') := hst
        have HD2 : Hid (TSolo w3 W2' R s n) := HD1.out.below hb2
        obtain ⟨B, hB⟩ : ∃ B, B = W1.drew.heap.size := ⟨_, rfl⟩
        have HFr : Hid (FrAt W2' B F ⟨p0.1, p0.2, xa, xc, none, 0⟩) := by rw [hB]; exact hFr
        have HQ : Hid (∀ V, Below W1.drew.heap.size W1.drew V → (V.cell? ⟨g, 0, none⟩ = some (.slice p0.1 16 p0.2) ∧ V.cell? ⟨pb, po + i, none⟩ = some (.slice xa xl xc))) := fun V hb => ⟨(hb.cell (p := ⟨g, 0, none⟩) (World.block_lt_of_cell? _ _ q0)).trans q0, HCP.out V (HD1.out.bel.trans (hb.mono HD1.out.bel.size))⟩
        have HQ2 : Hid ((W2'.cell? ⟨g, 0, none⟩ = some (.slice p0.1 16 p0.2) ∧ W2'.cell? ⟨pb, po + i, none⟩ = some (.slice xa xl xc))) := HQ.out W2' hb2
        have HS0 : Hid (Sees W1.drew p0.1 p0.2 k0 ∧ F = dF me 3 RR k0 (l.take 16) ∧ B = W1.drew.heap.size ∧ Below W1.drew.heap.size W1.drew W2') := ⟨s0, hF, hB, hb2⟩
        have hc0 := HQ.out W1.drew (Below.refl _ _)
        clear hst hFr hb2 q0 s0 hF hB
        go_upto_region 15 with fail
        go_cut [23] (fun x23 wx => x23 = .pointer (some ⟨B, 0, none⟩) ∧ wx = W2')
        case first =>
          refine wp_region_noPanic ?_
          refine wp_region_held (S := fun V => V.cell? ⟨g, 0, none⟩ = some (.slice p0.1 16 p0.2) ∧ V.cell? ⟨pb, po + i, none⟩ = some (.slice xa xl xc)) (by kernel_rfl) ?_
          have hS := hc0
          refine tk 0 hS ?_
          refine tk 1 hS ?_
          refine tk 2 hS ?_
          refine tk 3 hS ?_
          refine tk 4 hS ?_
          refine tk 5 hS ?_
          refine tk 6 hS ?_
          refine tk 7 hS ?_
          refine tk 8 hS ?_
          refine any_two 9 11 rfl rfl (by kernel_rfl) (by rfl) (by rfl) (fun K hK => ?_) (fun K hK => ?_)
          · clear hS
            go_simp
            refine (HKC.out _).mono ?_
            rintro ev wc ⟨rfl, hwc⟩
            subst hwc
            refine hK.out _ _ (HQ.out _ (by first | exact Below.refl _ _ | exact (Below.refl _ _).alloc (Nat.le_refl _) _)) (fun hS => ?_)
            clear hK
            (try simp only [Act.put, sT])
            refine tk 10 (v := Value.agg (frC F ⟨p0.1, p0.2, xa, xc, none, 0⟩)) (hv := fun W _ => exec_build 61 _ rfl [(0, .int .i64 1), (1, .int .i64 (me : Int)), (3, .int .i64 3), (5, .int .i64 RR), (10, .slice p0.1 16 p0.2), (11, .slice xa bl xc)] _ rfl (HBu.out W)) hS ?_
            refine any_one 11 rfl (by kernel_rfl) (by rfl) (fun K hK => ?_)
            clear hS
            go_simp
            refine hK.out _ _ (HQ.out _ ((Below.refl _ _).alloc (Nat.le_refl _) _)) (fun hS => ?_)
            clear hK
            (try simp only [Act.put, sT])
            refine any_one 12 rfl (by kernel_rfl) (by rfl) (fun K hK => ?_)
            clear hS
            refine op_store_run 61 _ _ rfl _ _ rfl rfl HST.out ?_
            refine hK.out _ _ (HQ2.out) (fun hS => ?_)
            clear hK
            (try simp only [Act.put, sT])
            refine wpAnyH_done (by kernel_rfl) ?_ _
            refine NoPanic.normal ?_
            go_wp2_with fail
            go_meet
            case rel => exact ⟨by rw [HS0.out.2.2.1]; rfl, rfl⟩
          · clear hS
            go_simp
            refine hK.out _ _ (HQ.out _ ((Below.refl _ _).alloc (Nat.le_refl _) _)) (fun hS => ?_)
            clear hK
            (try simp only [Act.put, sT])
            refine any_one 9 rfl (by kernel_rfl) (by rfl) (fun K hK => ?_)
            clear hS
            go_simp
            refine (HKC.out _).mono ?_
            rintro ev wc ⟨rfl, hwc⟩
            subst hwc
            refine hK.out _ _ (HQ.out _ (by first | exact Below.refl _ _ | exact (Below.refl _ _).alloc (Nat.le_refl _) _)) (fun hS => ?_)
            clear hK
            (try simp only [Act.put, sT])
            refine tk 10 (v := Value.agg (frC F ⟨p0.1, p0.2, xa, xc, none, 0⟩)) (hv := fun W _ => exec_build 61 _ rfl [(0, .int .i64 1), (1, .int .i64 (me : Int)), (3, .int .i64 3), (5, .int .i64 RR), (10, .slice p0.1 16 p0.2), (11, .slice xa bl xc)] _ rfl (HBu.out W)) hS ?_
            refine any_one 12 rfl (by kernel_rfl) (by rfl) (fun K hK => ?_)
            clear hS
            refine op_store_run 61 _ _ rfl _ _ rfl rfl HST.out ?_
            refine hK.out _ _ (HQ2.out) (fun hS => ?_)
            clear hK
            (try simp only [Act.put, sT])
            refine wpAnyH_done (by kernel_rfl) ?_ _
            refine NoPanic.normal ?_
            go_wp2_with fail
            go_meet
            case rel => exact ⟨by rw [HS0.out.2.2.1]; rfl, rfl⟩
        case rest =>
        obtain ⟨h23, hwc⟩ := hcut
        subst h23
        have hwc2 := hwc.symm
        clear hwc
        subst hwc2
        have HD3 : Hid (TSolo w3 W2'.drew R s n) := HD2.out.below (Below.refl _ _).drew
        obtain ⟨last, hlast⟩ : ∃ last, last = lastL seed := ⟨_, rfl⟩
        have HLL : Hid (last.length = 16) := by rw [hlast]; exact lastL_len seed
        have HFU : Hid (Full w3 g 16 last) := by rw [hlast]; exact HW3.out.2.1
        clear hlast
        obtain ⟨p1, q1, s1⟩ := ((Full.kp g 16 last).below HFU.out HD3.out.bel).at (j := q + 1) (by omega)
        obtain ⟨key, hkey⟩ : ∃ key, key = backL (16 - (q + 1)) last := ⟨_, rfl⟩
        have hkl : key.length = 16 := by rw [hkey]; exact backL_len _ _ HLL.out
        rw [← hkey] at s1
        have hRR : RR = (bg : Int) + 1 + (q : Int) := HR.out
        have htag : tagB key F = true := by rw [HS0.out.2.1]; exact dF_tag (by omega) (by omega) (by omega) HK0.out.1 (by rw [List.length_take]; omega) hkl
        obtain ⟨g1, g2, g3, g4, g5⟩ := sl_get htag (by rw [HS0.out.2.1]; show (0 : Nat) < _; decide)
        have hT3 := HW3.out.1.below HD3.out.bel
        have hb3 : Below W1.drew.heap.size W1.drew W2'.drew := HS0.out.2.2.2.trans ((Below.refl _ _).drew.mono HS0.out.2.2.2.size)
        have KS := seal_any W2'.drew F ⟨p0.1, p0.2, xa, xc, none, 0⟩ p1.1 p1.2 key hT3.2 (by rw [HS0.out.2.1]; exact ⟨HS0.out.1.below hb3, (HL.out.1.below HD3.out.bel).take 16, Sees.nil' _⟩) (by rw [HS0.out.2.1]; show (0 : Nat) < _; decide) s1
        rw [hkl, g4, g5] at KS
        obtain ⟨b, hb⟩ : ∃ b, b = slB key F := ⟨_, rfl⟩
        rw [← hb] at KS g3
        have HBL : Hid (b.length ≤ 53) := g3
        have u1 : 0 ≤ (q : Int) + 1 := by omega
        have u2 : (q : Int) + 1 < 17 := by omega
        have e6 : IntKind.i64.wrap (RR - (bg : Int)) = (q : Int) + 1 := by rw [IntKind.wrap_i64]; omega
        have HQ16 : Hid (∀ V, Below W2'.drew.heap.size W2'.drew V → ((Instr.loadAt 61 (.pointer (some ⟨B, 0, none⟩))).run Tryz.prog V = .ok (.agg (frC F ⟨p0.1, p0.2, xa, xc, none, 0⟩)) V ∧ V.cell? ⟨g, q + 1, none⟩ = some (.slice p1.1 16 p1.2))) := fun V hbV => ⟨(HFr.out.below ((Below.refl _ _).drew.trans hbV)).loads, (hbV.cell (p := ⟨g, q + 1, none⟩) (World.block_lt_of_cell? _ _ q1)).trans q1⟩
        have hS0 := HQ16.out W2'.drew (Below.refl _ _)
        have HBe : Hid (B = W1.drew.heap.size) := HS0.out.2.2.1
        clear hkey hkl htag g1 g2 g3 g4 g5 hT3 hb3 q1 s1 hb HKC HBu HST HQ HQ2 hRR
        go_upto_region 16 with fail
        refine wp_region_noPanic ?_
        refine wp_region_held (S := fun V => (Instr.loadAt 61 (.pointer (some ⟨B, 0, none⟩))).run Tryz.prog V = .ok (.agg (frC F ⟨p0.1, p0.2, xa, xc, none, 0⟩)) V ∧ V.cell? ⟨g, q + 1, none⟩ = some (.slice p1.1 16 p1.2)) (by kernel_rfl) ?_
        have hS := hS0
        refine tk 0 (v := Value.agg (frC F ⟨p0.1, p0.2, xa, xc, none, 0⟩)) (hv := fun W hW => exec_load 61 (.tmp 23) rfl _ _ rfl hW.1) hS ?_
        refine tk 1 hS ?_
        refine tk 2 hS ?_
        refine tk 3 hS ?_
        refine tk 4 hS ?_
        refine tk 5 hS ?_
        refine tk 6 hS ?_
        refine any_one 7 rfl (by kernel_rfl) (by rfl) (fun K hK => ?_)
        clear hS
        go_simp
        refine KS.mono ?_
        rintro ev w6 ⟨d, cd, rfl, hs6, hb6⟩
        have HS6 : Hid (Sees w6 d cd b) := hs6
        have HB6 : Hid (Below W2'.heap.size W2' w6) := (Below.refl _ _).drew.trans hb6
        have HQ6 := HQ16.out _ hb6
        clear hs6 hb6 KS
        refine hK.out _ _ (HQ6) (fun hS => ?_)
        clear hK
        (try simp only [Act.put, sT])
        refine tk 8 hS ?_
        refine tk 9 hS ?_
        refine tk 10 hS ?_
        refine tk 11 hS ?_
        refine tk 12 hS ?_
        refine wpAnyH_done (by kernel_rfl) ?_ _
        refine NoPanic.normal ?_
        clear hS hS0 HQ16 HQ6
        have HS6' : Hid (TSolo w3 w6 R s n) := HD2.out.below HB6.out
        have KO := HS6'.out.offer HW3.out.1 (by have := HS.out.1; have := HI.out; omega) (by have := HS.out.2.1; have := HI.out; omega) d cd b HS6.out (by have := HBL.out; omega) 0
        clear HB6 HD3 HD2 HS6 HFr HS0 HBe u1 u2 e6
        go_wp2_with fail
        refine KO.mono ?_
        rintro ev w8 ⟨rfl, hS8⟩
        clear KO
        obtain ⟨s7, hs7⟩ : ∃ s7, s7 = offV s b 0 := ⟨_, rfl⟩
        have HS7 : Hid (s7.b.lost ≤ i + 1 ∧ s7.me = (me : Int) ∧ s7.st = (bg : Int) ∧ s7.last = s.last) := by
          obtain ⟨_, o2, _, o4, o5⟩ := offV_same s b 0
          have := offV_lost s b 0
          have := HS.out
          rw [← hs7] at *
          exact ⟨by omega, by rw [o2]; exact HS.out.2.2.1, by rw [o4]; exact HS.out.2.2.2, o5⟩
        rw [← hs7] at hS8
        have HS8 : Hid (TSolo w3 w8.drew R s7 (n + 65)) := hS8.below (Below.refl _ _).drew
        have hcy := HCY.out w8.drew HS8.out.bel
        have f1 : IntKind.i64.wrap (Y : Int) = (Y : Int) := by rw [IntKind.wrap_i64]; omega
        have f0 : IntKind.i64.wrap 17 = 17 := by decide
        have f2 : (Y : Int).tmod 17 = (J : Int) := by have := HJ.out; rw [Int.tmod_eq_emod_of_nonneg (by omega)]; omega
        have f3 : IntKind.i64.wrap (J : Int) = (J : Int) := by rw [IntKind.wrap_i64]; omega
        clear hS8 hs7 HS6' HBL
        go_upto_region 20 with fail
        refine wp_region_noPanic ?_
        refine wp_region_held (S := fun V => V.cell? ⟨tb, tf + i, none⟩ = some (.int .u8 (Y : Int)) ∧ V.cell? ⟨C, 4, none⟩ = some (.int .i64 16)) (by kernel_rfl) ?_
        have hS := hcy
        refine tk 0 hS ?_
        refine tk 1 hS ?_
        refine tk 2 hS ?_
        refine tk 3 hS ?_
        refine tk 4 hS ?_
        refine tk 5 hS ?_
        refine tk 6 hS ?_
        refine tk 7 hS ?_
        refine tk 8 hS ?_
        refine tk 9 hS ?_
        refine wpAnyH_done (by kernel_rfl) ?_ _
        refine NoPanic.normal ?_
        clear hS hcy f0 f1 f2 f3
        obtain ⟨W9, hW9⟩ : ∃ W9, W9 = w8.drew := ⟨_, rfl⟩
        have hW9e : ({ heap := w8.heap, tape := w8.tape, drawn := w8.drawn + 1, os := w8.os, output := w8.output } : World) = W9 := hW9.symm
        (try rw [hW9e])
        (try rw [← hW9])
        have HS9 : Hid (TSolo w3 W9 R s7 (n + 65)) := by rw [hW9]; exact HS8.out
        clear hW9e hW9 HS8
        obtain ⟨p2, q2, s2⟩ := ((Full.kp g 16 last).below HFU.out HS9.out.bel).at (j := J) hJ17
        obtain ⟨k2, hk2⟩ : ∃ k2, k2 = backL (16 - J) last := ⟨_, rfl⟩
        have hk2l : k2.length = 16 := by rw [hk2]; exact backL_len _ _ HLL.out
        rw [← hk2] at s2
        have KT := HS9.out.tell HW3.out.1 (by have := HS.out.1; have := HI.out; omega) 3 (J : Int) p2.1 p2.2 k2 s2 (by omega)
        rw [hk2l] at KT
        obtain ⟨t1', t2', t3'⟩ := telR_good HS9.out.ok 3 (J : Int) k2
        have t4' := telR_few2 HS9.out.ok 3 (J : Int) k2
        have t5' := telR_lost s7 3 (J : Int) k2
        obtain ⟨_, t6', _, t7'⟩ := telR_same (s := s7) 3 (J : Int) k2
        obtain ⟨s8, hs8⟩ : ∃ s8, s8 = (telR s7 3 (J : Int) k2).1 := ⟨_, rfl⟩
        obtain ⟨E8, hE8⟩ : ∃ E8, E8 = telE s7 3 (J : Int) k2 := ⟨_, rfl⟩
        obtain ⟨L, hL⟩ : ∃ L, L = (telR s7 3 (J : Int) k2).2 := ⟨_, rfl⟩
        rw [← hs8, ← hE8, ← hL] at KT
        rw [← hL] at t1' t4'
        rw [← hL] at t3'
        rw [← hs8, ← hL] at t2'
        rw [← hs8] at t5' t6' t7'
        have hlast7 := HS7.out.2.2.2
        have HG : Hid (riseR s.last L ∧ s8.last = lastR s.last L ∧ L.length ≤ 900 ∧ s8.b.lost ≤ i + 1 ∧ s8.me = (me : Int) ∧ s8.st = (bg : Int) ∧ ∀ F ∈ L, F.f = (me : Int) ∧ F.n < 18446744073709551616 ∧ (bg : Int) < F.r ∧ F.r - (bg : Int) ≤ (J : Int) ∧ ∃ i : Nat, 1 ≤ i ∧ i ≤ 16 ∧ F.r = (bg : Int) + i ∧ holdsB (backL (16 - i) last) F = true) := by
          rw [hlast7] at t1' t2'
          refine ⟨t1', t2', t4', by rw [t5']; exact HS7.out.1, by rw [t6']; exact HS7.out.2.1, by rw [t7']; exact HS7.out.2.2.1, fun F hF => ?_⟩
          have h := t3' F hF
          rw [HS7.out.2.1, HS7.out.2.2.1, hk2, show 16 - J = 16 - (J : Int).toNat by omega] at h
          exact h.law HLL.out (by omega)
        have u1 : 0 ≤ (J : Int) := by omega
        have u2 : (J : Int) < 17 := by omega
        clear t1' t2' t3' t4' t5' t6' t7' hs8 hE8 hL hk2 hk2l s2 hlast7
        go_wp2_with fail
        refine KT.mono ?_
        rintro ev w10 ⟨vo, rfl, hFs, hown, hS10⟩
        obtain ⟨la, lc, rfl⟩ := hFs.shape
        have HFS : Hid (Frs w10 (.slice la L.length lc) L) := hFs
        have HS10 : Hid (TSolo w3 w10 R s8 (n + 65 + 16448)) := hS10
        clear KT q2 hFs hown hS10 HS9 HS7 u1 u2
        go_wp2
        go_loopw [20, 29] (fun u v wr' => ∃ t : Nat, t ≤ L.length ∧ u = .int .i64 (lastR s.last (L.take t)) ∧ v = .int .i64 (t : Int) ∧ Below w10.heap.size w10 wr') (fun _ v _ => (L.length - intOf v).toNat)
        case atStart => exact ⟨0, by omega, rfl, rfl, Below.refl _ _⟩
        case round =>
          rename World => wi
          obtain ⟨t, ht, rfl, rfl, hbi⟩ := hrel
          by_cases htc : t < L.length
          · obtain ⟨G, hG⟩ : ∃ G, L[t]? = some G := ⟨L[t]'htc, List.getElem?_eq_getElem htc⟩
            obtain ⟨os, r1, sn, m1⟩ := HFS.out
            obtain ⟨⟨F1, A1⟩, hp1⟩ : ∃ p, os[t]? = some p := ⟨os[t]'(by have := congrArg List.length m1; simp at this; omega), List.getElem?_eq_getElem _⟩
            have e1 : F1 = G := by
              have h := hG
              rw [← m1, List.getElem?_map, hp1] at h
              exact Option.some.inj h
            subst e1
            obtain ⟨ri1, ri2⟩ := riseR_at L s.last t F1 HG.out.1 hG
            obtain ⟨go1, go2, go3, go4, ii, go5, go6, go7, go8⟩ := HG.out.2.2.2.2.2.2 F1 (List.mem_of_getElem? hG)
            obtain ⟨q1, rfl, -⟩ := r1.frame hp1
            obtain ⟨_, e1, hld⟩ := (r1.below hbi).frame hp1
            cases e1
            have HLD : Hid ((Instr.loadAt 61 (.pointer (some ⟨q1, t * 13, none⟩))).run Tryz.prog wi = .ok (.agg (frC F1 A1)) wi) := hld
            have HSN : Hid (Seen wi F1 A1) := (sn _ (List.mem_of_getElem? hp1)).below hbi
            obtain ⟨lv, hlv⟩ : ∃ lv, lv = lastR s.last (L.take t) := ⟨_, rfl⟩
            rw [← hlv] at ri1 ⊢
            have HLV : Hid (lastR s.last (L.take (t + 1)) = F1.r ∧ t < L.length ∧ L.length ≤ 900) := ⟨ri2, htc, HG.out.2.2.1⟩
            have HBI : Hid (Below w10.heap.size w10 wi) := hbi
            obtain ⟨V3, hst, hFr3, hb3⟩ := fr_stored wi F1 A1
            have HST3 : Hid ((Instr.storeAt 61 (.pointer (some ⟨wi.heap.size, 0, none⟩)) (.agg (frC F1 A1))).run Tryz.prog (wi.alloc (.cells #[.int .i64 0, .int .i64 0, .int .i64 0, .int .i64 0, .int .i64 0, .int .i64 0, .int .u64 0, .int .i64 0, .int .i64 0, .int .i64 0, .slice none 0 0, .slice none 0 0, .slice none 0 0] 61)) = .ok () V3) := hst
            have HF3 : Hid (FrAt V3 wi.heap.size F1 A1) := hFr3
            have HB3 : Hid (Below wi.heap.size wi V3) := hb3
            have t1 : decide ((t : Int) < (L.length : Int)) = true := decide_eq_true (by omega)
            have t2 : (t : Int) < (L.length : Int) := by omega
            have t3 : (0 : Int) ≤ (t : Int) := by omega
            have HGO : Hid (F1.f = (me : Int) ∧ F1.n < 18446744073709551616 ∧ (bg : Int) < F1.r ∧ F1.r - (bg : Int) ≤ (J : Int) ∧ 1 ≤ ii ∧ ii ≤ 16 ∧ F1.r = (bg : Int) + ii ∧ holdsB (backL (16 - ii) last) F1 = true ∧ lv < F1.r) := ⟨go1, go2, go3, go4, go5, go6, go7, go8, ri1⟩
            clear hG r1 sn m1 hp1 ri1 ri2 go1 go2 go3 go4 go5 go6 go7 go8 hld hlv hbi hst hFr3 hb3 ht htc
            go_upto_region 26 with (first | (refine wpList_gload_run rfl 61 _ rfl _ _ rfl HLD.out ?_) | (refine wpList_store_run rfl 61 _ _ rfl _ _ rfl rfl HST3.out ?_) | fail)
            obtain ⟨B2, hB2⟩ : ∃ B2, B2 = wi.heap.size := ⟨_, rfl⟩
            rw [← hB2] at HF3 ⊢
            clear hB2 HST3 HLD
            have HV3 : Hid (Below w10.heap.size w10 V3.drew) := HBI.out.trans ((HB3.out.trans ((Below.refl _ _).drew.mono HB3.out.size)).mono HBI.out.size)
            have hs3 := HS10.out.below HV3.out
            obtain ⟨p3, q3, s3⟩ := ((Full.kp g 16 last).below HFU.out hs3.bel).at (j := ii) HGO.out.2.2.2.2.2.1
            obtain ⟨k3, hk3⟩ : ∃ k3, k3 = backL (16 - ii) last := ⟨_, rfl⟩
            have hk3l : k3.length = 16 := by rw [hk3]; exact backL_len _ _ HLL.out
            rw [← hk3] at s3
            have KH := holds_any V3.drew F1 A1 p3.1 p3.2 k3 (HW3.out.1.below hs3.bel).2 (HSN.out.below (HB3.out.trans ((Below.refl _ _).drew.mono HB3.out.size))) HGO.out.2.1 s3 true (by rw [hk3]; exact HGO.out.2.2.2.2.2.2.2.1)
            rw [hk3l] at KH
            obtain ⟨rr, hrr⟩ : ∃ rr, rr = F1.r := ⟨_, rfl⟩
            have HRR : Hid (rr = F1.r) := hrr
            have HQ26 : Hid (∀ V, Below V3.drew.heap.size V3.drew V → (V.cell? ⟨B2, 5, none⟩ = some (.int .i64 rr) ∧ V.cell? ⟨B2, 1, none⟩ = some (.int .i64 (me : Int)) ∧ (Instr.loadAt 61 (.pointer (some ⟨B2, 0, none⟩))).run Tryz.prog V = .ok (.agg (frC F1 A1)) V ∧ V.cell? ⟨g, ii, none⟩ = some (.slice p3.1 16 p3.2))) := fun V hb => by
              have hf := HF3.out.below ((Below.refl _ _).drew.trans hb)
              exact ⟨by rw [HRR.out]; exact hf.c5, by rw [← HGO.out.1]; exact hf.c1, hf.loads, (hb.cell (p := ⟨g, ii, none⟩) (World.block_lt_of_cell? _ _ q3)).trans q3⟩
            have hgo := HGO.out
            have f6 : IntKind.i64.wrap (rr - (bg : Int)) = (ii : Int) := by rw [IntKind.wrap_i64]; omega
            have d1 : ¬ rr ≤ lv := by omega
            have d3 : ¬ (J : Int) < (ii : Int) := by omega
            have d4 : ¬ rr ≤ (bg : Int) := by omega
            have u3 : 0 ≤ (ii : Int) := by omega
            have u4 : (ii : Int) < 17 := by omega
            have HS26 := HQ26.out V3.drew (Below.refl _ _)
            clear hs3 q3 s3 hk3 hk3l hrr hgo t1 t2 t3
            refine wp_region_noPanic ?_
            refine wp_region_held (S := fun V => V.cell? ⟨B2, 5, none⟩ = some (.int .i64 rr) ∧ V.cell? ⟨B2, 1, none⟩ = some (.int .i64 (me : Int)) ∧ (Instr.loadAt 61 (.pointer (some ⟨B2, 0, none⟩))).run Tryz.prog V = .ok (.agg (frC F1 A1)) V ∧ V.cell? ⟨g, ii, none⟩ = some (.slice p3.1 16 p3.2)) (by kernel_rfl) ?_
            have hS := HS26
            refine tk 0 hS ?_
            refine tk 1 hS ?_
            refine tk 2 hS ?_
            refine tk 3 (v := Value.bool false) (hv := by intro w hSw; (try dsimp only at hSw); go_split_ands; go_simp; first | done | (simp; omega)) hS ?_
            refine tk 4 hS ?_
            refine tk 5 hS ?_
            refine tk 6 hS ?_
            refine tk 7 hS ?_
            refine tk 8 (v := Value.bool false) (hv := by intro w hSw; (try dsimp only at hSw); go_split_ands; go_simp; first | done | (simp; omega)) hS ?_
            refine tk 9 hS ?_
            refine tk 10 hS ?_
            refine tk 11 hS ?_
            refine tk 12 hS ?_
            refine tk 13 hS ?_
            refine tk 14 hS ?_
            refine tk 15 hS ?_
            refine tk 16 (v := Value.bool false) (hv := by intro w hSw; (try dsimp only at hSw); go_split_ands; go_simp; first | done | (simp; omega)) hS ?_
            refine tk 17 hS ?_
            refine tk 18 hS ?_
            refine tk 19 hS ?_
            refine tk 20 hS ?_
            refine tk 21 hS ?_
            refine tk 22 (v := Value.bool false) (hv := by intro w hSw; (try dsimp only at hSw); go_split_ands; go_simp; first | done | (simp; omega)) hS ?_
            refine tk 23 hS ?_
            refine tk 24 hS ?_
            refine tk 25 (v := Value.agg (frC F1 A1)) (hv := fun W hW => exec_load 61 (.tmp 30) rfl _ _ rfl hW.2.2.1) hS ?_
            refine tk 26 hS ?_
            refine tk 27 hS ?_
            refine tk 28 hS ?_
            refine tk 29 hS ?_
            refine tk 30 hS ?_
            refine tk 31 hS ?_
            refine tk 32 hS ?_
            refine any_one 33 rfl (by kernel_rfl) (by rfl) (fun K hK => ?_)
            clear hS
            go_simp
            refine KH.mono ?_
            rintro ev w11 ⟨rfl, hb11⟩
            have HB11 : Hid (Below V3.drew.heap.size V3.drew w11) := hb11
            have HQ27 := HQ26.out _ hb11
            clear hb11 KH
            refine hK.out _ _ (HQ27) (fun hS => ?_)
            clear hK
            (try simp only [Act.put, sT])
            refine tk 34 hS ?_
            refine tk 35 hS ?_
            refine wpAnyH_done (by kernel_rfl) ?_ _
            refine NoPanic.normal ?_
            clear hS HS26 HQ26 d1 d3 d4 u3 u4 f6
            have q5 : w11.cell? ⟨B2, 5, none⟩ = some (.int .i64 rr) := HQ27.1
            have e9 : IntKind.i64.wrap ((t : Int) + 1) = ((t + 1 : Nat) : Int) := by have := HLV.out; rw [IntKind.wrap_i64]; omega
            go_wp2
            go_roundw
            case rel => exact ⟨t + 1, by have := HLV.out; omega, by rw [HLV.out.1, HRR.out], rfl, HV3.out.trans (HB11.out.mono HV3.out.size)⟩
            case measure => have := HLV.out; simp [intOf]; omega
          · have hte : t = L.length := by omega
            have hdt : decide ((t : Int) < (L.length : Int)) = false := decide_eq_false (by omega)
            have hdn : ¬ (t : Int) < (L.length : Int) := by omega
            have e9 : IntKind.i64.wrap ((i : Int) + 1) = ((i + 1 : Nat) : Int) := by have := HI.out; rw [IntKind.wrap_i64]; omega
            have hlr : lastR s.last (L.take t) = s8.last := by rw [hte, List.take_length, ← HG.out.2.1]
            rw [hlr]
            have HE : Hid (TSolo w3 wi R s8 (n + 65 + 16448)) := HS10.out.below hbi
            clear hte hlr hbi ht htc
            go_wp2
            go_roundw
            case rel => exact ⟨i + 1, s8, n + 65 + 16448, by have := HI.out; omega, by have := HS.out.1; omega, HG.out.2.2.2.1, HG.out.2.2.2.2.1, HG.out.2.2.2.2.2.1, rfl, rfl, HE.out⟩
            case measure => have := HI.out; simp [intOf]; omega
      · by_cases b0 : ¬ (i < RL.length)
        · have f0 : decide ((i : Int) < (RL.length : Int)) = false := by simp; omega
          have KL := hs.last
          have ka := KA.out wr hlow
          have HLW : Hid (Below w.heap.size w wr) := hlow
          clear hall hs hlow hni hlost hsme hsst H3 H4 H5 KA
          go_wp2_with fail
          refine KL.mono ?_
          rintro e wx ⟨rfl, hwx⟩
          subst hwx
          clear KL
          go_wp2_with fail
          refine ka.mono ?_
          rintro e wc ⟨rfl, hc⟩
          have HC : Hid (Below w.heap.size w wc) := hc
          clear hc ka
          go_wp2
          go_ret
          exact ⟨rfl, HC.out⟩
        · have f0 : decide ((i : Int) < (RL.length : Int)) = true := by simp; omega
          by_cases b1 : ¬ (i < TL.length)
          · have f1 : decide ((i : Int) < (TL.length : Int)) = false := by simp; omega
            have KL := hs.last
            have ka := KA.out wr hlow
            have HLW : Hid (Below w.heap.size w wr) := hlow
            clear hall hs hlow hni hlost hsme hsst H3 H4 H5 KA
            go_wp2_with fail
            refine KL.mono ?_
            rintro e wx ⟨rfl, hwx⟩
            subst hwx
            clear KL
            go_wp2_with fail
            refine ka.mono ?_
            rintro e wc ⟨rfl, hc⟩
            have HC : Hid (Below w.heap.size w wc) := hc
            clear hc ka
            go_wp2
            go_ret
            exact ⟨rfl, HC.out⟩
          · have f1 : decide ((i : Int) < (TL.length : Int)) = true := by simp; omega
            by_cases b2 : ¬ (i < BL.length)
            · have f2 : decide ((i : Int) < (BL.length : Int)) = false := by simp; omega
              have KL := hs.last
              have ka := KA.out wr hlow
              have HLW : Hid (Below w.heap.size w wr) := hlow
              clear hall hs hlow hni hlost hsme hsst H3 H4 H5 KA
              go_wp2_with fail
              refine KL.mono ?_
              rintro e wx ⟨rfl, hwx⟩
              subst hwx
              clear KL
              go_wp2_with fail
              refine ka.mono ?_
              rintro e wc ⟨rfl, hc⟩
              have HC : Hid (Below w.heap.size w wc) := hc
              clear hc ka
              go_wp2
              go_ret
              exact ⟨rfl, HC.out⟩
            · have f2 : decide ((i : Int) < (BL.length : Int)) = true := by simp; omega
              by_cases b3 : ¬ (i < 40)
              · have f3 : decide ((i : Int) < 40) = false := by simp; omega
                have KL := hs.last
                have ka := KA.out wr hlow
                have HLW : Hid (Below w.heap.size w wr) := hlow
                clear hall hs hlow hni hlost hsme hsst H3 H4 H5 KA
                go_wp2_with fail
                refine KL.mono ?_
                rintro e wx ⟨rfl, hwx⟩
                subst hwx
                clear KL
                go_wp2_with fail
                refine ka.mono ?_
                rintro e wc ⟨rfl, hc⟩
                have HC : Hid (Below w.heap.size w wc) := hc
                clear hc ka
                go_wp2
                go_ret
                exact ⟨rfl, HC.out⟩
              · exact absurd ⟨by omega, by omega, by omega, by omega⟩ hall
  · have hT2 := HT.out.below HB2.out
    have KA := all_any W2 a ca seed 16 hT2.2.1 hT2.2.2 (HA.out.below HB2.out)
    rw [show allP seed 16 = ([], 1) from if_neg (fun hh => hs hh.1)] at KA
    clear hs hT2
    go_wp2_with fail
    refine KA.mono ?_
    rintro e w3 ⟨d, cd, rfl, _, hb3⟩
    clear KA c4
    have HB3 : Hid (Below w.heap.size w w3) := HB2.out.trans (hb3.mono HB2.out.size)
    have HC3 : Hid (CfAt w3 C usC) := HC2.out.below hb3
    have HLC : Hid ((Instr.loadAt 23 (.pointer (some ⟨C, 0, none⟩))).run Tryz.prog w3 = .ok (.agg (cfC usC)) w3) := HC3.out.loads
    have KN := tnew_ok w3 usC (me : Int) (Nat.le_trans HZ.out HB3.out.size) usC_ok (by omega) (by show (me : Int) < 3; omega)
    have v1 : IntKind.u8.wrap (me : Int) = (me : Int) := by rw [IntKind.wrap_u8]; omega
    have v2 : IntKind.i64.wrap (me : Int) = (me : Int) := by rw [IntKind.wrap_i64]; omega
    clear hb3 HC2
    go_wp2_with (first | (refine wpList_gload_run rfl 23 _ rfl _ _ rfl HLC.out ?_) | fail)
    refine KN.mono ?_
    rintro e w4 ⟨R, rfl, hBo⟩
    have HB4 : Hid (Below w.heap.size w w4) := HB3.out.trans (hBo.solo.bel.mono HB3.out.size)
    have KAw := tawake_ok w4 (HT.out.below HB4.out)
    clear KN hBo HLC
    go_wp2_with fail
    refine KAw.mono ?_
    rintro ev w10 ⟨rfl, hb10⟩
    clear KAw
    go_wp2
    go_ret
    exact ⟨rfl, HB4.out.trans (hb10.mono HB4.out.size)⟩
end Go.Proofs.YtmffplhaclnehaaGreatDoor
