/-
  The walk of TeslaHonest.
-/
import Derived.Test.YtmffplhaclnehaaGreatDoorRelM
namespace Go.Proofs.YtmffplhaclnehaaGreatDoor
open Go.ChangeShapes Go.WideShapes Go.ChangeAt Go.RowKit
set_option maxRecDepth 20000
set_option linter.unusedSimpArgs false
theorem TSolo.tellF {w W : World} {R : Nat} {s : Rv} {n : Nat} (h : TSolo w W R s n) (hT : TTab w) (hn : n ≤ 80000000) (e i : Int) (x : Option Addr) (cx : Nat) (k : List UInt8) (hx : Sees W x cx k) (hk : k.length ≤ 140737488355328) {u : Value} {L : List Fr} (hf : Frs W u L) :
    Calls Tryz.prog 15 #[.pointer (some ⟨R, 0, none⟩), .int .i64 e, .int .i64 i, .slice x k.length cx] W fun ev w' => ∃ vo, ev = .returned (.tuple #[vo, .int .i64 (telE s e i k)]) ∧ Frs w' vo (telR s e i k).2 ∧ Frs w' u L ∧ TSolo w w' R (telR s e i k).1 (n + 16448) := by
  obtain ⟨F0, h1, h2, h3⟩ := h
  obtain ⟨g, m, v, ka, kc, ss, hp, h5, h6, rfl⟩ := id h1
  refine (ttell_any W R s n _ h1 (hT.below h2) hn e i x cx k hx hk).mono fun _ _ ⟨vo, he, hF, ho, hl⟩ => ?_
  obtain ⟨_, _, ha, _⟩ := id hl
  exact ⟨vo, he, hF, hf.apart ha (fun k hk => Frs.notin hp hf hk) (fun k hk => hp.plain hk), Left.solo hl h2 h3⟩
def sentL (me : Int) (last : List UInt8) (body : Nat → List UInt8) (n : Nat) : List Fr := (List.range n).map fun u => getF (hnB me last body (u + 1))
theorem sentL_len (me : Int) (last : List UInt8) (body : Nat → List UInt8) (n : Nat) : (sentL me last body n).length = n := by simp [sentL]
theorem sentL_succ (me : Int) (last : List UInt8) (body : Nat → List UInt8) (n : Nat) : sentL me last body n ++ [getF (hnB me last body (n + 1))] = sentL me last body (n + 1) := by simp [sentL, List.range_succ]
set_option maxHeartbeats 16000000 in
theorem honest_walk (a : Option Addr) (ca : Nat) (seed : List UInt8) (x1 x2 : Int) (a5 : Option Addr) (ca5 : Nat) (BL : List (List UInt8)) (w : World) (hTab : ETab w ∧ FTab w ∧ KTab w) (ha : Sees w a ca seed) (_ : ca ≤ 140737488351232) (wx1 : (Lit.int .u8 x1).wf = true) (wx2 : (Lit.int .u8 x2).wf = true) (s5 : Rowss w a5 ca5 BL) (m5 : ∀ l ∈ BL, l.length ≤ 140737488351232) :
    Calls Tryz.prog 6 #[.slice a seed.length ca, .int .u8 x1, .int .u8 x2, .slice a5 BL.length ca5] w fun e w' => e = .returned (.bool true) ∧ Below w.heap.size w w' := by
  have bx1 := u8_in wx1
  have bx2 := u8_in wx2
  obtain ⟨me, m1⟩ : ∃ me : Nat, x1.tmod 3 = (me : Int) := ⟨(x1.tmod 3).toNat, by rw [Int.tmod_eq_emod_of_nonneg (by omega)]; omega⟩
  have hme : me < 3 := by rw [Int.tmod_eq_emod_of_nonneg (by omega)] at m1; omega
  obtain ⟨bg, m2⟩ : ∃ bg : Nat, x2.tmod 8 = (bg : Int) := ⟨(x2.tmod 8).toNat, by rw [Int.tmod_eq_emod_of_nonneg (by omega)]; omega⟩
  have hbg : bg < 8 := by rw [Int.tmod_eq_emod_of_nonneg (by omega)] at m2; omega
  have HT : Hid (TTab w) := hTab
  have HA : Hid (Sees w a ca seed) := ha
  have H5 : Hid (Rowss w a5 ca5 BL ∧ ∀ l ∈ BL, l.length ≤ 140737488351232) := ⟨s5, m5⟩
  have l5 := s5.len
  have k1 := usual_ok w
  clear hTab ha wx1 wx2 s5 m5
  go_enter Tryz.func6, Tryz.ntmps6
  go_wp2_with fail
  refine k1.mono ?_
  rintro e w1 ⟨rfl, hb1⟩
  obtain ⟨W2, hst, hCf, hb2⟩ := cf_stored w1 usC
  have HST : Hid ((Instr.storeAt 23 (.pointer (some ⟨w1.heap.size, 0, none⟩)) (.agg (cfC usC))).run Tryz.prog (w1.alloc (.cells #[.int .i64 0, .int .i64 0, .int .i64 0, .int .i64 0, .int .i64 0, .int .i64 0, .int .i64 0, .int .i64 0, .int .i64 0, .int .i64 0] 23)) = .ok () W2) := hst
  have HB2 : Hid (Below w.heap.size w W2) := hb1.trans (hb2.mono hb1.size)
  have HC2 : Hid (CfAt W2 w1.heap.size usC) := hCf
  clear hst hb1 hb2 hCf k1
  go_upto_region 2 with (first | (refine wpList_store_run rfl 23 _ _ rfl _ _ rfl rfl HST.out ?_) | fail)
  clear HST
  obtain ⟨C, hC⟩ : ∃ C, C = w1.heap.size := ⟨_, rfl⟩
  rw [← hC] at HC2 ⊢
  clear hC
  have c4 : W2.cell? ⟨C, 4, none⟩ = some (.int .i64 16) := HC2.out.c4
  have HZ : Hid (3 ≤ w.heap.size) := HT.out.2.2.two
  by_cases hs : seed.length = 16
  · have hT2 := HT.out.below HB2.out
    have KA := all_ok W2 a ca seed hs 16 (by omega) (by omega) hT2.2.1 hT2.2.2 (HA.out.below HB2.out)
    rw [hs]
    clear hs hT2
    go_wp2_with fail
    refine KA.mono ?_
    rintro e w3 ⟨g, rfl, hFu, hb3⟩
    clear KA c4
    have HB3 : Hid (Below w.heap.size w w3) := HB2.out.trans (hb3.mono HB2.out.size)
    have HC3 : Hid (CfAt w3 C usC) := HC2.out.below hb3
    have HF3 : Hid (Full w3 g 16 (lastL seed)) := hFu
    have HLC : Hid ((Instr.loadAt 23 (.pointer (some ⟨C, 0, none⟩))).run Tryz.prog w3 = .ok (.agg (cfC usC)) w3) := HC3.out.loads
    have KN := tnew_ok w3 usC (me : Int) (Nat.le_trans HZ.out HB3.out.size) usC_ok (by omega) (by show (me : Int) < 3; omega)
    have v1 : IntKind.u8.wrap (me : Int) = (me : Int) := by rw [IntKind.wrap_u8]; omega
    have v2 : IntKind.i64.wrap (me : Int) = (me : Int) := by rw [IntKind.wrap_i64]; omega
    clear hb3 hFu HC2
    go_wp2_with (first | (refine wpList_gload_run rfl 23 _ rfl _ _ rfl HLC.out ?_) | fail)
    refine KN.mono ?_
    rintro e w4 ⟨R, rfl, hBo⟩
    have hS := hBo.solo
    have hF4 := (Full.kp g 16 (lastL seed)).below HF3.out hS.bel
    have hC4 := HC3.out.below hS.bel
    have c4 : w4.cell? ⟨C, 4, none⟩ = some (.int .i64 16) := hC4.c4
    obtain ⟨p0, q0, s0⟩ := hF4.at (j := 0) (by omega)
    obtain ⟨k0, hk0⟩ : ∃ k0, k0 = backL 16 (lastL seed) := ⟨_, rfl⟩
    have hk16 : k0.length = 16 := by rw [hk0]; exact backL_len _ _ (lastL_len seed)
    rw [show 16 - 0 = 16 from rfl, ← hk0] at s0
    have KAn := hS.anchor (HT.out.below HB3.out) (by omega) 1 0 0 p0.1 p0.2 k0 s0 (by omega)
    obtain ⟨an1, an2⟩ := anc_new (c := usC) (me := (me : Int)) (e := 1) (t := 0) hk16 (by omega) (by omega) (by decide)
    rw [hk16, an1, an2] at KAn
    have v3 : IntKind.u8.wrap (bg : Int) = (bg : Int) := by rw [IntKind.wrap_u8]; omega
    have v4 : IntKind.i64.wrap (bg : Int) = (bg : Int) := by rw [IntKind.wrap_i64]; omega
    have HK0 : Hid (k0.length = 16 ∧ k0 = backL 16 (lastL seed)) := ⟨hk16, hk0⟩
    clear KN hBo hS hF4 hC4 s0 hk16 hk0 an1 an2 HLC
    go_wp2_with fail
    refine KAn.mono ?_
    rintro e w5 ⟨rfl, hS5⟩
    obtain ⟨body, hbody⟩ : ∃ body : Nat → List UInt8, body = fun i => (BL.getD (i - 1) []).take 16 := ⟨_, rfl⟩
    obtain ⟨last, hlast⟩ : ∃ last, last = lastL seed := ⟨_, rfl⟩
    have HBY : Hid ((∀ i, (body i).length ≤ 16) ∧ (∀ i l, BL[i]? = some l → body (i + 1) = l.take 16) ∧ last.length = 16) := ⟨fun i => by rw [hbody]; simp only [List.length_take]; omega, fun i l h => by rw [hbody]; simp [List.getD, h], by rw [hlast]; exact lastL_len seed⟩
    have HS5 : Hid (TSolo w3 w5 R (hnR (me : Int) last body 0) 64) := by rw [hlast]; unfold hnR; rw [← HK0.out.2]; exact hS5
    have HW3 : Hid (TTab w3 ∧ Full w3 g 16 last ∧ Below w.heap.size w w3) := ⟨HT.out.below HB3.out, by rw [hlast]; exact HF3.out, HB3.out⟩
    have HKL : Hid (k0.length = 16 ∧ k0 = backL 16 last) := ⟨HK0.out.1, by rw [hlast]; exact HK0.out.2⟩
    have KA : Hid (∀ W, Below w.heap.size w W → Calls Tryz.prog 10 #[] W fun e w' => e = .returned (.bool true) ∧ Below w.heap.size w w') := fun W hW => (tawake_ok W (HT.out.below hW)).mono fun _ _ ⟨h1, h2⟩ => ⟨h1, hW.trans (h2.mono hW.size)⟩
    obtain ⟨N, hN⟩ : ∃ N : Nat, N = min bg BL.length := ⟨_, rfl⟩
    have hmin := min2c (bg : Int) (BL.length : Int)
    have HN : Hid (N ≤ 7 ∧ N ≤ BL.length) := ⟨by omega, by omega⟩
    have hmin2 : ∀ V, (Builtin.min_ #[3, 3] 3 #[.int .i64 (bg : Int), .int .i64 (BL.length : Int)]).run Tryz.prog V = .ok (.int .i64 (N : Int)) V := fun V => by
      rw [hmin V, show min (bg : Int) (BL.length : Int) = (N : Int) by omega]
    clear KAn c4 q0 hS5 HA HB2 HB3 HC3 HF3 HT HZ hbody hlast HK0 hmin hN
    go_wp2
    go_loopw [16, 17] (fun u v wr => ∃ i : Nat, i ≤ N ∧ v = .int .i64 (i : Int) ∧ (∃ sa sc, u = .slice sa i sc) ∧ (∀ k, u.ownBlock = some k → w3.heap.size ≤ k) ∧ TSolo w3 wr R (hnR (me : Int) last body i) (64 + 65 * i) ∧ Frs wr u (sentL (me : Int) last body i)) (fun _ v _ => N - (intOf v).toNat)
    case atStart => exact ⟨0, by omega, rfl, ⟨none, 0, rfl⟩, (fun k hk => by cases hk), HS5.out, Frs.nil _⟩
    case round =>
      obtain ⟨i, hi, rfl, ⟨sa, sc, rfl⟩, hown, hs, hf⟩ := hrel
      clear HS5
      have g0 : (0 : Int) ≤ (i : Int) := Int.natCast_nonneg _
      have hlow : Below w.heap.size w wr := HW3.out.2.2.trans (hs.bel.mono HW3.out.2.2.size)
      by_cases hiN : i < N
      · obtain ⟨l, hl⟩ : ∃ l, BL[i]? = some l := ⟨BL[i]'(by have := HN.out; omega), List.getElem?_eq_getElem _⟩
        obtain ⟨pb, po, rfl, xa, xc, cp, hsx⟩ := H5.out.1.at' i l hl
        have hbody := HBY.out.2.1 i l hl
        obtain ⟨xl, hxl⟩ : ∃ xl, xl = l.length := ⟨_, rfl⟩
        obtain ⟨bl, hbl⟩ : ∃ bl, bl = (l.take 16).length := ⟨_, rfl⟩
        have HL : Hid (Sees w3 xa xc l ∧ xl = l.length ∧ bl = (l.take 16).length ∧ bl ≤ 16) := ⟨hsx.below HW3.out.2.2, hxl, hbl, by rw [hbl, List.length_take]; omega⟩
        have HKC : Hid (∀ V, Calls Tryz.prog 24 #[.slice xa xl xc] V fun e w' => e = .returned (.slice xa bl xc) ∧ w' = V) := fun V => by
          have h := HL.out.1
          have hm := h.room
          unfold maxLen at hm
          have := cut_ok V xa xl xc (by rw [HL.out.2.1]; exact h.fits) (by omega) h.bare
          rw [show min xl 16 = bl by rw [HL.out.2.2.1, List.length_take, HL.out.2.1]; omega] at this
          exact this
        have HD : Hid (TSolo w3 wr.drew R (hnR (me : Int) last body i) (64 + 65 * i)) := hs.below (Below.refl _ _).drew
        have hFu := (Full.kp g 16 last).below HW3.out.2.1 HD.out.bel
        obtain ⟨p0, q0, s0⟩ := hFu.at (j := 0) (by omega)
        obtain ⟨p1, q1, s1⟩ := hFu.at (j := i + 1) (by have := HN.out; omega)
        obtain ⟨key, hkey⟩ : ∃ key, key = backL (16 - (i + 1)) last := ⟨_, rfl⟩
        have hkl : key.length = 16 := by rw [hkey]; exact backL_len _ _ HBY.out.2.2
        rw [show 16 - 0 = 16 from rfl, ← HKL.out.2] at s0
        rw [← hkey] at s1
        have hme2 : (0 : Int) ≤ (me : Int) ∧ (me : Int) < 3 := ⟨by omega, by omega⟩
        obtain ⟨F, hF⟩ : ∃ F, F = dF me 1 ((i : Int) + 1) k0 (l.take 16) := ⟨_, rfl⟩
        have hF2 : F = hnF (me : Int) (backL 16 last) body (i + 1) := by rw [hF, ← hbody, HKL.out.2]; rfl
        have htag : tagB key F = true := by rw [hkey, hF2]; exact hn_tag hme2 HBY.out.2.2 (HBY.out.1 _) (by have := HN.out; omega)
        obtain ⟨g1, g2, g3, g4, g5⟩ := sl_get htag (by rw [hF]; show (0 : Nat) < _; decide)
        have hT3 := HW3.out.1.below HD.out.bel
        have KS := seal_any wr.drew F ⟨p0.1, p0.2, xa, xc, none, 0⟩ p1.1 p1.2 key hT3.2 (by rw [hF]; exact ⟨s0, (HL.out.1.below HD.out.bel).take 16, Sees.nil' _⟩) (by rw [hF]; show (0 : Nat) < _; decide) s1
        rw [hkl, g4, g5] at KS
        have HBu : Hid (∀ V, (Instr.build 61 #[(0, .int .i64 1), (1, .int .i64 (me : Int)), (3, .int .i64 1), (5, .int .i64 ((i : Int) + 1)), (10, .slice p0.1 16 p0.2), (11, .slice xa bl xc)]).run Tryz.prog V = .ok (.agg (frC F ⟨p0.1, p0.2, xa, xc, none, 0⟩)) V) := fun V => by rw [hF]; exact dF_buildB V me 1 _ k0 _ HKL.out.1 p0.1 p0.2 xa xc bl HL.out.2.2.1
        obtain ⟨b, hb⟩ : ∃ b, b = slB key F := ⟨_, rfl⟩
        have HB0 : Hid (b = hnB (me : Int) last body (i + 1)) := by rw [hb, hkey, hF2]; rfl
        rw [← hb] at KS g3
        obtain ⟨of1, of2⟩ := hn_offer (n := i) hme2 HBY.out.2.2 (show i < 7 by have := HN.out; omega) HBY.out.1
        rw [← HB0.out] at of1 of2
        have HOF : Hid (offE (hnR (me : Int) last body i) b 0 = 0 ∧ offV (hnR (me : Int) last body i) b 0 = hnR (me : Int) last body (i + 1) ∧ b.length ≤ 53 ∧ getE b = 0) := ⟨of1, of2, g3, by rw [hb]; exact g1⟩
        have cpw : wr.drew.cell? ⟨pb, po + i, none⟩ = some (.slice xa xl xc) := by rw [(hlow.drew).cell (p := ⟨pb, po + i, none⟩) (World.block_lt_of_cell? w _ cp), hxl]; exact cp
        have HQ : Hid (∀ V, Below wr.drew.heap.size wr.drew V → (V.cell? ⟨g, 0, none⟩ = some (.slice p0.1 16 p0.2) ∧ V.cell? ⟨pb, po + i, none⟩ = some (.slice xa xl xc) ∧ V.cell? ⟨g, i + 1, none⟩ = some (.slice p1.1 16 p1.2))) := fun V hbV => ⟨(hbV.cell (p := ⟨g, 0, none⟩) (World.block_lt_of_cell? _ _ q0)).trans q0, (hbV.cell (p := ⟨pb, po + i, none⟩) (World.block_lt_of_cell? _ _ cpw)).trans cpw, (hbV.cell (p := ⟨g, i + 1, none⟩) (World.block_lt_of_cell? _ _ q1)).trans q1⟩
        have hS0 := HQ.out wr.drew (Below.refl _ _)
        have HI : Hid (i < N) := hiN
        have HOW : Hid (∀ k, (Value.slice sa i sc).ownBlock = some k → w3.heap.size ≤ k) := hown
        have HFR : Hid (Frs wr (.slice sa i sc) (sentL (me : Int) last body i)) := hf
        have HS : Hid (TSolo w3 wr R (hnR (me : Int) last body i) (64 + 65 * i)) := hs
        have j1 : (i : Int) < (N : Int) := by omega
        have j2 : (i : Int) < (BL.length : Int) := by have := HN.out; omega
        have t1 : decide ((i : Int) < (N : Int)) = true := decide_eq_true j1
        have t2 : decide ((i : Int) < (BL.length : Int)) = true := decide_eq_true j2
        have u1 : 0 ≤ (i : Int) + 1 := by omega
        have u2 : (i : Int) + 1 < 17 := by have := HN.out; omega
        have e1 : IntKind.i64.wrap ((i : Int) + 1) = (i : Int) + 1 := by have := HN.out; rw [IntKind.wrap_i64]; omega
        clear hl cp hsx hbody hxl hbl HD hFu q0 q1 s0 s1 hkey hkl hme2 hF hF2 htag g1 g2 g3 g4 g5 hT3 hb of1 of2 cpw hs hf hown hlow hi hiN
        go_upto_region 13 with fail
        refine wp_region_noPanic ?_
        refine wp_region_held (S := fun V => V.cell? ⟨g, 0, none⟩ = some (.slice p0.1 16 p0.2) ∧ V.cell? ⟨pb, po + i, none⟩ = some (.slice xa xl xc) ∧ V.cell? ⟨g, i + 1, none⟩ = some (.slice p1.1 16 p1.2)) (by kernel_rfl) ?_
        have hS := hS0
        refine tk 0 hS ?_
        refine tk 1 hS ?_
        refine tk 2 hS ?_
        refine tk 3 hS ?_
        refine tk 4 hS ?_
        refine tk 5 hS ?_
        refine tk 6 hS ?_
        refine tk 7 hS ?_
        refine tk 8 hS ?_
        refine tk 9 hS ?_
        refine tk 12 hS ?_
        refine tk 13 hS ?_
        refine tk 14 hS ?_
        refine tk 15 hS ?_
        refine tk 16 hS ?_
        refine any_one 10 rfl (by kernel_rfl) (by rfl) (fun K hK => ?_)
        clear hS
        go_simp
        refine (HKC.out _).mono ?_
        rintro ev wc ⟨rfl, hwc⟩
        subst hwc
        refine hK.out _ _ (HQ.out _ (Below.refl _ _)) (fun hS => ?_)
        clear hK
        (try simp only [Act.put, sT])
        refine tk 11 (v := Value.agg (frC F ⟨p0.1, p0.2, xa, xc, none, 0⟩)) (hv := fun W _ => exec_build 61 _ rfl [(0, .int .i64 1), (1, .int .i64 (me : Int)), (3, .int .i64 1), (5, .int .i64 ((i : Int) + 1)), (10, .slice p0.1 16 p0.2), (11, .slice xa bl xc)] _ rfl (HBu.out W)) hS ?_
        refine any_one 17 rfl (by kernel_rfl) (by rfl) (fun K hK => ?_)
        clear hS
        go_simp
        refine KS.mono ?_
        rintro ev w6 ⟨d, cd, rfl, hs6, hb6⟩
        have HS6 : Hid (Sees w6 d cd b) := hs6
        have HB6 : Hid (Below wr.heap.size wr w6) := (Below.refl _ _).drew.trans hb6
        have HQ6 := HQ.out _ hb6
        clear hs6 hb6 KS
        refine hK.out _ _ (HQ6) (fun hS => ?_)
        clear hK
        (try simp only [Act.put, sT])
        refine tk 18 hS ?_
        refine tk 19 hS ?_
        refine tk 20 hS ?_
        refine tk 21 hS ?_
        refine tk 22 hS ?_
        refine wpAnyH_done (by kernel_rfl) ?_ _
        refine NoPanic.normal ?_
        clear hS hS0 HQ HQ6 u1 u2 HBu HKC
        have KG := get_any w6 d cd b HS6.out (by have := HOF.out.2.2.1; omega)
        rw [HOF.out.2.2.2, show ((0 : Nat) : Int) = 0 from rfl] at KG
        obtain ⟨G, hG⟩ : ∃ G, G = getF b := ⟨_, rfl⟩
        rw [← hG] at KG
        have HG : Hid (G = getF (hnB (me : Int) last body (i + 1))) := (by rw [hG, HB0.out] : G = getF (hnB (me : Int) last body (i + 1)))
        clear hG
        go_wp2_with fail
        refine KG.mono ?_
        rintro ev w7 ⟨A2, rfl, hS7, hb7⟩
        obtain ⟨W8, hst, hFr, hb8⟩ := fr_stored w7 G A2
        have HST : Hid ((Instr.storeAt 61 (.pointer (some ⟨w7.heap.size, 0, none⟩)) (.agg (frC G A2))).run Tryz.prog (w7.alloc (.cells #[.int .i64 0, .int .i64 0, .int .i64 0, .int .i64 0, .int .i64 0, .int .i64 0, .int .u64 0, .int .i64 0, .int .i64 0, .int .i64 0, .slice none 0 0, .slice none 0 0, .slice none 0 0] 61)) = .ok () W8) := hst
        have HB7 : Hid (Below wr.heap.size wr w7) := HB6.out.trans (hb7.mono HB6.out.size)
        have HB8 : Hid (Below wr.heap.size wr W8) := HB7.out.trans (hb8.mono HB7.out.size)
        have KO := (HS.out.below HB8.out).offerF HW3.out.1 (by have := HI.out; have := HN.out; omega) (show (0 : Nat) ≤ _ by omega) d cd b ((HS6.out.below hb7).below hb8) (by have := HOF.out.2.2.1; omega) 0 (HFR.out.below HB8.out) hFr (hS7.below hb8)
        rw [HOF.out.1, HOF.out.2.1] at KO
        clear KG hS7 hb7 hst hFr hb8 HS6 HB6
        go_wp2_with (first | (refine wpList_store_run rfl 61 _ _ rfl _ _ rfl rfl HST.out ?_) | fail)
        refine KO.mono ?_
        rintro ev w9 ⟨rfl, hS9, hF9, hB9, hN9⟩
        obtain ⟨u', W10, hrun, hS10, hF10, ho10⟩ := hS9.push hF9 HOW.out (by rw [sentL_len]; have := HI.out; have := HN.out; omega) hN9
        rw [HG.out, sentL_succ] at hF10
        obtain ⟨sa', sc', rfl⟩ := hF10.shape
        have HAP : Hid ((Builtin.append_ #[41, 41] 41 #[.slice sa i sc, .slice (some ⟨w9.heap.size, 0, none⟩) 1 1]).run Tryz.prog (w9.alloc (.cells (frC G A2) 61)) = .ok (.slice sa' (sentL (me : Int) last body (i + 1)).length sc') W10) := hrun
        have HLD : Hid ((Instr.loadAt 61 (.pointer (some ⟨w7.heap.size, 0, none⟩))).run Tryz.prog w9 = .ok (.agg (frC G A2)) w9) := hB9.loads
        have HNX : Hid (TSolo w3 W10 R (hnR (me : Int) last body (i + 1)) (64 + 65 * i + 65) ∧ Frs W10 (.slice sa' (sentL (me : Int) last body (i + 1)).length sc') (sentL (me : Int) last body (i + 1)) ∧ ∀ k, (Value.slice sa' (sentL (me : Int) last body (i + 1)).length sc').ownBlock = some k → w3.heap.size ≤ k) := ⟨hS10, hF10, ho10⟩
        rw [sentL_len] at HAP HNX
        clear KO hS9 hF9 hB9 hN9 hrun hS10 hF10 ho10 HST
        go_wp2_with (first | (refine wpList_gload_run rfl 61 _ rfl _ _ rfl HLD.out ?_) | (refine wpList_slice_run rfl 41 1 _ rfl [(0, .agg (frC G A2))] _ rfl (fr_slice w9 G A2) ?_) | (at_builtin; refine wpList_append_run rfl (.tmp 124) (.tmp 126) 41 rfl _ _ _ rfl rfl HAP.out ?_) | fail)
        go_roundw
        case rel => exact ⟨i + 1, by have := HI.out; omega, by first | rfl | (congr 1; omega), ⟨_, _, rfl⟩, HNX.out.2.2, HNX.out.1, HNX.out.2.1⟩
        case measure => have := HI.out; simp [intOf]; omega
      · obtain rfl : i = N := by omega
        have hd1 : decide ((i : Int) < (i : Int)) = false := by simp
        have hn1 : ¬ (i : Int) < (i : Int) := by omega
        have hN7 := HN.out.1
        have hme2 : (0 : Int) ≤ (me : Int) ∧ (me : Int) < 3 := ⟨by omega, by omega⟩
        obtain ⟨p2, q2, s2⟩ := ((Full.kp g 16 last).below HW3.out.2.1 hs.bel).at (j := i) (by omega)
        obtain ⟨k2, hk2⟩ : ∃ k2, k2 = backL (16 - i) last := ⟨_, rfl⟩
        have hk2l : k2.length = 16 := by rw [hk2]; exact backL_len _ _ HBY.out.2.2
        rw [← hk2] at s2
        have KT := hs.tellF HW3.out.1 (by omega) 1 (i : Int) p2.1 p2.2 k2 s2 (by omega) hf
        rw [hk2l] at KT
        have u1 : 0 ≤ (i : Int) := by omega
        have u2 : (i : Int) < 17 := by omega
        by_cases h0 : i = 0
        · subst h0
          obtain ⟨z1, z2⟩ := hn_none (me := (me : Int)) (body := body) HBY.out.2.2
          rw [hk2, show 16 - 0 = 16 from rfl, show ((0 : Nat) : Int) = 0 from rfl, z1, z2] at KT
          clear hs hf hown hN7 hme2 s2 hk2 hk2l z1 z2 HN hi
          go_wp2_with fail
          refine KT.mono ?_
          rintro ev w7 ⟨vo, rfl, hL, _, hS7⟩
          obtain ⟨la, lc, rfl⟩ := hL.shape
          have HLW : Hid (Below w.heap.size w w7) := HW3.out.2.2.trans (hS7.bel.mono HW3.out.2.2.size)
          have ka := KA.out w7 HLW.out
          clear KT hL hS7 q2 u1 u2
          go_wp2_with fail
          refine ka.mono ?_
          rintro ev wc ⟨rfl, hc⟩
          have HC : Hid (Below w.heap.size w wc) := hc
          clear hc ka
          go_wp2
          go_ret
          exact ⟨rfl, HC.out⟩
        · obtain ⟨z1, z2, z3, z4⟩ := hn_tell hme2 HBY.out.2.2 HBY.out.1 i hN7 (by omega)
          rw [← hk2] at z1 z2 z3 z4
          obtain ⟨s8, hs8⟩ : ∃ s8, s8 = (telR (hnR (me : Int) last body i) 1 (i : Int) k2).1 := ⟨_, rfl⟩
          rw [z1, z2, ← hs8] at KT
          rw [← hs8] at z3 z4
          have HZ3 : Hid (s8.last = (i : Int) ∧ s8.b.L.length = 0) := ⟨z3, z4⟩
          have h0i : ¬ (i : Int) = 0 := by omega
          clear hs hf hown hme2 s2 hk2 hk2l z1 z2 z3 z4 hs8 hi
          go_wp2_with fail
          refine KT.mono ?_
          rintro ev w7 ⟨vo, rfl, hL, hF, hS7⟩
          obtain ⟨la, lc, rfl⟩ := hL.shape
          have HLW : Hid (Below w.heap.size w w7) := HW3.out.2.2.trans (hS7.bel.mono HW3.out.2.2.size)
          have HS7 : Hid (TSolo w3 w7 R s8 (64 + 65 * i + 16448)) := hS7
          have hlen : ((List.range i).map fun u => getF (hnB (me : Int) last body (u + 1))).length = i := by simp
          rw [hlen] at hL ⊢
          have KF := frames_ok w7 la sa i i lc sc (sentL (me : Int) last body i) hL hF (by rw [sentL_len]; omega)
          clear hlen
          clear KT hL hF hS7 q2 u1 u2 hN7
          go_wp2_with fail
          refine KF.mono ?_
          rintro ev w8 ⟨rfl, hb8⟩
          have HS8 : Hid (TSolo w3 w8 R s8 (64 + 65 * i + 16448)) := HS7.out.below hb8
          have HB8 : Hid (Below w.heap.size w w8) := HLW.out.trans (hb8.mono HLW.out.size)
          have KL := HS8.out.last
          have KW := HS8.out.waiting
          rw [HZ3.out.1] at KL
          rw [HZ3.out.2, show ((0 : Nat) : Int) = 0 from rfl] at KW
          have ka := KA.out w8 HB8.out
          clear KF hb8
          go_wp2_with fail
          refine KL.mono ?_
          rintro ev wx ⟨rfl, hwx⟩
          subst hwx
          clear KL
          go_wp2_with fail
          refine KW.mono ?_
          rintro ev wy ⟨rfl, hwy⟩
          subst hwy
          clear KW
          go_wp2_with fail
          refine ka.mono ?_
          rintro ev wc ⟨rfl, hc⟩
          have HC : Hid (Below w.heap.size w wc) := hc
          clear hc ka
          go_wp2
          go_ret
          exact ⟨rfl, HC.out⟩
  · have hT2 := HT.out.below HB2.out
    have KA := all_any W2 a ca seed 16 hT2.2.1 hT2.2.2 (HA.out.below HB2.out)
    rw [show allP seed 16 = ([], 1) from if_neg (fun hh => hs hh.1)] at KA
    clear hs hT2
    go_wp2_with fail
    refine KA.mono ?_
    rintro e w3 ⟨d, cd, rfl, _, hb3⟩
    clear KA c4
    have HB3 : Hid (Below w.heap.size w w3) := HB2.out.trans (hb3.mono HB2.out.size)
    have HC3 : Hid (CfAt w3 C usC) := HC2.out.below hb3
    have HLC : Hid ((Instr.loadAt 23 (.pointer (some ⟨C, 0, none⟩))).run Tryz.prog w3 = .ok (.agg (cfC usC)) w3) := HC3.out.loads
    have KN := tnew_ok w3 usC (me : Int) (Nat.le_trans HZ.out HB3.out.size) usC_ok (by omega) (by show (me : Int) < 3; omega)
    have v1 : IntKind.u8.wrap (me : Int) = (me : Int) := by rw [IntKind.wrap_u8]; omega
    have v2 : IntKind.i64.wrap (me : Int) = (me : Int) := by rw [IntKind.wrap_i64]; omega
    clear hb3 HC2
    go_wp2_with (first | (refine wpList_gload_run rfl 23 _ rfl _ _ rfl HLC.out ?_) | fail)
    refine KN.mono ?_
    rintro e w4 ⟨R, rfl, hBo⟩
    have HB4 : Hid (Below w.heap.size w w4) := HB3.out.trans (hBo.solo.bel.mono HB3.out.size)
    have KAw := tawake_ok w4 (HT.out.below HB4.out)
    clear KN hBo HLC
    go_wp2_with fail
    refine KAw.mono ?_
    rintro ev w10 ⟨rfl, hb10⟩
    clear KAw
    go_wp2
    go_ret
    exact ⟨rfl, HB4.out.trans (hb10.mono HB4.out.size)⟩
end Go.Proofs.YtmffplhaclnehaaGreatDoor
