/-
  The walk of SealBack.
-/
import Derived.Test.YtaihjnaggmmiiaaGreatDoorSealTurn
namespace Go.Proofs.YtaihjnaggmmiiaaGreatDoor
open Go.ChangeShapes Go.WideShapes Go.ChangeAt Go.RowKit

set_option maxHeartbeats 1600000 in
set_option maxRecDepth 20000 in
theorem back_no (F : Fr) (A : At) (k : Option Addr) (ck : Nat) (key : List UInt8) (n : Int) (w : World) (hT : Tabs w) (hF : Seen w F A) (hn : F.n < 18446744073709551616) (hk : Sees w k ck key) (ht : tagB key F = false) :
    Calls Tryz.prog 5 #[.agg (frC F A), .slice k key.length ck, .int .u8 n] w fun e w' => e = .returned (.bool true) ∧ Below w.heap.size w w' := by
  have hb0 : Below w.heap.size w (w.alloc (.cells (frC F A) 25)) := Go.Joins.below_alloc1 _ _
  have H0 : Hid (Below w.heap.size w (w.alloc (.cells (frC F A) 25))) := hb0
  have HL : Hid ((Instr.loadAt 25 (.pointer (some ⟨w.heap.size, 0, none⟩))).run Tryz.prog (w.alloc (.cells (frC F A) 25)) = .ok (.agg (frC F A)) (w.alloc (.cells (frC F A) 25))) := (FrAt.new w F A).loads
  have hse := seal_any (w.alloc (.cells (frC F A) 25)) F A k ck key (hT.below hb0) (hF.below hb0) hn (hk.below hb0)
  have eR : sealR key F = [] := by unfold sealR; rw [if_neg (by rw [ht]; decide)]
  have eE : tagE key F = 1 := by unfold tagE; rw [if_neg (by rw [ht]; decide)]
  rw [eR, eE] at hse
  have HT : Hid (Tabs w) := hT
  clear hb0 hT hF hn hk ht eR eE
  go_enter Tryz.func5, Tryz.ntmps5
  go_upto_region 1 with fail
  generalize w.alloc (Obj.cells (frC F A) 25) = W0 at *
  go_wp2_with (first | (refine wpList_gload_run rfl 25 _ rfl _ _ rfl HL.out ?_) | fail)
  refine hse.mono ?_
  rintro e w1 ⟨d1, c1, rfl, _, hb1⟩
  have H1 : Hid (Below w.heap.size w w1) := H0.out.trans (hb1.mono H0.out.size)
  have haw := awake_ok w1 (HT.out.below H1.out)
  clear hse hb1 H0 HL
  go_wp2_with fail
  refine haw.mono ?_
  rintro e w2 ⟨rfl, hb2⟩
  have HE : Hid (Below w.heap.size w w2) := H1.out.trans (hb2.mono H1.out.size)
  clear haw hb2 H1
  go_wp2
  go_ret
  exact ⟨rfl, HE.out⟩

set_option maxHeartbeats 6400000 in
set_option maxRecDepth 20000 in
theorem back_yes (F : Fr) (A : At) (k : Option Addr) (ck : Nat) (key : List UInt8) (p : Nat) (hp : p < 256) (w : World) (hT : Tabs w) (hF : Seen w F A) (hn : F.n < 18446744073709551616) (hk : Sees w k ck key) (ht : tagB key F = true) :
    Calls Tryz.prog 5 #[.agg (frC F A), .slice k key.length ck, .int .u8 (p : Int)] w fun e w' => e = .returned (.bool true) ∧ Below w.heap.size w w' := by
  have hb0 : Below w.heap.size w (w.alloc (.cells (frC F A) 25)) := Go.Joins.below_alloc1 _ _
  have H0 : Hid (FrAt (w.alloc (.cells (frC F A) 25)) w.heap.size F A ∧ Below w.heap.size w (w.alloc (.cells (frC F A) 25))) := ⟨FrAt.new w F A, hb0⟩
  have HL0 : Hid ((Instr.loadAt 25 (.pointer (some ⟨w.heap.size, 0, none⟩))).run Tryz.prog (w.alloc (.cells (frC F A) 25)) = .ok (.agg (frC F A)) (w.alloc (.cells (frC F A) 25))) := (FrAt.new w F A).loads
  have hse := seal_any (w.alloc (.cells (frC F A) 25)) F A k ck key (hT.below hb0) (hF.below hb0) hn (hk.below hb0)
  have eR : sealR key F = putL (sealF key F) := by unfold sealR; rw [if_pos ht]
  have eE : tagE key F = 0 := by unfold tagE; rw [if_pos ht]
  rw [eR, eE] at hse
  have HO1 : Hid (∀ W d c, Tabs W → Sees W d c (putL (sealF key F)) → Sees W k ck key → Calls Tryz.prog 14 #[.slice d (putL (sealF key F)).length c, .slice k key.length ck] W fun e w' => Got W w' e (sealF key F) 0) := by
    intro W d c h1 h2 h3
    have h := open_any W d c (putL (sealF key F)) k ck key h1 h2 (by have := (put_len (sealF key F) (seal_right key F ht)).2.1; omega) h3
    rw [(seal_opens key F hn ht).1, (seal_opens key F hn ht).2] at h
    exact h
  have HG : Hid (({ F with tag := (sealF key F).tag } : Fr) = sealF key F ∧ (sealF key F).tag.length = 8 ∧ (sealF key F).n < 18446744073709551616 ∧ holdsB key (sealF key F) = true) := ⟨rfl, tagL_length key F, hn, holds_seal key F ht⟩
  have HY : Hid (∀ i x u, (sealF key F).tag[i]? = some x → u ≠ x → rightB { sealF key F with tag := (sealF key F).tag.set i u } = true ∧ holdsB key { sealF key F with tag := (sealF key F).tag.set i u } = false ∧
      openE (putL { sealF key F with tag := (sealF key F).tag.set i u }) key = 13 ∧ openF (putL { sealF key F with tag := (sealF key F).tag.set i u }) key = Fr.zero) := by
    intro i x u hx hu
    exact turned_no key (sealF key F) hn ht _ (by rw [List.length_set]; exact tagL_length key F) (set_ne _ i x u hx hu)
  have HK : Hid (Tabs w ∧ Seen w F A ∧ Sees w k ck key) := ⟨hT, hF, hk⟩
  generalize sealF key F = G at *
  generalize putL G = L at hse HO1
  clear hb0 hT hF hn hk ht eR eE
  go_enter Tryz.func5, Tryz.ntmps5
  go_upto_region 1 with fail
  generalize w.alloc (Obj.cells (frC F A) 25) = W0 at *
  go_wp2_with (first | (refine wpList_gload_run rfl 25 _ rfl _ _ rfl HL0.out ?_) | fail)
  refine hse.mono ?_
  rintro e w1 ⟨d1, c1, rfl, hs1, hb1⟩
  have hb1w : Below w.heap.size w w1 := H0.out.2.trans (hb1.mono H0.out.2.size)
  have H1 : Hid (FrAt w1 w.heap.size F A ∧ Below w.heap.size w w1) := ⟨H0.out.1.below hb1, hb1w⟩
  have hop := HO1.out w1 d1 c1 (HK.out.1.below hb1w) hs1 (HK.out.2.2.below hb1w)
  clear hse hs1 hb1 hb1w H0 HL0 HO1
  go_wp2_with fail
  refine hop.mono ?_
  rintro e w2 ⟨A2, rfl, hs2, hb2⟩
  obtain ⟨W2, hst2, f2, s2, b2⟩ := fr_laid hs2
  have hbw2 : Below w1.heap.size w1 W2 := hb2.trans (b2.mono hb2.size)
  have hb2w : Below w.heap.size w W2 := H1.out.2.trans (hbw2.mono H1.out.2.size)
  have HST2 : Hid ((Instr.storeAt 25 (.pointer (some ⟨w2.heap.size, 0, none⟩)) (.agg (frC G A2))).run Tryz.prog (w2.alloc (.cells (frC Fr.zero At.zero) 25)) = .ok () W2) := hst2
  have HL2 : Hid ((Instr.loadAt 25 (.pointer (some ⟨w2.heap.size, 0, none⟩))).run Tryz.prog W2 = .ok (.agg (frC G A2)) W2) := f2.loads
  have hho := holds_any W2 G A2 k ck key (HK.out.1.below hb2w) s2 HG.out.2.2.1 (HK.out.2.2.below hb2w) true HG.out.2.2.2
  have H2 : Hid (FrAt W2 w.heap.size F A ∧ FrAt W2 w2.heap.size G A2 ∧ Seen W2 G A2 ∧ Below w.heap.size w W2) := ⟨H1.out.1.below hbw2, f2, s2, hb2w⟩
  clear hop hs2 hb2 hst2 f2 s2 b2 hbw2 hb2w H1
  go_wp2_with (first | (refine wpList_store_run rfl 25 _ _ rfl _ _ rfl rfl HST2.out ?_) | (refine wpList_gload_run rfl 25 _ rfl _ _ rfl HL2.out ?_) | fail)
  refine hho.mono ?_
  rintro e w3 ⟨rfl, hb3⟩
  have hb3w : Below w.heap.size w w3 := H2.out.2.2.2.trans (hb3.mono H2.out.2.2.2.size)
  have f9 : FrAt w3 w2.heap.size G A2 := H2.out.2.1.below hb3
  have f0 : FrAt w3 w.heap.size F A := H2.out.1.below hb3
  have c9 := f9.c12
  obtain ⟨W4, hst4, f4, s4, b4⟩ := fr_laid (HK.out.2.1.below hb3w)
  have hb4w : Below w.heap.size w W4 := hb3w.trans (b4.mono hb3w.size)
  have f94 := f9.below b4
  have c94 := f94.c12
  have x12 := f4.c12
  have z12 := f4.fz 12
  have st4 : Sees W4 A2.ta A2.tc G.tag := ((H2.out.2.2.1.below hb3).below b4).tag
  obtain ⟨k1, k2, k3⟩ := tag_put (w := w) f4 s4 st4 hb3w.size hb4w (fun _ _ _ hs => sees_put f4 12 _ hs)
  rw [HG.out.1] at k1 k2
  have sG5 : Seen (W4.setCell ⟨w3.heap.size, 12, none⟩ (.slice A2.ta G.tag.length A2.tc)) G A2 := ⟨sees_put f4 12 _ ((H2.out.2.2.1.below hb3).below b4).key, sees_put f4 12 _ ((H2.out.2.2.1.below hb3).below b4).body, sees_put f4 12 _ st4⟩
  have f95 : FrAt (W4.setCell ⟨w3.heap.size, 12, none⟩ (.slice A2.ta G.tag.length A2.tc)) w2.heap.size G A2 := f94.keep (heap_setCell_other _ _ _ _ (by have := f9.lt; simp; omega))
  obtain ⟨A4, hA4⟩ : ∃ A4 : At, A4 = { A with ta := A2.ta, tc := A2.tc } := ⟨_, rfl⟩
  rw [← hA4] at k1 k2
  rw [HG.out.2.1] at c9 c94 k1 k2 k3 sG5 f95
  obtain ⟨W5, hW5⟩ : ∃ W5, W5 = W4.setCell ⟨w3.heap.size, 12, none⟩ (.slice A2.ta 8 A2.tc) := ⟨_, rfl⟩
  rw [← hW5] at k1 k2 k3 sG5 f95
  have HV5 : Hid (W5 = W4.setCell ⟨w3.heap.size, 12, none⟩ (.slice A2.ta 8 A2.tc)) := hW5
  have HL0 : Hid ((Instr.loadAt 25 (.pointer (some ⟨w.heap.size, 0, none⟩))).run Tryz.prog w3 = .ok (.agg (frC F A)) w3) := f0.loads
  have HST4 : Hid ((Instr.storeAt 25 (.pointer (some ⟨w3.heap.size, 0, none⟩)) (.agg (frC F A))).run Tryz.prog (w3.alloc (.cells (frC Fr.zero At.zero) 25)) = .ok () W4) := hst4
  have H5 : Hid (FrAt W5 w3.heap.size G A4 ∧ Seen W5 G A4 ∧ FrAt W5 w2.heap.size G A2 ∧ Seen W5 G A2 ∧ Below w.heap.size w W5) := ⟨k1, k2, f95, sG5, k3⟩
  obtain ⟨tn, htn⟩ : ∃ tn, tn = F.tag.length := ⟨_, rfl⟩
  rw [← htn] at x12
  clear hho hb3 hb3w f9 f0 hst4 f4 s4 b4 hb4w f94 st4 k1 k2 k3 sG5 f95 hA4 hW5 H2 HL2 HST2 htn
  go_upto_region 9 with (first | (refine wpList_gload_run rfl 25 _ rfl _ _ rfl HL0.out ?_) | (refine wpList_store_run rfl 25 _ _ rfl _ _ rfl rfl HST4.out ?_) | fail)
  clear c9 c94 x12 z12 HL0 HST4
  rw [← HV5.out]
  clear HV5
  obtain ⟨W6, W7, W8, t, cd, hst6, c6, hap, c7, z7, hW8, f8, s8, z8, hlt, hb8⟩ := back_y W5 G A2 w2.heap.size H5.out.2.2.2.1 H5.out.2.2.1 HG.out.2.1
  have HL5 : Hid ((Instr.loadAt 25 (.pointer (some ⟨w2.heap.size, 0, none⟩))).run Tryz.prog W5 = .ok (.agg (frC G A2)) W5) := H5.out.2.2.1.loads
  have HST6 : Hid ((Instr.storeAt 25 (.pointer (some ⟨W5.heap.size, 0, none⟩)) (.agg (frC G A2))).run Tryz.prog (W5.alloc (.cells (frC Fr.zero At.zero) 25)) = .ok () W6) := hst6
  have HAP : Hid ((Builtin.append_ #[23, 23] 23 #[.slice (some ⟨W6.heap.size, 0, none⟩) 0 0, .slice A2.ta 8 A2.tc]).run Tryz.prog (W6.alloc (.cells #[] 5)) = .ok (.slice (some ⟨t, 0, none⟩) 8 cd) W7) := hap
  have HV8 : Hid (W8 = W7.setCell ⟨W5.heap.size, 12, none⟩ (.slice (some ⟨t, 0, none⟩) 8 cd)) := hW8
  have H8 : Hid (FrAt W8 W5.heap.size G { A2 with ta := some ⟨t, 0, none⟩, tc := cd } ∧ Sees W8 (some ⟨t, 0, none⟩) cd G.tag ∧ (∀ i, W8.frozen? ⟨t, i, none⟩ = false) ∧ W5.heap.size < t ∧ Below W5.heap.size W5 W8) := ⟨f8, s8, z8, hlt, hb8⟩
  clear hst6 hap hW8 f8 s8 z8 hlt hb8
  go_upto_region 11 with (first | (refine wpList_gload_run rfl 25 _ rfl _ _ rfl HL5.out ?_) | (refine wpList_store_run rfl 25 _ _ rfl _ _ rfl rfl HST6.out ?_) | (refine wpList_append_run rfl _ _ 23 rfl _ _ _ rfl rfl HAP.out ?_) | fail)
  clear c6 c7 z7 HL5 HST6 HAP
  rw [← HV8.out]
  clear HV8
  -- one bit
  obtain ⟨q, hq⟩ : ∃ q, q = p / 8 := ⟨_, rfl⟩
  obtain ⟨i, hi⟩ : ∃ i, i = q % 8 := ⟨_, rfl⟩
  obtain ⟨j, hj⟩ : ∃ j, j = p % 8 := ⟨_, rfl⟩
  have hi8 : i < 8 := by omega
  have hj8 : j < 8 := by omega
  have q1 : (p : Int) / 8 = (q : Int) := by omega
  have q2 : (p : Int).tdiv 8 = (q : Int) := by rw [Int.tdiv_eq_ediv_of_nonneg (by omega)]; exact q1
  have q3 : IntKind.u8.wrap (q : Int) = (q : Int) := by rw [IntKind.wrap_u8]; omega
  have i1 : (q : Int) % 8 = (i : Int) := by omega
  have i2 : (q : Int).tmod 8 = (i : Int) := by rw [Int.tmod_eq_emod_of_nonneg (by omega)]; exact i1
  have i3 : IntKind.u8.wrap (i : Int) = (i : Int) := by rw [IntKind.wrap_u8]; omega
  have j1 : (p : Int) % 8 = (j : Int) := by omega
  have j2 : (p : Int).tmod 8 = (j : Int) := by rw [Int.tmod_eq_emod_of_nonneg (by omega)]; exact j1
  have j3 : IntKind.u8.wrap (j : Int) = (j : Int) := by rw [IntKind.wrap_u8]; omega
  obtain ⟨x, hx⟩ : ∃ x, G.tag[i]? = some x := ⟨G.tag[i]'(by rw [HG.out.2.1]; exact hi8), by simp [HG.out.2.1, hi8]⟩
  obtain ⟨b', o', hh, hcc⟩ := H8.out.2.1.get hx
  cases hh
  obtain ⟨u, hu⟩ : ∃ u, u = x ^^^ UInt8.ofNat (2 ^ j) := ⟨_, rfl⟩
  have hux : u ≠ x := by rw [hu]; exact xor_bit_ne x j hj8
  have hfi := H8.out.2.2.1 (0 + i)
  have c8 := H8.out.1.c12
  rw [HG.out.2.1] at c8
  have sh1 : (2 : Int) ^ j = ((2 ^ j : Nat) : Int) := by simp
  have ex : bits .xor .u8 (x.toNat : Int) ((2 ^ j : Nat) : Int) = (u.toNat : Int) := by
    rw [hu]
    have : (UInt8.ofNat (2 ^ j)).toNat = 2 ^ j := by
      rw [UInt8.toNat_ofNat']
      exact Nat.mod_eq_of_lt (Nat.pow_lt_pow_right (a := 2) (n := 8) (by omega) (by omega))
    have h2 := bxor x (UInt8.ofNat (2 ^ j))
    rw [this] at h2; exact h2
  obtain ⟨tt, htt⟩ : ∃ tt, tt = 2 ^ j := ⟨_, rfl⟩
  rw [← htt] at ex sh1
  have ht8 : tt < 256 := by rw [htt]; exact Nat.pow_lt_pow_right (a := 2) (n := 8) (by omega) (by omega)
  have hwt : IntKind.u8.wrap (tt : Int) = (tt : Int) := by rw [IntKind.wrap_u8]; omega
  have g0 : (0 : Int) ≤ (i : Int) := Int.natCast_nonneg _
  have g1 : (i : Int) < 8 := by omega
  have g2 : (0 : Int) ≤ (j : Int) := Int.natCast_nonneg _
  obtain ⟨y1, y2, y3, y4⟩ := HY.out i x u hx hux
  simp only [Nat.zero_add] at hcc hfi
  obtain ⟨f9, s9, b9⟩ := back_turned W5 W8 G A2 t cd i u H5.out.2.2.2.1 H8.out.1 H8.out.2.1 H8.out.2.2.2.1 H8.out.2.2.2.2
  have HYn : Hid (({ G with tag := G.tag.set i u } : Fr).n < 18446744073709551616) := HG.out.2.2.1
  obtain ⟨A5, hA5⟩ : ∃ A5 : At, A5 = { A2 with ta := some ⟨t, 0, none⟩, tc := cd } := ⟨_, rfl⟩
  obtain ⟨Y, hY⟩ : ∃ Y : Fr, Y = { G with tag := G.tag.set i u } := ⟨_, rfl⟩
  rw [← hY] at y1 y2 y3 y4 f9 s9 HYn
  rw [← hA5] at f9 s9
  simp only [Nat.zero_add] at f9 s9 b9
  have H9 : Hid (FrAt (W8.setCell ⟨t, i, none⟩ (.int .u8 (u.toNat : Int))).drew W5.heap.size Y A5 ∧ Seen (W8.setCell ⟨t, i, none⟩ (.int .u8 (u.toNat : Int))).drew Y A5 ∧ Below W5.heap.size W5 (W8.setCell ⟨t, i, none⟩ (.int .u8 (u.toNat : Int))).drew) := ⟨f9, s9, b9⟩
  have HYY : Hid (rightB Y = true ∧ holdsB key Y = false ∧ openE (putL Y) key = 13 ∧ openF (putL Y) key = Fr.zero) := ⟨y1, y2, y3, y4⟩
  clear hq hi hj hx hu hux htt y1 y2 y3 y4 f9 s9 b9 hA5 hY H8 HY
  go_wp2
  go_region
  clear hcc hfi c8 ex sh1 hwt g0 g1 g2 q1 q2 q3 i1 i2 i3 j1 j2 j3
  obtain ⟨W9, hW9⟩ : ∃ W9, W9 = (W8.setCell ⟨t, i, none⟩ (.int .u8 (u.toNat : Int))).drew := ⟨_, rfl⟩
  rw [← hW9] at H9 ⊢
  clear hW9
  have hb9w : Below w.heap.size w W9 := H5.out.2.2.2.2.trans (H9.out.2.2.mono H5.out.2.2.2.2.size)
  have hpu := put_yes W9 Y A5 H9.out.2.1 HYn.out HYY.out.1
  have HL9 : Hid ((Instr.loadAt 25 (.pointer (some ⟨W5.heap.size, 0, none⟩))).run Tryz.prog W9 = .ok (.agg (frC Y A5)) W9) := H9.out.1.loads
  have HB9 : Hid (Below w.heap.size w W9) := hb9w
  clear hb9w
  go_wp2_with (first | (refine wpList_gload_run rfl 25 _ rfl _ _ rfl HL9.out ?_) | fail)
  refine hpu.mono ?_
  rintro e w10 ⟨d10, c10, r10, hr10, rfl, hs10, hb10, _⟩
  have hb10w : Below w.heap.size w w10 := HB9.out.trans (hb10.mono HB9.out.size)
  have hop := open_any w10 d10 c10 r10 k ck key (HK.out.1.below hb10w) hs10 (by rw [hr10.out]; have := (put_len Y HYY.out.1).2.1; omega) (HK.out.2.2.below hb10w)
  rw [show openE r10 key = 13 by rw [hr10.out]; exact HYY.out.2.2.1, show openF r10 key = Fr.zero by rw [hr10.out]; exact HYY.out.2.2.2] at hop
  have H10 : Hid (Below W9.heap.size W9 w10) := hb10
  clear hpu hr10 hs10 hb10 hb10w HL9
  go_wp2_with fail
  refine hop.mono ?_
  rintro e w11 ⟨A11, rfl, hs11, hb11⟩
  obtain ⟨W11, hst11, _, _, b11⟩ := fr_laid hs11
  have h911 : Below W9.heap.size W9 W11 := (H10.out.trans (hb11.mono H10.out.size)).trans (b11.mono (H10.out.trans (hb11.mono H10.out.size)).size)
  have h511 : Below W5.heap.size W5 W11 := H9.out.2.2.trans (h911.mono H9.out.2.2.size)
  have HST11 : Hid ((Instr.storeAt 25 (.pointer (some ⟨w11.heap.size, 0, none⟩)) (.agg (frC Fr.zero A11))).run Tryz.prog (w11.alloc (.cells (frC Fr.zero At.zero) 25)) = .ok () W11) := hst11
  have HLx : Hid ((Instr.loadAt 25 (.pointer (some ⟨w3.heap.size, 0, none⟩))).run Tryz.prog W11 = .ok (.agg (frC G A4)) W11) := (H5.out.1.below h511).loads
  have HLg : Hid ((Instr.loadAt 25 (.pointer (some ⟨w2.heap.size, 0, none⟩))).run Tryz.prog W11 = .ok (.agg (frC G A2)) W11) := (H5.out.2.2.1.below h511).loads
  have hsm := fsame_any W11 G A4 G A2 (H5.out.2.1.below h511) (H5.out.2.2.2.1.below h511) true (sameB_refl G)
  have H11 : Hid (Below W9.heap.size W9 W11) := h911
  clear hop hs11 hb11 hst11 b11 h911 h511 H10
  go_wp2_with (first | (refine wpList_store_run rfl 25 _ _ rfl _ _ rfl rfl HST11.out ?_) | (refine wpList_gload_run rfl 25 _ rfl _ _ rfl HLx.out ?_) | (refine wpList_gload_run rfl 25 _ rfl _ _ rfl HLg.out ?_) | fail)
  refine hsm.mono ?_
  rintro e w12 ⟨rfl, hb12⟩
  have h912 : Below W9.heap.size W9 w12 := H11.out.trans (hb12.mono H11.out.size)
  have hb12w : Below w.heap.size w w12 := HB9.out.trans (h912.mono HB9.out.size)
  have HLy : Hid ((Instr.loadAt 25 (.pointer (some ⟨W5.heap.size, 0, none⟩))).run Tryz.prog w12 = .ok (.agg (frC Y A5)) w12) := (H9.out.1.below h912).loads
  have hho := holds_any w12 Y A5 k ck key (HK.out.1.below hb12w) (H9.out.2.1.below h912) HYn.out (HK.out.2.2.below hb12w) false HYY.out.2.1
  have H12 : Hid (Below w.heap.size w w12) := hb12w
  clear hsm hb12 h912 hb12w H11 HST11 HLx HLg H9 H5
  go_wp2_with (first | (refine wpList_gload_run rfl 25 _ rfl _ _ rfl HLy.out ?_) | fail)
  refine hho.mono ?_
  rintro e w13 ⟨rfl, hb13⟩
  have H13 : Hid (Below w.heap.size w w13) := H12.out.trans (hb13.mono H12.out.size)
  have haw := awake_ok w13 (HK.out.1.below H13.out)
  clear hho hb13 H12 HLy
  go_wp2_with fail
  refine haw.mono ?_
  rintro e w14 ⟨rfl, hb14⟩
  have HE : Hid (Below w.heap.size w w14) := H13.out.trans (hb14.mono H13.out.size)
  clear haw hb14 H13
  go_wp2
  go_ret
  exact ⟨rfl, HE.out⟩

theorem back_walk (F : Fr) (A : At) (k : Option Addr) (ck : Nat) (key : List UInt8) (n : Int) (w : World) (hT : Tabs w) (hF : Seen w F A) (hn : F.n < 18446744073709551616) (hk : Sees w k ck key) (hw : (Lit.int .u8 n).wf = true) :
    Calls Tryz.prog 5 #[.agg (frC F A), .slice k key.length ck, .int .u8 n] w fun e w' => e = .returned (.bool true) ∧ Below w.heap.size w w' := by
  have hb := bounds_u8 hw
  obtain ⟨p, rfl⟩ : ∃ p : Nat, n = p := ⟨n.toNat, by omega⟩
  cases ht : tagB key F
  · exact back_no F A k ck key _ w hT hF hn hk ht
  · exact back_yes F A k ck key p (by omega) w hT hF hn hk ht
end Go.Proofs.YtaihjnaggmmiiaaGreatDoor
