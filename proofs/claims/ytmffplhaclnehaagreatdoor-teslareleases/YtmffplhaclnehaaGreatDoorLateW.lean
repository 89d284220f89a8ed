/-
  The walk of TeslaLate.
-/
import Derived.Test.YtmffplhaclnehaaGreatDoorTesQ
namespace Go.Proofs.YtmffplhaclnehaaGreatDoor
open Go.ChangeShapes Go.WideShapes Go.ChangeAt Go.RowKit
set_option maxRecDepth 20000
theorem exec_build {P : Program} {o : Oper} {a : Act} {w : World} (t : TypeId) (parts : Array (Nat × Operand)) (ho : o.op = .build t parts) (vs : List (Nat × Value)) (r : Value) (hp : parts.toList.map (fun p => (p.1, a.eval p.2)) = vs) (hrun : (Instr.build t vs.toArray).run P w = .ok r w) : (execOp a.eval o).run P w = .ok (.value r) w := by
  have hq : parts.map (fun p => (p.1, a.eval p.2)) = vs.toArray := by rw [← hp, ← Array.toList_map, Array.toArray_toList]
  unfold execOp
  simp only [ho, hq, Sem.run_bind, hrun, Result.andThen_ok, Sem.run_pure]
def anR (me bg : Int) (k0 : List UInt8) : Rv := ⟨usC, me, 3, bg, 0, k0, ⟨usC.p.toNat, 0, []⟩, -1⟩
theorem late_off {me bg jj : Nat} (hme : me < 3) (hbg : bg < 50) (hjj : jj < 16) (M : Int) {k0 key : List UInt8} (hk0 : k0.length = 16) (hk : key.length = 16) :
    (¬ (0 ≤ M ∧ M ≤ 1099511627776) → offE (anR me bg k0) (slB key (dF me 3 ((bg : Int) + ((jj : Int) + 1)) k0 [])) M = 1 ∧ (offV (anR me bg k0) (slB key (dF me 3 ((bg : Int) + ((jj : Int) + 1)) k0 [])) M).b.L.length = 0) ∧
    (0 ≤ M ∧ M ≤ 1099511627776 → whN usC me bg ((jj : Int) + 1) ≤ M → offE (anR me bg k0) (slB key (dF me 3 ((bg : Int) + ((jj : Int) + 1)) k0 [])) M = 12 ∧ (offV (anR me bg k0) (slB key (dF me 3 ((bg : Int) + ((jj : Int) + 1)) k0 [])) M).b.L.length = 0) ∧
    (0 ≤ M ∧ M ≤ 1099511627776 → ¬ whN usC me bg ((jj : Int) + 1) ≤ M → offE (anR me bg k0) (slB key (dF me 3 ((bg : Int) + ((jj : Int) + 1)) k0 [])) M = 0 ∧ (offV (anR me bg k0) (slB key (dF me 3 ((bg : Int) + ((jj : Int) + 1)) k0 [])) M).b.L.length = 1) := by
  have j1 : (1 : Int) ≤ (jj : Int) + 1 := by omega
  have j2 : (jj : Int) + 1 ≤ 256 := by omega
  have hb : tagB key (dF me 3 ((bg : Int) + ((jj : Int) + 1)) k0 []) = true := dF_tag (by omega) (by omega) (by omega) hk0 (by simp) hk
  obtain ⟨g1, g2, g3, _⟩ := sl_get hb (by show (0 : Nat) < _; decide)
  have h1 : offB (anR me bg k0) (slB key (dF me 3 ((bg : Int) + ((jj : Int) + 1)) k0 [])) M = rsecN usC me bg ((bg : Int) + ((jj : Int) + 1)) M := off_sealed (s := anR me bg k0) hb (by show (0 : Int) ≤ 3; omega) (by show (-1 : Int) < _; omega)
  obtain ⟨r1, r2, r3, r4⟩ := rsec_us (me := me) (bg := bg) (ii := (jj : Int) + 1) (M := M) (by omega) (by omega) (by omega)
  rw [r1] at h1
  obtain ⟨b, hbb⟩ : ∃ b, b = slB key (dF me 3 ((bg : Int) + ((jj : Int) + 1)) k0 []) := ⟨_, rfl⟩
  rw [← hbb] at g1 g2 g3 h1 ⊢
  have e1 : (getF b).e = 3 := by rw [g2]; rfl
  have e2 : (getF b).r = (bg : Int) + ((jj : Int) + 1) := by rw [g2]; rfl
  clear hbb g1 g2 hb
  have e3 : idxN usC bg ((bg : Int) + ((jj : Int) + 1)) = (jj : Int) + 1 := by
    unfold idxN
    rw [if_pos ⟨r4, r3⟩]; omega
  have ha : argB 3 ((jj : Int) + 1) b = true := argB_iff.2 ⟨by decide, by decide, j1, j2, by omega⟩
  have p1 := put_first (p := 8) (by omega) ha
  unfold offE offV
  rw [e1, e2, show (anR me bg k0).c = usC from rfl, show (anR me bg k0).st = (bg : Int) from rfl, show (anR me bg k0).b = ⟨8, 0, []⟩ from rfl, e3, p1.1, p1.2, h1]
  refine ⟨fun hM => ?_, fun hM hw => ?_, fun hM hw => ?_⟩
  · rw [if_neg hM]; exact ⟨rfl, rfl⟩
  · rw [if_pos hM, if_pos hw]; exact ⟨rfl, rfl⟩
  · rw [if_pos hM, if_neg hw]; exact ⟨rfl, rfl⟩
set_option maxHeartbeats 6400000 in
theorem late_walk (a : Option Addr) (ca : Nat) (seed : List UInt8) (x1 x2 x3 M : Int) (w : World) (hTab : ETab w ∧ FTab w ∧ KTab w) (ha : Sees w a ca seed) (_ : ca ≤ 140737488351232) (wx1 : (Lit.int .u8 x1).wf = true) (wx2 : (Lit.int .u8 x2).wf = true) (wx3 : (Lit.int .u8 x3).wf = true) (_ : (Lit.int .i64 M).wf = true) :
    Calls Tryz.prog 5 #[.slice a seed.length ca, .int .u8 x1, .int .u8 x2, .int .u8 x3, .int .i64 M] w fun e w' => e = .returned (.bool true) ∧ Below w.heap.size w w' := by
  have bx1 := u8_in wx1
  have bx2 := u8_in wx2
  have bx3 := u8_in wx3
  obtain ⟨me, m1⟩ : ∃ me : Nat, x1.tmod 3 = (me : Int) := ⟨(x1.tmod 3).toNat, by rw [Int.tmod_eq_emod_of_nonneg (by omega)]; omega⟩
  have hme : me < 3 := by rw [Int.tmod_eq_emod_of_nonneg (by omega)] at m1; omega
  obtain ⟨bg, m2⟩ : ∃ bg : Nat, x2.tmod 50 = (bg : Int) := ⟨(x2.tmod 50).toNat, by rw [Int.tmod_eq_emod_of_nonneg (by omega)]; omega⟩
  have hbg : bg < 50 := by rw [Int.tmod_eq_emod_of_nonneg (by omega)] at m2; omega
  obtain ⟨jj, m3⟩ : ∃ jj : Nat, x3.tmod 16 = (jj : Int) := ⟨(x3.tmod 16).toNat, by rw [Int.tmod_eq_emod_of_nonneg (by omega)]; omega⟩
  have hjj : jj < 16 := by rw [Int.tmod_eq_emod_of_nonneg (by omega)] at m3; omega
  have HT : Hid (TTab w) := hTab
  have HA : Hid (Sees w a ca seed) := ha
  have k1 := usual_ok w
  have hfm : Tryz.prog.follows .mixedOrders = true := by kernel_rfl
  clear hTab ha wx1 wx2 wx3
  go_enter Tryz.func5, Tryz.ntmps5
  go_wp2_with fail
  refine k1.mono ?_
  rintro e w1 ⟨rfl, hb1⟩
  obtain ⟨W2, hst, hCf, hb2⟩ := cf_stored w1 usC
  have HST : Hid ((Instr.storeAt 23 (.pointer (some ⟨w1.heap.size, 0, none⟩)) (.agg (cfC usC))).run Tryz.prog (w1.alloc (.cells #[.int .i64 0, .int .i64 0, .int .i64 0, .int .i64 0, .int .i64 0, .int .i64 0, .int .i64 0, .int .i64 0, .int .i64 0, .int .i64 0] 23)) = .ok () W2) := hst
  have HB2 : Hid (Below w.heap.size w W2) := hb1.trans (hb2.mono hb1.size)
  have HC2 : Hid (CfAt W2 w1.heap.size usC) := hCf
  clear hst hb1 hb2 hCf k1
  go_upto_region 2 with (first | (refine wpList_store_run rfl 23 _ _ rfl _ _ rfl rfl HST.out ?_) | fail)
  clear HST
  obtain ⟨C, hC⟩ : ∃ C, C = w1.heap.size := ⟨_, rfl⟩
  rw [← hC] at HC2 ⊢
  clear hC
  have c4 : W2.cell? ⟨C, 4, none⟩ = some (.int .i64 16) := HC2.out.c4
  have HZ : Hid (3 ≤ w.heap.size) := HT.out.2.2.two
  by_cases hs : seed.length = 16
  · have hT2 := HT.out.below HB2.out
    have KA := all_ok W2 a ca seed hs 16 (by omega) (by omega) hT2.2.1 hT2.2.2 (HA.out.below HB2.out)
    rw [hs]
    clear hs hT2
    go_wp2_with fail
    refine KA.mono ?_
    rintro e w3 ⟨g, rfl, hFu, hb3⟩
    clear KA c4
    have HB3 : Hid (Below w.heap.size w w3) := HB2.out.trans (hb3.mono HB2.out.size)
    have HC3 : Hid (CfAt w3 C usC) := HC2.out.below hb3
    have HF3 : Hid (Full w3 g 16 (lastL seed)) := hFu
    have HLC : Hid ((Instr.loadAt 23 (.pointer (some ⟨C, 0, none⟩))).run Tryz.prog w3 = .ok (.agg (cfC usC)) w3) := HC3.out.loads
    have KN := tnew_ok w3 usC (me : Int) (Nat.le_trans HZ.out HB3.out.size) usC_ok (by omega) (by show (me : Int) < 3; omega)
    have v1 : IntKind.u8.wrap (me : Int) = (me : Int) := by rw [IntKind.wrap_u8]; omega
    have v2 : IntKind.i64.wrap (me : Int) = (me : Int) := by rw [IntKind.wrap_i64]; omega
    clear hb3 hFu HC2
    go_wp2_with (first | (refine wpList_gload_run rfl 23 _ rfl _ _ rfl HLC.out ?_) | fail)
    refine KN.mono ?_
    rintro e w4 ⟨R, rfl, hBo⟩
    have hS := hBo.solo
    have hF4 := (Full.kp g 16 (lastL seed)).below HF3.out hS.bel
    have hC4 := HC3.out.below hS.bel
    have c4 : w4.cell? ⟨C, 4, none⟩ = some (.int .i64 16) := hC4.c4
    obtain ⟨p0, q0, s0⟩ := hF4.at (j := 0) (by omega)
    obtain ⟨k0, hk0⟩ : ∃ k0, k0 = backL 16 (lastL seed) := ⟨_, rfl⟩
    have hk16 : k0.length = 16 := by rw [hk0]; exact backL_len _ _ (lastL_len seed)
    rw [show 16 - 0 = 16 from rfl, ← hk0] at s0
    have KAn := hS.anchor (HT.out.below HB3.out) (by omega) 3 (bg : Int) 0 p0.1 p0.2 k0 s0 (by omega)
    obtain ⟨an1, an2⟩ := anc_new (c := usC) (me := (me : Int)) (e := 3) (t := (bg : Int)) hk16 (by omega) (by omega) (by decide)
    rw [hk16, an1, an2] at KAn
    have v3 : IntKind.u8.wrap (bg : Int) = (bg : Int) := by rw [IntKind.wrap_u8]; omega
    have v4 : IntKind.i64.wrap (bg : Int) = (bg : Int) := by rw [IntKind.wrap_i64]; omega
    have v5 : IntKind.i64.wrap x3 = x3 := by rw [IntKind.wrap_i64]; omega
    have v6 : IntKind.i64.wrap (jj : Int) = (jj : Int) := by rw [IntKind.wrap_i64]; omega
    have v7 : IntKind.i64.wrap (1 + (jj : Int)) = (jj : Int) + 1 := by rw [IntKind.wrap_i64]; omega
    have v8 : 1 + (jj : Int) = (jj : Int) + 1 := by omega
    have HK0 : Hid (k0.length = 16 ∧ k0 = backL 16 (lastL seed) ∧ Sees w4 p0.1 p0.2 k0) := ⟨hk16, hk0, s0⟩
    clear KN hBo hS hF4 hC4 s0 hk16 hk0 an1 an2 HLC
    go_wp2_with fail
    refine KAn.mono ?_
    rintro e w5 ⟨rfl, hS5⟩
    clear KAn c4 q0
    obtain ⟨s5, hs5⟩ : ∃ s5, s5 = anR me bg k0 := ⟨_, rfl⟩
    have HS5 : Hid (TSolo w3 w5 R s5 64) := by rw [hs5]; exact hS5
    have hbd : Below w5.heap.size w5 w5.drew := (Below.refl _ _).drew
    have hF5 := (Full.kp g 16 (lastL seed)).below ((Full.kp g 16 (lastL seed)).below HF3.out hS5.bel) hbd
    obtain ⟨p0, q0, s0⟩ := hF5.at (j := 0) (by omega)
    obtain ⟨p1, q1, s1⟩ := hF5.at (j := jj + 1) (by omega)
    obtain ⟨key, hkey⟩ : ∃ key, key = backL (16 - (jj + 1)) (lastL seed) := ⟨_, rfl⟩
    have hkl : key.length = 16 := by rw [hkey]; exact backL_len _ _ (lastL_len seed)
    rw [show 16 - 0 = 16 from rfl, ← HK0.out.2.1] at s0
    rw [← hkey] at s1
    obtain ⟨F, hF⟩ : ∃ F, F = dF me 3 ((bg : Int) + ((jj : Int) + 1)) k0 [] := ⟨_, rfl⟩
    have htag : tagB key F = true := by rw [hF]; exact dF_tag (by omega) (by omega) (by omega) HK0.out.1 (by simp) hkl
    obtain ⟨g1, g2, g3, g4, g5⟩ := sl_get htag (by rw [hF]; show (0 : Nat) < _; decide)
    have hT5 := ((HT.out.below HB3.out).below hS5.bel).below hbd
    have KS := seal_any w5.drew F ⟨p0.1, p0.2, none, 0, none, 0⟩ p1.1 p1.2 key hT5.2 (by rw [hF]; exact ⟨s0, Sees.nil' _, Sees.nil' _⟩) (by rw [hF]; show (0 : Nat) < _; decide) s1
    rw [hkl, g4, g5] at KS
    have HBu : Hid (∀ V, (Instr.build 61 #[(0, .int .i64 1), (1, .int .i64 (me : Int)), (3, .int .i64 3), (5, .int .i64 ((bg : Int) + ((jj : Int) + 1))), (10, .slice p0.1 16 p0.2)]).run Tryz.prog V = .ok (.agg (frC F ⟨p0.1, p0.2, none, 0, none, 0⟩)) V) := fun V => by rw [hF]; exact dF_build V me 3 _ k0 HK0.out.1 p0.1 p0.2
    obtain ⟨b, hb⟩ : ∃ b, b = slB key F := ⟨_, rfl⟩
    rw [← hb] at KS g3
    have LO := late_off hme hbg hjj M HK0.out.1 hkl
    rw [← hF, ← hb, ← hs5] at LO
    have HLO : Hid ((¬ (0 ≤ M ∧ M ≤ 1099511627776) → offE s5 b M = 1 ∧ (offV s5 b M).b.L.length = 0) ∧ (0 ≤ M ∧ M ≤ 1099511627776 → whN usC me bg ((jj : Int) + 1) ≤ M → offE s5 b M = 12 ∧ (offV s5 b M).b.L.length = 0) ∧ (0 ≤ M ∧ M ≤ 1099511627776 → ¬ whN usC me bg ((jj : Int) + 1) ≤ M → offE s5 b M = 0 ∧ (offV s5 b M).b.L.length = 1)) := LO
    have HLOST : Hid (s5.b.lost ≤ 1000000) := by rw [hs5]; show (0 : Nat) ≤ _; omega
    have HBL : Hid (b.length ≤ 53) := g3
    have v9 : IntKind.i64.wrap ((bg : Int) + ((jj : Int) + 1)) = (bg : Int) + ((jj : Int) + 1) := by rw [IntKind.wrap_i64]; omega
    have u1 : 0 ≤ (jj : Int) + 1 := by omega
    have u2 : (jj : Int) + 1 < 17 := by omega
    have hS0 : (fun V => V.cell? ⟨g, 0, none⟩ = some (.slice p0.1 16 p0.2) ∧ V.cell? ⟨g, jj + 1, none⟩ = some (.slice p1.1 16 p1.2)) w5.drew := ⟨q0, q1⟩
    have HQ : Hid (∀ V, Below w5.drew.heap.size w5.drew V → (fun V => V.cell? ⟨g, 0, none⟩ = some (.slice p0.1 16 p0.2) ∧ V.cell? ⟨g, jj + 1, none⟩ = some (.slice p1.1 16 p1.2)) V) := fun V hb => ⟨(hb.cell (p := ⟨g, 0, none⟩) (World.block_lt_of_cell? _ _ q0)).trans q0, (hb.cell (p := ⟨g, jj + 1, none⟩) (World.block_lt_of_cell? _ _ q1)).trans q1⟩
    clear hs5 hS5 hF5 q0 q1 s0 s1 hkey hkl hF htag g1 g2 g3 g4 g5 hT5 hb LO HF3 HA HK0 hbd
    go_wp2_with fail
    refine wp_region_noPanic ?_
    refine wp_region_held (S := fun V => V.cell? ⟨g, 0, none⟩ = some (.slice p0.1 16 p0.2) ∧ V.cell? ⟨g, jj + 1, none⟩ = some (.slice p1.1 16 p1.2)) (by kernel_rfl) ?_
    have hS := hS0
    refine tk 0 hS ?_
    refine tk 1 hS ?_
    refine tk 2 hS ?_
    refine tk 3 hS ?_
    refine tk 4 hS ?_
    refine tk 5 hS ?_
    refine tk 6 hS ?_
    refine tk 7 (v := Value.agg (frC F ⟨p0.1, p0.2, none, 0, none, 0⟩)) (hv := fun W _ => exec_build 61 _ rfl [(0, .int .i64 1), (1, .int .i64 (me : Int)), (3, .int .i64 3), (5, .int .i64 ((bg : Int) + ((jj : Int) + 1))), (10, .slice p0.1 16 p0.2)] _ rfl (HBu.out W)) hS ?_
    refine tk 8 hS ?_
    refine tk 9 hS ?_
    refine tk 10 hS ?_
    refine tk 11 hS ?_
    refine any_one 12 rfl (by kernel_rfl) (by rfl) (fun K hK => ?_)
    clear hS
    go_simp
    refine KS.mono ?_
    rintro ev w6 ⟨d, cd, rfl, hs6, hb6⟩
    have HS6 : Hid (Sees w6 d cd b) := hs6
    have HB6 : Hid (Below w5.heap.size w5 w6) := (Below.refl _ _).drew.trans hb6
    have HQ6 := HQ.out _ hb6
    clear hs6 hb6 KS
    refine hK.out _ _ (HQ6) (fun hS => ?_)
    clear hK
    (try simp only [Act.put, sT])
    refine tk 13 hS ?_
    refine tk 14 hS ?_
    refine tk 15 hS ?_
    refine tk 16 hS ?_
    refine tk 17 hS ?_
    refine wpAnyH_done (by kernel_rfl) ?_ _
    refine NoPanic.normal ?_
    clear hS hS0 HQ6 HQ HBu v1 v2 v3 v4 v5 v6 v7 v8 v9 m1 m2 m3
    have HS6' : Hid (TSolo w3 w6 R s5 64) := HS5.out.below HB6.out
    have HC6 : Hid (CfAt w6 C usC) := HC3.out.below HS6'.out.bel
    have HLC6 : Hid ((Instr.loadAt 23 (.pointer (some ⟨C, 0, none⟩))).run Tryz.prog w6 = .ok (.agg (cfC usC)) w6) := HC6.out.loads
    have KW := when_ok w6 usC (me : Int) (bg : Int) ((jj : Int) + 1)
    rw [show whV usC me bg ((jj : Int) + 1) = .tuple #[.int .i64 (whN usC me bg ((jj : Int) + 1)), .int .i64 0] from if_pos (rsec_us (M := 0) (by omega) (by omega) (by omega)).2.1] at KW
    obtain ⟨T, hT⟩ : ∃ T, T = whN usC me bg ((jj : Int) + 1) := ⟨_, rfl⟩
    rw [← hT] at KW HLO
    clear hT HB6
    go_wp2_with (first | (refine wpList_gload_run rfl 23 _ rfl _ _ rfl HLC6.out ?_) | fail)
    refine KW.mono ?_
    rintro ev w7 ⟨rfl, hb7⟩
    have HS7 : Hid (TSolo w3 w7 R s5 64) := HS6'.out.below hb7
    have KO := HS7.out.offer (HT.out.below HB3.out) (by omega) HLOST.out d cd b (HS6.out.below hb7) (by have := HBL.out; omega) M
    clear KW hb7 HLC6
    go_wp2_with fail
    refine KO.mono ?_
    rintro ev w8 ⟨rfl, hS8⟩
    clear KO
    have HW8 : Hid (TSolo w3 w8 R (offV s5 b M) 129) := hS8
    have HB8 : Hid (Below w.heap.size w w8) := HB3.out.trans (hS8.bel.mono HB3.out.size)
    have KWa := hS8.waiting
    have KAw := tawake_ok w8 (HT.out.below HB8.out)
    clear hS8
    obtain ⟨X, hX⟩ : ∃ X, X = offE s5 b M := ⟨_, rfl⟩
    obtain ⟨Y, hY⟩ : ∃ Y, Y = (offV s5 b M).b.L.length := ⟨_, rfl⟩
    rw [← hX, ← hY] at HLO
    rw [← hY] at KWa
    rw [← hX]
    clear hX hY
    by_cases hM : 0 ≤ M ∧ M ≤ 1099511627776
    · have n1 : ¬ M < 0 := by omega
      have n2 : ¬ 1099511627776 < M := by omega
      by_cases hw : T ≤ M
      · obtain ⟨rfl, rfl⟩ := HLO.out.2.1 hM (by omega)
        have n3 : decide (M < T) = false := decide_eq_false (by omega)
        clear HLO hM hw
        go_wp2_with fail
        refine KWa.mono ?_
        rintro ev w9 ⟨rfl, hw9⟩
        subst hw9
        clear KWa
        go_wp2_with fail
        refine KAw.mono ?_
        rintro ev w10 ⟨rfl, hb10⟩
        clear KAw
        go_wp2
        go_ret
        exact ⟨rfl, HB8.out.trans (hb10.mono HB8.out.size)⟩
      · obtain ⟨rfl, rfl⟩ := HLO.out.2.2 hM (by omega)
        have n3 : decide (M < T) = true := decide_eq_true (by omega)
        clear HLO hM hw
        go_wp2_with fail
        refine KWa.mono ?_
        rintro ev w9 ⟨rfl, hw9⟩
        subst hw9
        clear KWa
        go_wp2_with fail
        refine KAw.mono ?_
        rintro ev w10 ⟨rfl, hb10⟩
        clear KAw
        go_wp2
        go_ret
        exact ⟨rfl, HB8.out.trans (hb10.mono HB8.out.size)⟩
    · obtain ⟨rfl, rfl⟩ := HLO.out.1 hM
      clear HLO
      by_cases n1 : M < 0
      · clear hM
        go_wp2_with fail
        refine KWa.mono ?_
        rintro ev w9 ⟨rfl, hw9⟩
        subst hw9
        clear KWa
        go_wp2_with fail
        refine KAw.mono ?_
        rintro ev w10 ⟨rfl, hb10⟩
        clear KAw
        go_wp2
        go_ret
        exact ⟨rfl, HB8.out.trans (hb10.mono HB8.out.size)⟩
      · have n2 : 1099511627776 < M := by omega
        clear hM
        go_wp2_with fail
        refine KWa.mono ?_
        rintro ev w9 ⟨rfl, hw9⟩
        subst hw9
        clear KWa
        go_wp2_with fail
        refine KAw.mono ?_
        rintro ev w10 ⟨rfl, hb10⟩
        clear KAw
        go_wp2
        go_ret
        exact ⟨rfl, HB8.out.trans (hb10.mono HB8.out.size)⟩
  · have hT2 := HT.out.below HB2.out
    have KA := all_any W2 a ca seed 16 hT2.2.1 hT2.2.2 (HA.out.below HB2.out)
    rw [show allP seed 16 = ([], 1) from if_neg (fun hh => hs hh.1)] at KA
    clear hs hT2
    go_wp2_with fail
    refine KA.mono ?_
    rintro e w3 ⟨d, cd, rfl, _, hb3⟩
    clear KA c4
    have HB3 : Hid (Below w.heap.size w w3) := HB2.out.trans (hb3.mono HB2.out.size)
    have HC3 : Hid (CfAt w3 C usC) := HC2.out.below hb3
    have HLC : Hid ((Instr.loadAt 23 (.pointer (some ⟨C, 0, none⟩))).run Tryz.prog w3 = .ok (.agg (cfC usC)) w3) := HC3.out.loads
    have KN := tnew_ok w3 usC (me : Int) (Nat.le_trans HZ.out HB3.out.size) usC_ok (by omega) (by show (me : Int) < 3; omega)
    have v1 : IntKind.u8.wrap (me : Int) = (me : Int) := by rw [IntKind.wrap_u8]; omega
    have v2 : IntKind.i64.wrap (me : Int) = (me : Int) := by rw [IntKind.wrap_i64]; omega
    clear hb3 HC2
    go_wp2_with (first | (refine wpList_gload_run rfl 23 _ rfl _ _ rfl HLC.out ?_) | fail)
    refine KN.mono ?_
    rintro e w4 ⟨R, rfl, hBo⟩
    have HB4 : Hid (Below w.heap.size w w4) := HB3.out.trans (hBo.solo.bel.mono HB3.out.size)
    have KAw := tawake_ok w4 (HT.out.below HB4.out)
    clear KN hBo HLC
    go_wp2_with fail
    refine KAw.mono ?_
    rintro ev w10 ⟨rfl, hb10⟩
    clear KAw
    go_wp2
    go_ret
    exact ⟨rfl, HB4.out.trans (hb10.mono HB4.out.size)⟩
end Go.Proofs.YtmffplhaclnehaaGreatDoor
