/-
  The walk of EchoOnce.
-/
import Derived.Test.YtahnbljbhfpldaaGreatDoorOnceP
namespace Go.Proofs.YtahnbljbhfpldaaGreatDoor
open Go.ChangeShapes Go.WideShapes Go.ChangeAt Go.RowKit
set_option maxRecDepth 20000
theorem ebounds_u16 {x : Int} (h : (Lit.int .u16 x).wf = true) : 0 ≤ x ∧ x < 65536 := by
  simp [Lit.wf, IntKind.min, IntKind.max, IntKind.signed, IntKind.bits] at h; omega
theorem Ec.heV_six {s : Ec} {F : Fr} {now : Int} (h : s.heE F now = 6) : s.heV F now = s := by unfold Ec.heV; rw [h]; simp
set_option maxHeartbeats 12800000 in
theorem once_walk (a : Option Addr) (ca : Nat) (own : List UInt8) (wt : Int) (again : Bool) (w : World) (hTab : FTab w ∧ KTab w) (ha : Sees w a ca own) (_ : ca ≤ 140737488351232) (ww : (Lit.int .u16 wt).wf = true) :
    Calls Tryz.prog 5 #[.slice a own.length ca, .int .u16 wt, .bool again] w fun e w' => e = .returned (.bool true) ∧ Below w.heap.size w w' := by
  have bw := ebounds_u16 ww
  clear ww
  obtain ⟨Cfg, hCfg⟩ : ∃ Cfg, Cfg = cfC usE := ⟨_, rfl⟩
  have KU := usual_ok w
  rw [← hCfg] at KU
  have H00 : Hid (Tabs w ∧ Sees w a ca own ∧ Cfg = cfC usE) := ⟨hTab, ha, hCfg⟩
  have HAW : Hid (∀ V, Below w.heap.size w V → Calls Tryz.prog 10 #[] V fun e w' => e = .returned (.bool true) ∧ Below w.heap.size w w') := fun V hV => by
    refine (eawake_ok V (H00.out.1.below hV)).mono ?_
    rintro e w' ⟨rfl, hb⟩
    exact ⟨rfl, hV.trans (hb.mono hV.size)⟩
  clear ha hTab hCfg
  go_enter Tryz.func5, Tryz.ntmps5
  go_wp2_with fail
  refine KU.mono ?_
  rintro e w1 ⟨rfl, hb1⟩
  obtain ⟨W1, hst1, hc1, hb11⟩ := cf_laid w1 usE
  rw [← H00.out.2.2] at hst1
  have HST1 : Hid ((Instr.storeAt 23 (.pointer (some ⟨w1.heap.size, 0, none⟩)) (.agg Cfg)).run Tryz.prog (w1.alloc (.cells (cfC Cf.zero) 23)) = .ok () W1) := hst1
  have HL1 : Hid ((Instr.loadAt 23 (.pointer (some ⟨w1.heap.size, 0, none⟩))).run Tryz.prog W1 = .ok (.agg Cfg) W1) := by rw [H00.out.2.2]; exact hc1.loads
  have H1 : Hid (CfAt W1 w1.heap.size usE ∧ Below w.heap.size w W1) := ⟨hc1, hb1.trans (hb11.mono hb1.size)⟩
  clear KU hst1 hc1 hb1 hb11
  by_cases h16 : own.length = 16
  rotate_left
  · have K1 := penew_no W1 usE a ca own 0 1 (usE_no h16)
    rw [← H00.out.2.2] at K1
    obtain ⟨m, hm⟩ : ∃ m, m = own.length := ⟨_, rfl⟩
    have hmb : ((m : Int) != 16) = true := by simp; omega
    have HM : Hid (m = own.length ∧ ¬ own.length = 16) := ⟨hm, h16⟩
    rw [← hm] at K1 ⊢
    clear h16 hm
    go_wp2_with (first | (refine wpList_store_run rfl 23 _ _ rfl _ _ rfl rfl HST1.out ?_) | (refine wpList_gload_run rfl 23 _ rfl _ _ rfl HL1.out ?_) | fail)
    refine K1.mono ?_
    rintro e w2 ⟨rfl, hb2⟩
    have H2 : Hid (CfAt w2 w1.heap.size usE ∧ Below w.heap.size w w2) := ⟨H1.out.1.below hb2, H1.out.2.trans (hb2.mono H1.out.2.size)⟩
    have HL2 : Hid ((Instr.loadAt 23 (.pointer (some ⟨w1.heap.size, 0, none⟩))).run Tryz.prog w2 = .ok (.agg Cfg) w2) := by rw [H00.out.2.2]; exact H2.out.1.loads
    have K2 := penew_no w2 usE a ca own 1 1 (usE_no HM.out.2)
    rw [← H00.out.2.2, ← HM.out.1] at K2
    clear K1 hb2
    go_wp2_with (first | (refine wpList_gload_run rfl 23 _ rfl _ _ rfl HL2.out ?_) | fail)
    refine K2.mono ?_
    rintro e w3 ⟨rfl, hb3⟩
    have KA := HAW.out w3 (H2.out.2.trans (hb3.mono H2.out.2.size))
    clear K2 hb3
    go_wp2_with fail
    refine KA.mono ?_
    rintro e w4 ⟨rfl, hb4⟩
    have HE : Hid (Below w.heap.size w w4) := hb4
    clear KA hb4
    go_wp2
    go_ret
    exact ⟨by simp, HE.out⟩
  have K1 := ESolo.new w W1 H00.out.1.2.two (H00.out.1.below H1.out.2) H1.out.2 usE a ca own 0 1 (H00.out.2.1.below H1.out.2) (usE_new h16 (by decide) (by decide))
  rw [← H00.out.2.2] at K1
  have HM : Hid (own.length = 16) := h16
  clear h16
  go_wp2_with (first | (refine wpList_store_run rfl 23 _ _ rfl _ _ rfl rfl HST1.out ?_) | (refine wpList_gload_run rfl 23 _ rfl _ _ rfl HL1.out ?_) | fail)
  refine K1.mono ?_
  rintro e w2 ⟨R, d1, c1, rfl, hA2, hR2, hb2⟩
  have H2 : Hid (CfAt w2 w1.heap.size usE ∧ w1.heap.size < R) := ⟨H1.out.1.below hb2, Nat.lt_of_lt_of_le H1.out.1.lt hR2⟩
  have HL2 : Hid ((Instr.loadAt 23 (.pointer (some ⟨w1.heap.size, 0, none⟩))).run Tryz.prog w2 = .ok (.agg Cfg) w2) := by rw [H00.out.2.2]; exact H2.out.1.loads
  have K2 := ESolo.new w w2 H00.out.1.2.two (H00.out.1.below hA2.bel) hA2.bel usE a ca own 1 1 (H00.out.2.1.below hA2.bel) (usE_new HM.out (by decide) (by decide))
  rw [← H00.out.2.2] at K2
  have HA2 : Hid (ESolo w w2 R (ecNew usE own 0 1) d1 c1) := hA2
  clear K1 hA2 hR2 hb2 HST1 HL1
  go_wp2_with (first | (refine wpList_gload_run rfl 23 _ rfl _ _ rfl HL2.out ?_) | fail)
  refine K2.mono ?_
  rintro e w3 ⟨Q, d2, c2, rfl, hB3, hQ3, hb3⟩
  have H3 : Hid (ESolo w w3 R (ecNew usE own 0 1) d1 c1 ∧ ESolo w w3 Q (ecNew usE own 1 1) d2 c2 ∧ Q ≠ R ∧ CfAt w3 w1.heap.size usE ∧ w1.heap.size ≠ R) := by
    have h1 := HA2.out.all.at'.lt
    have h2 := H2.out.2
    exact ⟨HA2.out.below hb3, hB3, by omega, H2.out.1.below hb3, by omega⟩
  clear K2 hB3 hQ3 hb3 HL2 HA2
  obtain ⟨A1, x, y, P, QF, hO⟩ := onceS own HM.out
  have O : Hid (OnceS own (ecNew usE own 0 1) (ecNew usE own 1 1) A1 x y P QF) := hO
  clear hO
  have K3 := H3.out.1.ask 1 5000
  rw [O.out.askE, O.out.askR, O.out.askV] at K3
  go_wp2_with fail
  refine K3.mono ?_
  rintro e w4 ⟨dx, cx, rfl, hsx, hA4, ha4⟩
  have H4 : Hid (ESolo w w4 R A1 d1 c1 ∧ ESolo w w4 Q (ecNew usE own 1 1) d2 c2 ∧ CfAt w4 w1.heap.size usE ∧ Sees w4 dx cx x) := ⟨hA4, H3.out.1.other H3.out.2.1 ha4 H3.out.2.2.1, H3.out.2.2.2.1.apart ha4 H3.out.2.2.2.2, hsx⟩
  clear K3 hsx hA4 ha4
  have K4 := H4.out.2.1.opened dx cx x H4.out.2.2.2 (by rw [O.out.xl]; omega)
  rw [O.out.opE, O.out.opF] at K4
  go_wp2_with fail
  refine K4.mono ?_
  rintro e w5 ⟨Ap, rfl, hsp, hb5⟩
  obtain ⟨W5, hst5, hP5, hb55⟩ := fbox_laid hsp
  have hb5W : Below w4.heap.size w4 W5 := hb5.trans (hb55.mono hb5.size)
  have HST5 : Hid ((Instr.storeAt 40 (.pointer (some ⟨w5.heap.size, 0, none⟩)) (.agg (frC P Ap))).run Tryz.prog (w5.alloc (.cells (frC Fr.zero At.zero) 40)) = .ok () W5) := hst5
  have HL5 : Hid ((Instr.loadAt 40 (.pointer (some ⟨w5.heap.size, 0, none⟩))).run Tryz.prog W5 = .ok (.agg (frC P Ap)) W5) := hP5.at'.loads
  have H5 : Hid (ESolo w W5 R A1 d1 c1 ∧ ESolo w W5 Q (ecNew usE own 1 1) d2 c2 ∧ CfAt W5 w1.heap.size usE ∧ Seen W5 P Ap ∧ Sees W5 a ca own) := ⟨H4.out.1.below hb5W, H4.out.2.1.below hb5W, H4.out.2.2.1.below hb5W, hP5.seen, H00.out.2.1.below (H4.out.1.below hb5W).bel⟩
  clear K4 hsp hst5 hP5 hb5 hb55 hb5W
  have K5 := H5.out.2.1.reply P Ap H5.out.2.2.2.1 O.out.pn 70 1 0 0 a ca own H5.out.2.2.2.2
  rw [O.out.repE, O.out.repR] at K5
  go_wp2_with (first | (refine wpList_store_run rfl 40 _ _ rfl _ _ rfl rfl HST5.out ?_) | (refine wpList_gload_run rfl 40 _ rfl _ _ rfl HL5.out ?_) | fail)
  refine K5.mono ?_
  rintro e w6 ⟨dy, cy, rfl, hsy, hb6⟩
  have H6 : Hid (ESolo w w6 R A1 d1 c1 ∧ CfAt w6 w1.heap.size usE ∧ Sees w6 dy cy y) := ⟨H5.out.1.below hb6, H5.out.2.2.1.below hb6, hsy⟩
  clear K5 hsy hb6 HST5 HL5
  have K6 := H6.out.1.opened dy cy y H6.out.2.2 (by have := O.out.yl; omega)
  rw [O.out.op2E, O.out.op2F] at K6
  go_wp2_with fail
  refine K6.mono ?_
  rintro e w7 ⟨Aq, rfl, hsq, hb7⟩
  obtain ⟨W7, hst7, hQ7, hb77⟩ := fbox_laid hsq
  have hb7W : Below w6.heap.size w6 W7 := hb7.trans (hb77.mono hb7.size)
  have HST7 : Hid ((Instr.storeAt 40 (.pointer (some ⟨w7.heap.size, 0, none⟩)) (.agg (frC QF Aq))).run Tryz.prog (w7.alloc (.cells (frC Fr.zero At.zero) 40)) = .ok () W7) := hst7
  have HL7 : Hid ((Instr.loadAt 40 (.pointer (some ⟨w7.heap.size, 0, none⟩))).run Tryz.prog W7 = .ok (.agg (frC QF Aq)) W7) := hQ7.at'.loads
  have H7 : Hid (ESolo w W7 R A1 d1 c1 ∧ CfAt W7 w1.heap.size usE ∧ FBox W7 w7.heap.size QF Aq ∧ w7.heap.size ≠ R ∧ w1.heap.size ≠ R) := ⟨H6.out.1.below hb7W, H6.out.2.1.below hb7W, hQ7, by have := H6.out.1.all.at'.lt; have := hb7.size; omega, H3.out.2.2.2.2⟩
  clear K6 hsq hst7 hQ7 hb7 hb77 hb7W
  cases again
  · obtain ⟨T, hT⟩ : ∃ T : Int, T = 5000 + wt := ⟨_, rfl⟩
    have t1 : IntKind.i64.wrap wt = wt := by rw [IntKind.wrap_i64]; omega
    have t2 : IntKind.i64.wrap (5000 + wt) = T := by rw [hT, IntKind.wrap_i64]; omega
    have hT2 : Hid (5000 ≤ T ∧ T ≤ 1099511627776) := by show 5000 ≤ T ∧ T ≤ 1099511627776; omega
    obtain ⟨M, hM⟩ : ∃ M, M = mostN wt 3 := ⟨_, rfl⟩
    have KM : Hid (∀ V, Calls Tryz.prog 26 #[.int .i64 wt, .int .i64 3] V fun e w' => e = .returned (.tuple #[.int .i64 M, .int .i64 0]) ∧ w' = V) := fun V => by
      have := most_ok V wt 3
      rw [show ansN wt 3 (mostN wt 3) = .tuple #[.int .i64 (mostN wt 3), .int .i64 0] from if_pos (mayB_of (by omega) (by omega) bw.1 (by omega)), ← hM] at this
      exact this
    have K8 := H7.out.1.hear QF Aq H7.out.2.2.1.seen 4999
    rw [O.out.before, Ec.heV_six O.out.before] at K8
    go_wp2_with (first | (refine wpList_store_run rfl 40 _ _ rfl _ _ rfl rfl HST7.out ?_) | (refine wpList_gload_run rfl 40 _ rfl _ _ rfl HL7.out ?_) | fail)
    refine K8.mono ?_
    rintro e w8 ⟨dz, cz, rfl, hsz, hA, haa⟩
    obtain ⟨W8, hst, hX, _, hbb⟩ := pn_laid hsz
    have HST8 : Hid ((Instr.storeAt 51 (.pointer (some ⟨w8.heap.size, 0, none⟩)) (.agg (anC _ dz cz))).run Tryz.prog (w8.alloc (.cells (anC An.zero none 0) 51)) = .ok () W8) := hst
    have H8 : Hid (ESolo w W8 R A1 d1 c1 ∧ CfAt W8 w1.heap.size usE ∧ FBox W8 w7.heap.size QF Aq ∧ w7.heap.size ≠ R ∧ w1.heap.size ≠ R) := ⟨hA.below hbb, (H7.out.2.1.apart haa H7.out.2.2.2.2).below hbb, (H7.out.2.2.1.apart H7.out.1 haa H7.out.2.2.2.1).below hbb, H7.out.2.2.2.1, H7.out.2.2.2.2⟩
    have HL8 : Hid ((Instr.loadAt 40 (.pointer (some ⟨w7.heap.size, 0, none⟩))).run Tryz.prog W8 = .ok (.agg (frC QF Aq)) W8) := H8.out.2.2.1.at'.loads
    clear K8 hsz hA haa hst hX hbb
    by_cases hl : 400 < wt
    · have hE9 : Hid (A1.heE QF T = 12) := (O.out.at_ T hT2.out.1 hT2.out.2).trans (if_pos (by omega))
      clear hT hM
      have K9 := H8.out.1.hear QF Aq H8.out.2.2.1.seen T
      rw [hE9.out] at K9
      go_wp2_with (first | (refine wpList_store_run rfl 51 _ _ rfl _ _ rfl rfl HST8.out ?_) | (refine wpList_gload_run rfl 40 _ rfl _ _ rfl HL8.out ?_) | fail)
      refine K9.mono ?_
      rintro e w9 ⟨dz, cz, rfl, hsz, hA, haa⟩
      obtain ⟨W9, hst, hX, _, hbb⟩ := pn_laid hsz
      have HST9 : Hid ((Instr.storeAt 51 (.pointer (some ⟨w9.heap.size, 0, none⟩)) (.agg (anC _ dz cz))).run Tryz.prog (w9.alloc (.cells (anC An.zero none 0) 51)) = .ok () W9) := hst
      have H9 : Hid (ESolo w W9 R (A1.heV QF T) d1 c1 ∧ CfAt W9 w1.heap.size usE ∧ FBox W9 w7.heap.size QF Aq ∧ w7.heap.size ≠ R ∧ w1.heap.size ≠ R) := ⟨hA.below hbb, (H8.out.2.1.apart haa H8.out.2.2.2.2).below hbb, (H8.out.2.2.1.apart H8.out.1 haa H8.out.2.2.2.1).below hbb, H8.out.2.2.2.1, H8.out.2.2.2.2⟩
      have HL9 : Hid ((Instr.loadAt 40 (.pointer (some ⟨w7.heap.size, 0, none⟩))).run Tryz.prog W9 = .ok (.agg (frC QF Aq)) W9) := H9.out.2.2.1.at'.loads
      clear K9 hsz hA haa hst hX hbb
      have K10 := H9.out.1.hear QF Aq H9.out.2.2.1.seen T
      rw [(O.out.once T hT2.out.1 hT2.out.2).1, Ec.heV_six (O.out.once T hT2.out.1 hT2.out.2).1] at K10
      go_wp2_with (first | (refine wpList_store_run rfl 51 _ _ rfl _ _ rfl rfl HST9.out ?_) | (refine wpList_gload_run rfl 40 _ rfl _ _ rfl HL9.out ?_) | fail)
      refine K10.mono ?_
      rintro e w10 ⟨dz, cz, rfl, hsz, hA, haa⟩
      obtain ⟨W10, hst, hX, _, hbb⟩ := pn_laid hsz
      have HST10 : Hid ((Instr.storeAt 51 (.pointer (some ⟨w10.heap.size, 0, none⟩)) (.agg (anC _ dz cz))).run Tryz.prog (w10.alloc (.cells (anC An.zero none 0) 51)) = .ok () W10) := hst
      have H10 : Hid (ESolo w W10 R (A1.heV QF T) d1 c1 ∧ CfAt W10 w1.heap.size usE ∧ FBox W10 w7.heap.size QF Aq ∧ w7.heap.size ≠ R ∧ w1.heap.size ≠ R) := ⟨hA.below hbb, (H9.out.2.1.apart haa H9.out.2.2.2.2).below hbb, (H9.out.2.2.1.apart H9.out.1 haa H9.out.2.2.2.1).below hbb, H9.out.2.2.2.1, H9.out.2.2.2.2⟩
      have HL10 : Hid ((Instr.loadAt 40 (.pointer (some ⟨w7.heap.size, 0, none⟩))).run Tryz.prog W10 = .ok (.agg (frC QF Aq)) W10) := H10.out.2.2.1.at'.loads
      clear K10 hsz hA haa hst hX hbb
      go_wp2_with (first | (refine wpList_store_run rfl 51 _ _ rfl _ _ rfl rfl HST10.out ?_) | fail)
      refine (KM.out _).mono ?_
      rintro e w11 ⟨rfl, hw⟩
      rw [hw]
      clear hw w11
      have c6 := H10.out.2.1.c6
      have KQ := H10.out.1.asked 1
      rw [(O.out.once T hT2.out.1 hT2.out.2).2] at KQ
      have KA := HAW.out W10 H10.out.1.bel
      rw [show usE.v = 400 from rfl] at c6
      go_wp2_with fail
      refine KQ.mono ?_
      rintro e w12 ⟨rfl, hw⟩
      rw [hw]
      clear hw w12 KQ
      go_wp2_with fail
      refine KA.mono ?_
      rintro e w13 ⟨rfl, hb13⟩
      have HE : Hid (Below w.heap.size w w13) := hb13
      clear KA hb13
      go_wp2
      go_ret
      exact ⟨by first | (simp; done) | (simp; omega), HE.out⟩
    · have hE9 : Hid (A1.heE QF T = 0) := (O.out.at_ T hT2.out.1 hT2.out.2).trans (if_neg (by omega))
      clear hT hM
      have K9 := H8.out.1.hear QF Aq H8.out.2.2.1.seen T
      rw [hE9.out] at K9
      go_wp2_with (first | (refine wpList_store_run rfl 51 _ _ rfl _ _ rfl rfl HST8.out ?_) | (refine wpList_gload_run rfl 40 _ rfl _ _ rfl HL8.out ?_) | fail)
      refine K9.mono ?_
      rintro e w9 ⟨dz, cz, rfl, hsz, hA, haa⟩
      obtain ⟨W9, hst, hX, _, hbb⟩ := pn_laid hsz
      have HST9 : Hid ((Instr.storeAt 51 (.pointer (some ⟨w9.heap.size, 0, none⟩)) (.agg (anC _ dz cz))).run Tryz.prog (w9.alloc (.cells (anC An.zero none 0) 51)) = .ok () W9) := hst
      have H9 : Hid (ESolo w W9 R (A1.heV QF T) d1 c1 ∧ CfAt W9 w1.heap.size usE ∧ FBox W9 w7.heap.size QF Aq ∧ w7.heap.size ≠ R ∧ w1.heap.size ≠ R) := ⟨hA.below hbb, (H8.out.2.1.apart haa H8.out.2.2.2.2).below hbb, (H8.out.2.2.1.apart H8.out.1 haa H8.out.2.2.2.1).below hbb, H8.out.2.2.2.1, H8.out.2.2.2.2⟩
      have HL9 : Hid ((Instr.loadAt 40 (.pointer (some ⟨w7.heap.size, 0, none⟩))).run Tryz.prog W9 = .ok (.agg (frC QF Aq)) W9) := H9.out.2.2.1.at'.loads
      clear K9 hsz hA haa hst hX hbb
      have K10 := H9.out.1.hear QF Aq H9.out.2.2.1.seen T
      rw [(O.out.once T hT2.out.1 hT2.out.2).1, Ec.heV_six (O.out.once T hT2.out.1 hT2.out.2).1] at K10
      go_wp2_with (first | (refine wpList_store_run rfl 51 _ _ rfl _ _ rfl rfl HST9.out ?_) | (refine wpList_gload_run rfl 40 _ rfl _ _ rfl HL9.out ?_) | fail)
      refine K10.mono ?_
      rintro e w10 ⟨dz, cz, rfl, hsz, hA, haa⟩
      obtain ⟨W10, hst, hX, _, hbb⟩ := pn_laid hsz
      have HST10 : Hid ((Instr.storeAt 51 (.pointer (some ⟨w10.heap.size, 0, none⟩)) (.agg (anC _ dz cz))).run Tryz.prog (w10.alloc (.cells (anC An.zero none 0) 51)) = .ok () W10) := hst
      have H10 : Hid (ESolo w W10 R (A1.heV QF T) d1 c1 ∧ CfAt W10 w1.heap.size usE ∧ FBox W10 w7.heap.size QF Aq ∧ w7.heap.size ≠ R ∧ w1.heap.size ≠ R) := ⟨hA.below hbb, (H9.out.2.1.apart haa H9.out.2.2.2.2).below hbb, (H9.out.2.2.1.apart H9.out.1 haa H9.out.2.2.2.1).below hbb, H9.out.2.2.2.1, H9.out.2.2.2.2⟩
      have HL10 : Hid ((Instr.loadAt 40 (.pointer (some ⟨w7.heap.size, 0, none⟩))).run Tryz.prog W10 = .ok (.agg (frC QF Aq)) W10) := H10.out.2.2.1.at'.loads
      clear K10 hsz hA haa hst hX hbb
      go_wp2_with (first | (refine wpList_store_run rfl 51 _ _ rfl _ _ rfl rfl HST10.out ?_) | fail)
      refine (KM.out _).mono ?_
      rintro e w11 ⟨rfl, hw⟩
      rw [hw]
      clear hw w11
      have c6 := H10.out.2.1.c6
      have KQ := H10.out.1.asked 1
      rw [(O.out.once T hT2.out.1 hT2.out.2).2] at KQ
      have KA := HAW.out W10 H10.out.1.bel
      rw [show usE.v = 400 from rfl] at c6
      go_wp2_with fail
      refine KQ.mono ?_
      rintro e w12 ⟨rfl, hw⟩
      rw [hw]
      clear hw w12 KQ
      go_wp2_with fail
      refine KA.mono ?_
      rintro e w13 ⟨rfl, hb13⟩
      have HE : Hid (Below w.heap.size w w13) := hb13
      clear KA hb13
      go_wp2
      go_ret
      exact ⟨by first | (simp; done) | (simp; omega), HE.out⟩
  · have K8 := H7.out.1.ask 1 5000
    rw [O.out.again.2.2] at K8
    go_wp2_with (first | (refine wpList_store_run rfl 40 _ _ rfl _ _ rfl rfl HST7.out ?_) | fail)
    refine K8.mono ?_
    rintro e w8 ⟨dv, cv, rfl, _, hA, haa⟩
    have H8 : Hid (ESolo w w8 R (A1.askV 1 5000) d1 c1 ∧ CfAt w8 w1.heap.size usE ∧ FBox w8 w7.heap.size QF Aq ∧ w7.heap.size ≠ R ∧ w1.heap.size ≠ R) := ⟨hA, H7.out.2.1.apart haa H7.out.2.2.2.2, H7.out.2.2.1.apart H7.out.1 haa H7.out.2.2.2.1, H7.out.2.2.2.1, H7.out.2.2.2.2⟩
    have HL8 : Hid ((Instr.loadAt 40 (.pointer (some ⟨w7.heap.size, 0, none⟩))).run Tryz.prog w8 = .ok (.agg (frC QF Aq)) w8) := H8.out.2.2.1.at'.loads
    clear K8 hA haa
    have K9 := H8.out.1.hear QF Aq H8.out.2.2.1.seen 5000
    rw [O.out.again.1, Ec.heV_six O.out.again.1] at K9
    go_wp2_with (first | (refine wpList_gload_run rfl 40 _ rfl _ _ rfl HL8.out ?_) | fail)
    refine K9.mono ?_
    rintro e w9 ⟨dz, cz, rfl, hsz, hA, haa⟩
    obtain ⟨W9, hst, hX, _, hbb⟩ := pn_laid hsz
    have HST9 : Hid ((Instr.storeAt 51 (.pointer (some ⟨w9.heap.size, 0, none⟩)) (.agg (anC _ dz cz))).run Tryz.prog (w9.alloc (.cells (anC An.zero none 0) 51)) = .ok () W9) := hst
    have H9 : Hid (ESolo w W9 R (A1.askV 1 5000) d1 c1 ∧ CfAt W9 w1.heap.size usE ∧ FBox W9 w7.heap.size QF Aq ∧ w7.heap.size ≠ R ∧ w1.heap.size ≠ R) := ⟨hA.below hbb, (H8.out.2.1.apart haa H8.out.2.2.2.2).below hbb, (H8.out.2.2.1.apart H8.out.1 haa H8.out.2.2.2.1).below hbb, H8.out.2.2.2.1, H8.out.2.2.2.2⟩
    have HL9 : Hid ((Instr.loadAt 40 (.pointer (some ⟨w7.heap.size, 0, none⟩))).run Tryz.prog W9 = .ok (.agg (frC QF Aq)) W9) := H9.out.2.2.1.at'.loads
    clear K9 hsz hA haa hst hX hbb
    have KQ := H9.out.1.asked 1
    rw [O.out.again.2.1] at KQ
    have KA := HAW.out W9 H9.out.1.bel
    go_wp2_with (first | (refine wpList_store_run rfl 51 _ _ rfl _ _ rfl rfl HST9.out ?_) | fail)
    refine KQ.mono ?_
    rintro e w12 ⟨rfl, hw⟩
    rw [hw]
    clear hw w12 KQ
    go_wp2_with fail
    refine KA.mono ?_
    rintro e w13 ⟨rfl, hb13⟩
    have HE : Hid (Below w.heap.size w w13) := hb13
    clear KA hb13
    go_wp2
    go_ret
    exact ⟨by simp, HE.out⟩
end Go.Proofs.YtahnbljbhfpldaaGreatDoor
