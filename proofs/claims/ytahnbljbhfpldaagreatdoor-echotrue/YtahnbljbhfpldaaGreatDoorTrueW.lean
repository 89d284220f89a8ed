/-
  The walk of EchoTrue.
-/
import Derived.Test.YtahnbljbhfpldaaGreatDoorTrueP
import Derived.Test.YtahnbljbhfpldaaGreatDoorPairArg8
import Derived.Test.YtahnbljbhfpldaaGreatDoorIvalA
namespace Go.Proofs.YtahnbljbhfpldaaGreatDoor
open Go.ChangeShapes Go.WideShapes Go.ChangeAt Go.RowKit
set_option maxRecDepth 20000
theorem ebounds_i8 {x : Int} (h : (Lit.int .i8 x).wf = true) : -128 ≤ x ∧ x < 128 := by
  simp [Lit.wf, IntKind.min, IntKind.max, IntKind.signed, IntKind.bits] at h; omega
def cl3 (v : Int) : Int := if 3 < (if v < -3 then -3 else v) then 3 else if v < -3 then -3 else v
theorem cl3_in (v : Int) : -3 ≤ cl3 v ∧ cl3 v ≤ 3 := by
  unfold cl3
  split
  · omega
  · split <;> omega
theorem ewrap64_in (n : Int) (h : -9223372036854775808 ≤ n ∧ n ≤ 9223372036854775807) : wrap64 n = n := by unfold wrap64; omega
theorem beat_add {o x : Int} {v : Int} (h1 : 0 ≤ o ∧ o ≤ 1099511627776) (hx : x = o + 100 + cl3 v) : wrap64 (wrap64 (o + 100) + if 3 < if v < -3 then -3 else v then 3 else if v < -3 then -3 else v) = x := by
  have h := cl3_in v
  rw [show (if 3 < if v < -3 then -3 else v then 3 else if v < -3 then -3 else v) = cl3 v from rfl, ewrap64_in (o + 100) (by omega), ewrap64_in _ (by omega), hx]
def Beats (o : Int) (k : Nat) (x : Int) : Prop := 97 * (k : Int) ≤ x - o ∧ x - o ≤ 103 * (k : Int)
theorem Beats.step {o x c : Int} {k : Nat} (h : Beats o k x) (hc : -3 ≤ c ∧ c ≤ 3) : Beats o (k + 1) (x + 100 + c) := by
  unfold Beats at h ⊢
  rw [show ((k + 1 : Nat) : Int) = (k : Int) + 1 from rfl]
  omega
theorem pn_iv {w : World} {g : Nat} {x : An} {a : Option Addr} {c : Nat} (h : PnAt w g x a c) : (Instr.loadAt 49 (.pointer (some ⟨g, 1, none⟩))).run Tryz.prog w = .ok (.agg #[.int .i64 x.lo, .int .i64 x.hi]) w := by
  refine run_loadAt_mid w g 1 49 [.int .i64 x.lo, .int .i64 x.hi] _ ?_ Tryz.pnderIv rfl (by kernel_rfl)
  intro i u hu
  rcases i with _ | _ | i
  · simp at hu; subst hu; rw [cell_of_row w _ _ _ _ _ h]; rfl
  · simp at hu; subst hu; rw [cell_of_row w _ _ _ _ _ h]; rfl
  · simp at hu
theorem pn_from {w : World} {g : Nat} {x : An} {a : Option Addr} {c : Nat} (h : PnAt w g x a c) : w.cell? ⟨g, 0, none⟩ = some (.int .i64 x.f) := by rw [cell_of_row w _ _ _ _ _ h]; rfl
set_option maxHeartbeats 12800000 in
theorem true_walk (a : Option Addr) (ca : Nat) (own : List UInt8) (far : Int) (a2 : Option Addr) (c2 : Nat) (ah : List Key8) (a3 : Option Addr) (c3 : Nat) (bh : List Key8) (w : World) (hTab : FTab w ∧ KTab w) (ha : Sees w a ca own) (_ : ca ≤ 140737488351232) (_wf : (Lit.int .i64 far).wf = true) (h2 : Pairs8 w a2 c2 ah) (la : ah.length ≤ 140737488351232) (h3 : Pairs8 w a3 c3 bh) (lb : bh.length ≤ 140737488351232) :
    Calls Tryz.prog 4 #[.slice a own.length ca, .int .i64 far, .slice a2 ah.length c2, .slice a3 bh.length c3] w fun e w' => e = .returned (.bool true) ∧ Below w.heap.size w w' := by
  have HP : Hid (Pairs8 w a2 c2 ah ∧ Pairs8 w a3 c3 bh) := ⟨h2, h3⟩
  clear _wf h2 h3
  obtain ⟨Cfg, hCfg⟩ : ∃ Cfg, Cfg = cfC usE := ⟨_, rfl⟩
  have KU := usual_ok w
  rw [← hCfg] at KU
  have H00 : Hid (Tabs w ∧ Sees w a ca own ∧ Cfg = cfC usE) := ⟨hTab, ha, hCfg⟩
  have HAW : Hid (∀ V, Below w.heap.size w V → Calls Tryz.prog 10 #[] V fun e w' => e = .returned (.bool true) ∧ Below w.heap.size w w') := fun V hV => by
    refine (eawake_ok V (H00.out.1.below hV)).mono ?_
    rintro e w' ⟨rfl, hb⟩
    exact ⟨rfl, hV.trans (hb.mono hV.size)⟩
  clear ha hTab hCfg
  go_enter Tryz.func4, Tryz.ntmps4
  go_wp2_with fail
  refine KU.mono ?_
  rintro e w1 ⟨rfl, hb1⟩
  obtain ⟨W1, hst1, hc1, hb11⟩ := cf_laid w1 usE
  rw [← H00.out.2.2] at hst1
  have HST1 : Hid ((Instr.storeAt 23 (.pointer (some ⟨w1.heap.size, 0, none⟩)) (.agg Cfg)).run Tryz.prog (w1.alloc (.cells (cfC Cf.zero) 23)) = .ok () W1) := hst1
  have HL1 : Hid ((Instr.loadAt 23 (.pointer (some ⟨w1.heap.size, 0, none⟩))).run Tryz.prog W1 = .ok (.agg Cfg) W1) := by rw [H00.out.2.2]; exact hc1.loads
  have H1 : Hid (CfAt W1 w1.heap.size usE ∧ Below w.heap.size w W1) := ⟨hc1, hb1.trans (hb11.mono hb1.size)⟩
  clear KU hst1 hc1 hb1 hb11
  by_cases h16 : own.length = 16
  rotate_left
  · have K1 := penew_no W1 usE a ca own 0 1 (usE_no h16)
    rw [← H00.out.2.2] at K1
    obtain ⟨m, hm⟩ : ∃ m, m = own.length := ⟨_, rfl⟩
    have hmb : ((m : Int) != 16) = true := by simp; omega
    have HM : Hid (m = own.length ∧ ¬ own.length = 16) := ⟨hm, h16⟩
    rw [← hm] at K1 ⊢
    clear h16 hm
    go_wp2_with (first | (refine wpList_store_run rfl 23 _ _ rfl _ _ rfl rfl HST1.out ?_) | (refine wpList_gload_run rfl 23 _ rfl _ _ rfl HL1.out ?_) | fail)
    refine K1.mono ?_
    rintro e w2 ⟨rfl, hb2⟩
    have H2 : Hid (CfAt w2 w1.heap.size usE ∧ Below w.heap.size w w2) := ⟨H1.out.1.below hb2, H1.out.2.trans (hb2.mono H1.out.2.size)⟩
    have HL2 : Hid ((Instr.loadAt 23 (.pointer (some ⟨w1.heap.size, 0, none⟩))).run Tryz.prog w2 = .ok (.agg Cfg) w2) := by rw [H00.out.2.2]; exact H2.out.1.loads
    have K2 := penew_no w2 usE a ca own 1 1 (usE_no HM.out.2)
    rw [← H00.out.2.2, ← HM.out.1] at K2
    clear K1 hb2
    go_wp2_with (first | (refine wpList_gload_run rfl 23 _ rfl _ _ rfl HL2.out ?_) | fail)
    refine K2.mono ?_
    rintro e w3 ⟨rfl, hb3⟩
    have KA := HAW.out w3 (H2.out.2.trans (hb3.mono H2.out.2.size))
    clear K2 hb3
    go_wp2_with fail
    refine KA.mono ?_
    rintro e w4 ⟨rfl, hb4⟩
    have HE : Hid (Below w.heap.size w w4) := hb4
    clear KA hb4
    go_wp2
    go_ret
    exact ⟨by simp, HE.out⟩
  have K1 := ESolo.new w W1 H00.out.1.2.two (H00.out.1.below H1.out.2) H1.out.2 usE a ca own 0 1 (H00.out.2.1.below H1.out.2) (usE_new h16 (by decide) (by decide))
  rw [← H00.out.2.2] at K1
  have HM : Hid (own.length = 16) := h16
  clear h16
  go_wp2_with (first | (refine wpList_store_run rfl 23 _ _ rfl _ _ rfl rfl HST1.out ?_) | (refine wpList_gload_run rfl 23 _ rfl _ _ rfl HL1.out ?_) | fail)
  refine K1.mono ?_
  rintro e w2 ⟨R, d1, c1, rfl, hA2, hR2, hb2⟩
  have H2 : Hid (CfAt w2 w1.heap.size usE ∧ w1.heap.size < R) := ⟨H1.out.1.below hb2, Nat.lt_of_lt_of_le H1.out.1.lt hR2⟩
  have HL2 : Hid ((Instr.loadAt 23 (.pointer (some ⟨w1.heap.size, 0, none⟩))).run Tryz.prog w2 = .ok (.agg Cfg) w2) := by rw [H00.out.2.2]; exact H2.out.1.loads
  have K2 := ESolo.new w w2 H00.out.1.2.two (H00.out.1.below hA2.bel) hA2.bel usE a ca own 1 1 (H00.out.2.1.below hA2.bel) (usE_new HM.out (by decide) (by decide))
  rw [← H00.out.2.2] at K2
  have HA2 : Hid (ESolo w w2 R (ecNew usE own 0 1) d1 c1) := hA2
  clear K1 hA2 hR2 hb2 HST1 HL1
  go_wp2_with (first | (refine wpList_gload_run rfl 23 _ rfl _ _ rfl HL2.out ?_) | fail)
  refine K2.mono ?_
  rintro e w3 ⟨Q, d2, c2', rfl, hB3, hQ3, hb3⟩
  have H3 : Hid (ESolo w w3 R (ecNew usE own 0 1) d1 c1 ∧ ESolo w w3 Q (ecNew usE own 1 1) d2 c2' ∧ Q ≠ R ∧ CfAt w3 w1.heap.size usE ∧ w1.heap.size ≠ R) := by
    have h1 := HA2.out.all.at'.lt
    have h2 := H2.out.2
    exact ⟨HA2.out.below hb3, hB3, by omega, H2.out.1.below hb3, by omega⟩
  clear K2 hB3 hQ3 hb3 HL2 HA2
  by_cases hf1 : far < -900000
  · have KA := HAW.out w3 H3.out.1.bel
    go_wp2_with fail
    refine KA.mono ?_
    rintro e w4 ⟨rfl, hb4⟩
    have HE : Hid (Below w.heap.size w w4) := hb4
    clear KA hb4
    go_wp2
    go_ret
    exact ⟨by simp, HE.out⟩
  by_cases hf2 : 1073741824 < far
  · have KA := HAW.out w3 H3.out.1.bel
    go_wp2_with fail
    refine KA.mono ?_
    rintro e w4 ⟨rfl, hb4⟩
    have HE : Hid (Below w.heap.size w w4) := hb4
    clear KA hb4
    go_wp2
    go_ret
    exact ⟨by simp, HE.out⟩
  obtain ⟨X0, hX0⟩ : ∃ X0, X0 = 1000000 + far := ⟨_, rfl⟩
  have x0 : IntKind.i64.wrap (1000000 + far) = X0 := by rw [hX0, IntKind.wrap_i64]; omega
  have HX0 : Hid (100000 ≤ X0 ∧ X0 ≤ 1074741824) := by show 100000 ≤ X0 ∧ X0 ≤ 1074741824; omega
  obtain ⟨A1, x, P, hO⟩ := trueS own HM.out
  have O : Hid (TrueS own (ecNew usE own 0 1) (ecNew usE own 1 1) A1 x P) := hO
  clear hO hX0
  have K3 := H3.out.1.ask 1 1000000
  rw [O.out.askE, O.out.askR, O.out.askV] at K3
  go_wp2_with fail
  refine K3.mono ?_
  rintro e w4 ⟨dx, cx, rfl, hsx, hA4, ha4⟩
  have H4 : Hid (ESolo w w4 R A1 d1 c1 ∧ ESolo w w4 Q (ecNew usE own 1 1) d2 c2' ∧ Sees w4 dx cx x) := ⟨hA4, H3.out.1.other H3.out.2.1 ha4 H3.out.2.2.1, hsx⟩
  clear K3 hsx hA4 ha4 x0 hf1 hf2
  go_wp2
  go_loopw [14, 15, 18] (fun o z i wr => ∃ (k : Nat) (OO XX : Int), k ≤ 3 ∧ k ≤ ah.length ∧ o = .int .i64 OO ∧ z = .int .i64 XX ∧ i = .int .i64 (k : Int) ∧ Beats 1000000 k OO ∧ Beats X0 k XX ∧ w4 = wr) (fun _ _ i _ => 3 - (intOf i).toNat)
  case atStart => exact ⟨0, 1000000, X0, by omega, Nat.zero_le _, rfl, rfl, rfl, by unfold Beats; omega, by unfold Beats; omega, rfl⟩
  case round =>
    obtain ⟨k, OO, XX, hk, hka, rfl, rfl, rfl, hB1, hB2, rfl⟩ := hrel
    have g0 : (0 : Int) ≤ (k : Int) := Int.natCast_nonneg _
    by_cases hall : k < ah.length ∧ k < 3
    · obtain ⟨k1, k2⟩ := hall
      obtain ⟨z, hz⟩ : ∃ z, ah[k]? = some z := ⟨ah[k], by simp [k1]⟩
      obtain ⟨nb, no, rfl, cz0, cz1⟩ := HP.out.1.get hz
      have hwz := HP.out.1.wf z (List.mem_of_getElem? hz)
      obtain ⟨z0, z1⟩ := z
      have b0 := ebounds_i8 hwz.1
      have b1 := ebounds_i8 hwz.2
      dsimp only at b0 b1 cz0 cz1
      have e0 : w4.cell? ⟨nb, no + k * 2, none⟩ = some (.int .i8 z0) := by rw [H4.out.1.bel.cell (p := ⟨nb, no + k * 2, none⟩) (World.block_lt_of_cell? w _ cz0)]; exact cz0
      have e1 : w4.cell? ⟨nb, no + k * 2 + 1, none⟩ = some (.int .i8 z1) := by rw [H4.out.1.bel.cell (p := ⟨nb, no + k * 2 + 1, none⟩) (World.block_lt_of_cell? w _ cz1)]; exact cz1
      have t1 : decide ((k : Int) < (ah.length : Int)) = true := by simp; omega
      have t2 : decide ((k : Int) < 3) = true := by simp; omega
      have i1 : (k : Int) < (ah.length : Int) := by omega
      have w0 : IntKind.i64.wrap z0 = z0 := by rw [IntKind.wrap_i64]; omega
      have w1' : IntKind.i64.wrap z1 = z1 := by rw [IntKind.wrap_i64]; omega
      have HBB : Hid (Beats 1000000 k OO ∧ Beats X0 k XX) := ⟨hB1, hB2⟩
      clear hz hwz cz0 cz1 hB1 hB2
      have HBBX := HBB.out
      have HO2 : Hid ((0 ≤ OO ∧ OO ≤ 1099511627776) ∧ 0 ≤ XX ∧ XX ≤ 1099511627776) := by
        unfold Beats at HBBX
        have := HX0.out
        show (0 ≤ OO ∧ OO ≤ 1099511627776) ∧ 0 ≤ XX ∧ XX ≤ 1099511627776
        omega
      clear HBBX
      go_wp2
      refine ⟨⟨k + 1, OO + 100 + cl3 z0, XX + 100 + cl3 z1, by omega, by omega, congrArg _ (beat_add HO2.out.1 rfl), congrArg _ (beat_add HO2.out.2 rfl), rfl, HBB.out.1.step (cl3_in z0), HBB.out.2.step (cl3_in z1), trivial⟩, ?_⟩
      simp [intOf]; omega
    · have hex : (decide ((k : Int) < (ah.length : Int)) = false ∧ ¬ k < ah.length) ∨ (decide ((k : Int) < (ah.length : Int)) = true ∧ k < ah.length ∧ decide ((k : Int) < 3) = false ∧ ¬ k < 3) := by
        by_cases hc : k < ah.length
        · exact .inr ⟨decide_eq_true (by omega), hc, decide_eq_false (by omega), by omega⟩
        · exact .inl ⟨decide_eq_false (by omega), hc⟩
      have HBB : Hid (Beats 1000000 k OO ∧ Beats X0 k XX ∧ k ≤ 3 ∧ k ≤ ah.length) := ⟨hB1, hB2, hk, hka⟩
      have HOX : Hid ((0 ≤ OO ∧ OO ≤ 1000309) ∧ 0 ≤ XX ∧ XX ≤ 1074742133) := by
        have := HX0.out
        unfold Beats at hB1 hB2
        show (0 ≤ OO ∧ OO ≤ 1000309) ∧ 0 ≤ XX ∧ XX ≤ 1074742133
        omega
      obtain ⟨y, QF, hrep⟩ := O.out.rep XX HOX.out.2.1 (by have := HOX.out.2.2; omega)
      have HREP : Hid ((ecNew usE own 1 1).repE P XX 1 0 0 own = 0 ∧ (ecNew usE own 1 1).repR P XX 1 0 0 own = y ∧ A1.opE y = 0 ∧ A1.opF y = QF ∧ y.length ≤ 53 ∧ ∀ now, 1000000 ≤ now → now ≤ 1099511627776 → A1.heE QF now = (if 400 < now - 1000000 then 12 else 0) ∧ (A1.heE QF now = 0 → A1.heA QF now = ⟨1, XX - now, XX + mostN (now - 1000000) 3 - now, 1, 0, 0, own⟩)) := hrep
      clear hB1 hB2 hk hka hall hrep
      rcases hex with ⟨t1, u1⟩ | ⟨t1, u1, t2, u2⟩
      all_goals (
        have K4 := H4.out.2.1.opened dx cx x H4.out.2.2 (by rw [O.out.xl]; omega)
        rw [O.out.opE, O.out.opF] at K4
        go_wp2_with fail
        refine K4.mono ?_
        rintro e w5 ⟨Ap, rfl, hsp, hb5⟩
        obtain ⟨W5, hst5, hP5, hb55⟩ := fbox_laid hsp
        have hb5W : Below w4.heap.size w4 W5 := hb5.trans (hb55.mono hb5.size)
        have HST5 : Hid ((Instr.storeAt 40 (.pointer (some ⟨w5.heap.size, 0, none⟩)) (.agg (frC P Ap))).run Tryz.prog (w5.alloc (.cells (frC Fr.zero At.zero) 40)) = .ok () W5) := hst5
        have HL5 : Hid ((Instr.loadAt 40 (.pointer (some ⟨w5.heap.size, 0, none⟩))).run Tryz.prog W5 = .ok (.agg (frC P Ap)) W5) := hP5.at'.loads
        have H5 : Hid (ESolo w W5 R A1 d1 c1 ∧ ESolo w W5 Q (ecNew usE own 1 1) d2 c2' ∧ Seen W5 P Ap ∧ Sees W5 a ca own) := ⟨H4.out.1.below hb5W, H4.out.2.1.below hb5W, hP5.seen, H00.out.2.1.below (H4.out.1.below hb5W).bel⟩
        clear K4 hsp hst5 hP5 hb5 hb55 hb5W
        have K5 := H5.out.2.1.reply P Ap H5.out.2.2.1 O.out.pn XX 1 0 0 a ca own H5.out.2.2.2
        rw [HREP.out.1, HREP.out.2.1] at K5
        go_wp2_with (first | (refine wpList_store_run rfl 40 _ _ rfl _ _ rfl rfl HST5.out ?_) | (refine wpList_gload_run rfl 40 _ rfl _ _ rfl HL5.out ?_) | fail)
        refine K5.mono ?_
        rintro e w6 ⟨dy, cy, rfl, hsy, hb6⟩
        have H6 : Hid (ESolo w w6 R A1 d1 c1 ∧ Sees w6 dy cy y) := ⟨H5.out.1.below hb6, hsy⟩
        clear K5 hsy hb6 HST5 HL5 H5 H4 t1 u1
        go_wp2
        go_loopw [14, 15, 23] (fun o z i wr => ∃ (j : Nat) (O2 X2 : Int), j ≤ 3 ∧ j ≤ bh.length ∧ o = .int .i64 O2 ∧ z = .int .i64 X2 ∧ i = .int .i64 (j : Int) ∧ Beats OO j O2 ∧ Beats XX j X2 ∧ w6 = wr) (fun _ _ i _ => 3 - (intOf i).toNat)
        case atStart => exact ⟨0, OO, XX, by omega, Nat.zero_le _, rfl, rfl, rfl, by unfold Beats; omega, by unfold Beats; omega, rfl⟩
        case round =>
          obtain ⟨j, O2, X2, hj, hjb, rfl, rfl, rfl, hB3, hB4, rfl⟩ := hrel
          have g1 : (0 : Int) ≤ (j : Int) := Int.natCast_nonneg _
          by_cases hall : j < bh.length ∧ j < 3
          · obtain ⟨k1, k2⟩ := hall
            obtain ⟨z, hz⟩ : ∃ z, bh[j]? = some z := ⟨bh[j], by simp [k1]⟩
            obtain ⟨nb, no, ha3, cz0, cz1⟩ := HP.out.2.get hz
            have hwz := HP.out.2.wf z (List.mem_of_getElem? hz)
            obtain ⟨z0, z1⟩ := z
            have b0 := ebounds_i8 hwz.1
            have b1 := ebounds_i8 hwz.2
            dsimp only at b0 b1 cz0 cz1
            have e0 : w6.cell? ⟨nb, no + j * 2, none⟩ = some (.int .i8 z0) := by rw [H6.out.1.bel.cell (p := ⟨nb, no + j * 2, none⟩) (World.block_lt_of_cell? w _ cz0)]; exact cz0
            have e1 : w6.cell? ⟨nb, no + j * 2 + 1, none⟩ = some (.int .i8 z1) := by rw [H6.out.1.bel.cell (p := ⟨nb, no + j * 2 + 1, none⟩) (World.block_lt_of_cell? w _ cz1)]; exact cz1
            have t1 : decide ((j : Int) < (bh.length : Int)) = true := by simp; omega
            have t2 : decide ((j : Int) < 3) = true := by simp; omega
            have i1 : (j : Int) < (bh.length : Int) := by omega
            have w0 : IntKind.i64.wrap z0 = z0 := by rw [IntKind.wrap_i64]; omega
            have w1' : IntKind.i64.wrap z1 = z1 := by rw [IntKind.wrap_i64]; omega
            have HB2 : Hid (Beats OO j O2 ∧ Beats XX j X2) := ⟨hB3, hB4⟩
            have HO2 : Hid ((0 ≤ O2 ∧ O2 ≤ 1099511627776) ∧ 0 ≤ X2 ∧ X2 ≤ 1099511627776) := by
              have := HOX.out
              unfold Beats at hB3 hB4
              show (0 ≤ O2 ∧ O2 ≤ 1099511627776) ∧ 0 ≤ X2 ∧ X2 ≤ 1099511627776
              omega
            clear hz hwz cz0 cz1 hB3 hB4
            subst ha3
            go_wp2
            refine ⟨⟨j + 1, O2 + 100 + cl3 z0, X2 + 100 + cl3 z1, by omega, by omega, congrArg _ (beat_add HO2.out.1 rfl), congrArg _ (beat_add HO2.out.2 rfl), rfl, HB2.out.1.step (cl3_in z0), HB2.out.2.step (cl3_in z1), trivial⟩, ?_⟩
            simp [intOf]; omega
          · have hex : (decide ((j : Int) < (bh.length : Int)) = false ∧ ¬ j < bh.length) ∨ (decide ((j : Int) < (bh.length : Int)) = true ∧ j < bh.length ∧ decide ((j : Int) < 3) = false ∧ ¬ j < 3) := by
              by_cases hc : j < bh.length
              · exact .inr ⟨decide_eq_true (by omega), hc, decide_eq_false (by omega), by omega⟩
              · exact .inl ⟨decide_eq_false (by omega), hc⟩
            obtain ⟨G, hG⟩ : ∃ G, G = O2 - 1000000 := ⟨_, rfl⟩
            have HF : Hid (G = O2 - 1000000 ∧ 97 * (k : Int) + 97 * (j : Int) ≤ G ∧ G ≤ 103 * (k : Int) + 103 * (j : Int) ∧ 97 * (j : Int) ≤ X2 - XX ∧ X2 - XX ≤ 103 * (j : Int) ∧ 97 * (k : Int) ≤ OO - 1000000 ∧ 97 * (j : Int) ≤ O2 - OO ∧ k ≤ ah.length ∧ j ≤ bh.length ∧ k ≤ 3 ∧ j ≤ 3) := by
              have := HBB.out
              unfold Beats at this hB3 hB4
              show G = O2 - 1000000 ∧ 97 * (k : Int) + 97 * (j : Int) ≤ G ∧ G ≤ 103 * (k : Int) + 103 * (j : Int) ∧ 97 * (j : Int) ≤ X2 - XX ∧ X2 - XX ≤ 103 * (j : Int) ∧ 97 * (k : Int) ≤ OO - 1000000 ∧ 97 * (j : Int) ≤ O2 - OO ∧ k ≤ ah.length ∧ j ≤ bh.length ∧ k ≤ 3 ∧ j ≤ 3
              omega
            have hn1 : 1000000 ≤ O2 := by have := HF.out; omega
            have hn2 : O2 ≤ 1099511627776 := by have := HF.out; have := HOX.out; omega
            obtain ⟨hE1, hE2⟩ := HREP.out.2.2.2.2.2 O2 hn1 hn2
            rw [← hG] at hE1
            have HEE : Hid (A1.heE QF O2 = (if 400 < G then 12 else 0) ∧ (A1.heE QF O2 = 0 → A1.heA QF O2 = ⟨1, XX - O2, XX + mostN G 3 - O2, 1, 0, 0, own⟩)) := ⟨hE1, by rw [hG]; exact hE2⟩
            have HN : Hid (O2 ≤ 1099511627776 ∧ 1000000 ≤ O2) := ⟨hn2, hn1⟩
            clear hB3 hB4 hj hjb hall hG hE1 hE2 hn1 hn2 g1
            rcases hex with ⟨t1, u1⟩ | ⟨t1, u1, t2, u2⟩
            all_goals (
              have K6 := H6.out.1.opened dy cy y H6.out.2 (by have := HREP.out.2.2.2.2.1; omega)
              rw [HREP.out.2.2.1, HREP.out.2.2.2.1] at K6
              go_wp2_with fail
              refine K6.mono ?_
              rintro e w7 ⟨Aq, rfl, hsq, hb7⟩
              obtain ⟨W7, hst7, hQ7, hb77⟩ := fbox_laid hsq
              have HST7 : Hid ((Instr.storeAt 40 (.pointer (some ⟨w7.heap.size, 0, none⟩)) (.agg (frC QF Aq))).run Tryz.prog (w7.alloc (.cells (frC Fr.zero At.zero) 40)) = .ok () W7) := hst7
              have HL7 : Hid ((Instr.loadAt 40 (.pointer (some ⟨w7.heap.size, 0, none⟩))).run Tryz.prog W7 = .ok (.agg (frC QF Aq)) W7) := hQ7.at'.loads
              have K7 := (H6.out.1.below (hb7.trans (hb77.mono hb7.size))).hear QF Aq hQ7.seen O2
              clear K6 hsq hst7 hQ7 hb7 hb77 t1 u1
              by_cases hl : 400 < G
              · rw [HEE.out.1, if_pos hl] at K7
                have hl4 : (4 : Int) ≤ (ah.length : Int) + (bh.length : Int) := by have := HF.out; omega
                have wl : IntKind.i64.wrap ((ah.length : Int) + (bh.length : Int)) = (ah.length : Int) + (bh.length : Int) := by rw [IntKind.wrap_i64]; omega
                obtain ⟨SL, hSL⟩ : ∃ SL, SL = (ah.length : Int) + (bh.length : Int) := ⟨_, rfl⟩
                rw [← hSL] at hl4 wl
                go_wp2_with (first | (refine wpList_store_run rfl 40 _ _ rfl _ _ rfl rfl HST7.out ?_) | (refine wpList_gload_run rfl 40 _ rfl _ _ rfl HL7.out ?_) | fail)
                refine K7.mono ?_
                rintro e w8 ⟨dz, cz, rfl, hsz, hA, haa⟩
                obtain ⟨W8, hst, hX, _, hbb⟩ := pn_laid hsz
                have HST8 : Hid ((Instr.storeAt 51 (.pointer (some ⟨w8.heap.size, 0, none⟩)) (.agg (anC _ dz cz))).run Tryz.prog (w8.alloc (.cells (anC An.zero none 0) 51)) = .ok () W8) := hst
                have KA := HAW.out W8 (hA.below hbb).bel
                clear K7 hsz hA haa hst hX hbb HST7 HL7
                go_wp2_with (first | (refine wpList_store_run rfl 51 _ _ rfl _ _ rfl rfl HST8.out ?_) | fail)
                refine KA.mono ?_
                rintro e w9 ⟨rfl, hb9⟩
                have HE : Hid (Below w.heap.size w w9) := hb9
                clear KA hb9
                go_wp2
                go_ret
                exact ⟨by simp, HE.out⟩
              · have h0 : A1.heE QF O2 = 0 := HEE.out.1.trans (if_neg hl)
                have hA0 := HEE.out.2 h0
                rw [h0, hA0] at K7
                obtain ⟨LO, hLO⟩ : ∃ LO, LO = XX - O2 := ⟨_, rfl⟩
                obtain ⟨HI, hHI⟩ : ∃ HI, HI = XX + mostN G 3 - O2 := ⟨_, rfl⟩
                obtain ⟨DF, hDF⟩ : ∃ DF, DF = X2 - O2 := ⟨_, rfl⟩
                have wd : IntKind.i64.wrap (X2 - O2) = DF := by rw [hDF, IntKind.wrap_i64]; have := HF.out; have := HOX.out; have := HN.out; omega
                have hH : r8holdsB LO HI DF = true := by
                  have hf := HF.out
                  have ho := HOX.out
                  have hbt := between (a := OO - 1000000) (b := O2 - OO) (x := G) (y := X2 - XX) (r := 3) rfl (by omega) (by omega) (by omega) (by omega)
                  have hm3 := most_le3 (a := G) (d := 3) (by omega) (by omega) (by omega)
                  unfold r8holdsB
                  rw [hLO, hHI, hDF]
                  exact decide_eq_true ⟨by omega, by omega, by omega, by omega⟩
                rw [← hLO, ← hHI] at K7
                go_wp2_with (first | (refine wpList_store_run rfl 40 _ _ rfl _ _ rfl rfl HST7.out ?_) | (refine wpList_gload_run rfl 40 _ rfl _ _ rfl HL7.out ?_) | fail)
                refine K7.mono ?_
                rintro e w8 ⟨dz, cz, rfl, hsz, hA, haa⟩
                obtain ⟨W8, hst, hX, _, hbb⟩ := pn_laid (x := ⟨1, LO, HI, 1, 0, 0, own⟩) hsz
                have HST8 : Hid ((Instr.storeAt 51 (.pointer (some ⟨w8.heap.size, 0, none⟩)) (.agg (anC _ dz cz))).run Tryz.prog (w8.alloc (.cells (anC An.zero none 0) 51)) = .ok () W8) := hst
                have H8 : Hid (ESolo w W8 R _ d1 c1) := hA.below hbb
                have HL8 : Hid ((Instr.loadAt 49 (.pointer (some ⟨w8.heap.size, 1, none⟩))).run Tryz.prog W8 = .ok (.agg #[.int .i64 LO, .int .i64 HI]) W8) := pn_iv hX
                have KI := holds_ok W8 LO HI DF
                rw [hH] at KI
                have HX8 : Hid (∀ V, Below W8.heap.size W8 V → V.cell? ⟨w8.heap.size, 0, none⟩ = some (.int .i64 1)) := fun V hV => pn_from (hX.below hV)
                clear K7 hsz hA haa hst hX hbb HST7 HL7 h0 hA0 hLO hHI hDF hH
                go_wp2_with (first | (refine wpList_store_run rfl 51 _ _ rfl _ _ rfl rfl HST8.out ?_) | (refine wpList_gload_run rfl 49 _ rfl _ _ rfl HL8.out ?_) | fail)
                refine KI.mono ?_
                rintro e w9 ⟨rfl, hb9⟩
                have c0 := HX8.out w9 hb9
                have KA := HAW.out w9 (H8.out.below hb9).bel
                clear KI hb9
                go_wp2_with fail
                refine KA.mono ?_
                rintro e w10 ⟨rfl, hb10⟩
                have HE : Hid (Below w.heap.size w w10) := hb10
                clear KA hb10
                go_wp2
                go_ret
                exact ⟨by simp, HE.out⟩))
end Go.Proofs.YtahnbljbhfpldaaGreatDoor
