/-
  The walk of EchoNonces.
-/
import Derived.Test.YtahnbljbhfpldaaGreatDoorNonA
namespace Go.Proofs.YtahnbljbhfpldaaGreatDoor
open Go.ChangeShapes Go.WideShapes Go.ChangeAt Go.RowKit
set_option maxRecDepth 20000
theorem Ec.askV_kept {s : Ec} {jj now : Int} (h : s.askE jj now = 0) : (s.askV jj now).c = s.c ∧ (s.askV jj now).i = s.i ∧ (s.askV jj now).inc = s.inc ∧ (s.askV jj now).ct = s.ct + 1 ∧ (s.askV jj now).ms = s.ms := by
  have e : s.askV jj now = { s with ct := s.ct + 1, ws := s.ws.set jj.toNat (some (s.non, now)) } := if_pos h
  rw [e]
  exact ⟨rfl, rfl, rfl, rfl, rfl⟩
def Of (il : List UInt8) (k : Nat) (n : Nat) : Prop := ∃ (m : Nat) (x : UInt8) (c : Nat), m < k ∧ il[m]? = some x ∧ 1 ≤ c ∧ c ≤ 12 ∧ n = x.toNat * 4294967296 + c
structure Node (w0 w : World) (R : Nat) (s : Ec) (d : Option Addr) (cd : Nat) (own : List UInt8) (x : UInt8) (j : Nat) : Prop where
  solo : ESolo w0 w R s d cd
  row : U8Row w d
  c : s.c = usE
  i : s.i = 0
  inc : s.inc = (x.toNat : Int)
  ct : s.ct = j
  ms : s.ms = own
set_option maxHeartbeats 12800000 in
theorem nonces_walk (a : Option Addr) (ca : Nat) (own : List UInt8) (a1 : Option Addr) (c1 : Nat) (il : List UInt8) (a2 : Option Addr) (c2 : Nat) (tl : List UInt8) (w : World) (hTab : FTab w ∧ KTab w) (ha : Sees w a ca own) (_ : ca ≤ 140737488351232) (h1 : Sees w a1 c1 il) (_ : c1 ≤ 140737488351232) (h2 : Sees w a2 c2 tl) (_ : c2 ≤ 140737488351232) :
    Calls Tryz.prog 6 #[.slice a own.length ca, .slice a1 il.length c1, .slice a2 tl.length c2] w fun e w' => e = .returned (.bool true) ∧ Below w.heap.size w w' := by
  obtain ⟨Cfg, hCfg⟩ : ∃ Cfg, Cfg = cfC usE := ⟨_, rfl⟩
  have H00 : Hid (Tabs w ∧ Sees w a ca own ∧ Cfg = cfC usE ∧ Sees w a1 c1 il ∧ Sees w a2 c2 tl) := ⟨hTab, ha, hCfg, h1, h2⟩
  have KU : Hid (∀ V, Calls Tryz.prog 24 #[] V fun e w' => e = .returned (.agg Cfg) ∧ Below V.heap.size V w') := fun V => by
    have := usual_ok V
    rw [← hCfg] at this
    exact this
  have HAW : Hid (∀ V, Below w.heap.size w V → Calls Tryz.prog 10 #[] V fun e w' => e = .returned (.bool true) ∧ Below w.heap.size w w') := fun V hV => by
    refine (eawake_ok V (H00.out.1.below hV)).mono ?_
    rintro e w' ⟨rfl, hb⟩
    exact ⟨rfl, hV.trans (hb.mono hV.size)⟩
  have hil : il.length ≤ 9223372036854775807 := by have := h1.fits; have := h1.room; unfold maxLen at this; omega
  have htl : tl.length ≤ 9223372036854775807 := by have := h2.fits; have := h2.room; unfold maxLen at this; omega
  obtain ⟨ol, hol⟩ : ∃ ol, ol = own.length := ⟨_, rfl⟩
  have HOL : Hid (ol = own.length) := hol
  rw [← hol]
  clear ha hTab hCfg h1 h2 hol
  go_enter Tryz.func6, Tryz.ntmps6
  go_wp2
  go_loopw [7, 8] (fun u i wr => ∃ (k : Nat) (xs : List Nat), k ≤ 4 ∧ k ≤ il.length ∧ i = .int .i64 (k : Int) ∧ NonL w.heap.size wr u xs ∧ xs.length ≤ 12 * k ∧ (∀ n ∈ xs, Of il k n) ∧ Below w.heap.size w wr) (fun _ i _ => 4 - (intOf i).toNat)
  case atStart => exact ⟨0, [], by omega, Nat.zero_le _, rfl, NonL.nil _ _, by simp, by simp, Below.refl _ _⟩
  case round =>
    obtain ⟨k, xs, hk, hki, rfl, hN, hxl, hOf, hB⟩ := hrel
    generalize wr = wo at *
    have g0 : (0 : Int) ≤ (k : Int) := Int.natCast_nonneg _
    obtain ⟨ua, uc, rfl⟩ := hN.len
    obtain ⟨xl, hxln⟩ : ∃ xl, xl = xs.length := ⟨_, rfl⟩
    have HXL : Hid (xl = xs.length) := hxln
    rw [← hxln] at hN ⊢
    have H1 : Hid (NonL w.heap.size wo (.slice ua xl uc) xs ∧ xs.length ≤ 12 * k ∧ (∀ n ∈ xs, Of il k n) ∧ Below w.heap.size w wo ∧ k ≤ 4) := ⟨hN, hxl, hOf, hB, hk⟩
    clear hN hxl hOf hB hxln
    by_cases hall : k < il.length ∧ k < 4
    rotate_left
    · have hex : (decide ((k : Int) < (il.length : Int)) = false ∧ ¬ k < il.length) ∨ (decide ((k : Int) < (il.length : Int)) = true ∧ k < il.length ∧ decide ((k : Int) < 4) = false ∧ ¬ k < 4) := by
        by_cases hc : k < il.length
        · exact .inr ⟨decide_eq_true (by omega), hc, decide_eq_false (by omega), by omega⟩
        · exact .inl ⟨decide_eq_false (by omega), hc⟩
      have KA := HAW.out wo H1.out.2.2.2.1
      clear hall
      rcases hex with ⟨t1, u1⟩ | ⟨t1, u1, t2, u2⟩
      all_goals (
        go_wp2_with fail
        refine KA.mono ?_
        rintro e w9 ⟨rfl, hb9⟩
        have HE : Hid (Below w.heap.size w w9) := hb9
        clear KA hb9
        go_wp2
        go_ret
        exact ⟨by simp, HE.out⟩)
    obtain ⟨k1, k2⟩ := hall
    obtain ⟨x, hx⟩ : ∃ x, il[k]? = some x := ⟨il[k], by simp [k1]⟩
    obtain ⟨ib, io, rfl, cx⟩ := H00.out.2.2.2.1.get hx
    have bx : x.toNat < 256 := x.toNat_lt
    obtain ⟨X, hX⟩ : ∃ X : Int, X = (x.toNat : Int) := ⟨_, rfl⟩
    rw [← hX] at cx
    have HX : Hid (X = (x.toNat : Int) ∧ il[k]? = some x ∧ 0 ≤ X ∧ X < 256) := ⟨hX, hx, by omega, by omega⟩
    have HCX : Hid (∀ V, Below w.heap.size w V → V.cell? ⟨ib, io + k, none⟩ = some (.int .u8 X)) := fun V hV => by rw [hV.cell (p := ⟨ib, io + k, none⟩) (World.block_lt_of_cell? w _ cx)]; exact cx
    have t1 : decide ((k : Int) < (il.length : Int)) = true := by simp; omega
    have t2 : decide ((k : Int) < 4) = true := by simp; omega
    have i1 : (k : Int) < (il.length : Int) := by omega
    clear hx cx hX bx
    go_wp2
    go_loopw [9] (fun j wr2 => ∃ (m : Nat), m ≤ k ∧ j = .int .i64 (m : Int) ∧ (∀ q y, q < m → il[q]? = some y → y ≠ x) ∧ Below wo.heap.size wo wr2) (fun j _ => k - (intOf j).toNat)
    case atStart => exact ⟨0, Nat.zero_le _, rfl, (fun q y h => by omega), Below.refl _ _⟩
    case round =>
      obtain ⟨m, hm, rfl, hne, hB2⟩ := hrel
      have g1 : (0 : Int) ≤ (m : Int) := Int.natCast_nonneg _
      generalize wr = wr2 at *
      have H2 : Hid ((∀ q y, q < m → il[q]? = some y → y ≠ x) ∧ Below wo.heap.size wo wr2 ∧ Below w.heap.size w wr2) := ⟨hne, hB2, H1.out.2.2.2.1.trans (hB2.mono H1.out.2.2.2.1.size)⟩
      clear hne hB2
      by_cases hmk : m < k
      · obtain ⟨y, hy⟩ : ∃ y, il[m]? = some y := ⟨il[m]'(by omega), by simp⟩
        obtain ⟨ib2, io2, e2, cy⟩ := H00.out.2.2.2.1.get hy
        simp only [Option.some.injEq, Addr.mk.injEq, and_true] at e2
        obtain ⟨rfl, rfl⟩ := e2
        have cy2 : wr2.cell? ⟨ib, io + m, none⟩ = some (.int .u8 (y.toNat : Int)) := by rw [H2.out.2.2.cell (p := ⟨ib, io + m, none⟩) (World.block_lt_of_cell? w _ cy)]; exact cy
        have cx2 := HCX.out wr2 H2.out.2.2
        have j1 : (m : Int) < (il.length : Int) := by omega
        have q1 : decide ((m : Int) < (k : Int)) = true := by simp; omega
        have HY : Hid (il[m]? = some y) := hy
        clear cy hy
        by_cases hxy : y = x
        · have hq : ((y.toNat : Int) == X) = true := by rw [HX.out.1, hxy]; simp
          clear hxy
          go_upto_region 8 with fail
          go_quiet (fail)
          obtain ⟨V, hV⟩ : ∃ V, V = wr2.drewN nq := ⟨_, rfl⟩
          have hbV : Below wr2.heap.size wr2 V := by rw [hV]; exact below_drewN (Below.refl _ _) nq
          rw [← hV]
          have KA := HAW.out V (H2.out.2.2.trans (hbV.mono H2.out.2.2.size))
          clear hV hbV cy2 cx2
          go_wp2_with fail
          refine KA.mono ?_
          rintro e w9 ⟨rfl, hb9⟩
          have HE : Hid (Below w.heap.size w w9) := hb9
          clear KA hb9
          go_wp2
          go_ret
          exact ⟨by simp, HE.out⟩
        · have hq : ((y.toNat : Int) == X) = false := by
            rw [HX.out.1]
            have : y.toNat ≠ x.toNat := fun e => hxy (UInt8.toNat_inj.1 e)
            simp; omega
          have HNE : Hid (y ≠ x) := hxy
          clear hxy
          go_upto_region 8 with fail
          go_quiet (fail)
          obtain ⟨V, hV⟩ : ∃ V, V = wr2.drewN nq := ⟨_, rfl⟩
          have hbV : Below wr2.heap.size wr2 V := by rw [hV]; exact below_drewN (Below.refl _ _) nq
          rw [← hV]
          have HBV : Hid (Below wo.heap.size wo V) := H2.out.2.1.trans (hbV.mono H2.out.2.1.size)
          clear hV hbV cy2 cx2
          go_wp2
          refine ⟨⟨m + 1, by omega, rfl, fun q z hq2 hz => ?_, HBV.out⟩, ?_⟩
          · by_cases hqm : q < m
            · exact H2.out.1 q z hqm hz
            · have : q = m := by omega
              subst this
              rw [HY.out] at hz
              cases hz
              exact HNE.out
          · simp [intOf]; omega
      · have hmk2 : m = k := by omega
        subst hmk2
        have q1 : decide ((m : Int) < (m : Int)) = false := by simp
        have cx2 := HCX.out wr2 H2.out.2.2
        have HNU : Hid (∀ q y, q < m → il[q]? = some y → y ≠ x) := H2.out.1
        have HQ : Hid (∀ V, Below wr2.heap.size wr2 V → V.cell? ⟨ib, io + m, none⟩ = some (.int .u8 X)) := fun V hV => HCX.out V (H2.out.2.2.trans (hV.mono H2.out.2.2.size))
        have hS0 := HQ.out wr2.drew (Below.refl _ _).drew
        have wX : IntKind.i64.wrap X = X := by rw [IntKind.wrap_i64]; have := HX.out; omega
        have K1 := KU.out wr2.drew
        have HW2 : Hid (Below wr2.heap.size wr2 wr2.drew) := (Below.refl _ _).drew
        by_cases h16 : own.length = 16
        rotate_left
        · have HO : Hid (∀ V, Calls Tryz.prog 8 #[.agg Cfg, .slice a ol ca, .int .i64 0, .int .i64 X] V fun e w' => e = .returned (.tuple #[.pointer none, .int .i64 1]) ∧ Below V.heap.size V w') := fun V => by
            rw [H00.out.2.2.1, HOL.out]
            exact penew_no V usE a ca own 0 X (usE_no h16)
          have hmb : ((ol : Int) != 16) = true := by rw [HOL.out]; simp; omega
          clear h16 q1
          go_upto_region 10 with fail
          refine wp_region_noPanic ?_
          refine wp_region_held (S := fun V => V.cell? ⟨ib, io + m, none⟩ = some (.int .u8 X)) (by kernel_rfl) ?_
          have hS := hS0
          refine any_take 1 ?vnan1 rfl (by kernel_rfl) (by kernel_rfl) (by kernel_rfl) (fun _ _ _ h => h) (by rfl) ?hnan1 hS ?_
          case hnan1 => (intro w hSw; (try dsimp only at hSw); go_split_ands; go_simp; (try with_reducible rfl))
          (try simp only [Act.put, List.setIfInBounds_toArray, List.set_cons_zero, List.set_cons_succ])
          refine any_take 2 ?vnan2 rfl (by kernel_rfl) (by kernel_rfl) (by kernel_rfl) (fun _ _ _ h => h) (by rfl) ?hnan2 hS ?_
          case hnan2 => (intro w hSw; (try dsimp only at hSw); go_split_ands; go_simp; (try with_reducible rfl))
          (try simp only [Act.put, List.setIfInBounds_toArray, List.set_cons_zero, List.set_cons_succ])
          refine any_take 3 ?vnan3 rfl (by kernel_rfl) (by kernel_rfl) (by kernel_rfl) (fun _ _ _ h => h) (by rfl) ?hnan3 hS ?_
          case hnan3 => (intro w hSw; (try dsimp only at hSw); go_split_ands; go_simp; (try with_reducible rfl))
          (try simp only [Act.put, List.setIfInBounds_toArray, List.set_cons_zero, List.set_cons_succ])
          refine any_take 4 ?vnan4 rfl (by kernel_rfl) (by kernel_rfl) (by kernel_rfl) (fun _ _ _ h => h) (by rfl) ?hnan4 hS ?_
          case hnan4 => (intro w hSw; (try dsimp only at hSw); go_split_ands; go_simp; (try with_reducible rfl))
          (try simp only [Act.put, List.setIfInBounds_toArray, List.set_cons_zero, List.set_cons_succ])
          refine any_take 5 ?vnan5 rfl (by kernel_rfl) (by kernel_rfl) (by kernel_rfl) (fun _ _ _ h => h) (by rfl) ?hnan5 hS ?_
          case hnan5 => (intro w hSw; (try dsimp only at hSw); go_split_ands; go_simp; (try with_reducible rfl))
          (try simp only [Act.put, List.setIfInBounds_toArray, List.set_cons_zero, List.set_cons_succ])
          refine any_take 6 ?vnan6 rfl (by kernel_rfl) (by kernel_rfl) (by kernel_rfl) (fun _ _ _ h => h) (by rfl) ?hnan6 hS ?_
          case hnan6 => (intro w hSw; (try dsimp only at hSw); go_split_ands; go_simp; (try with_reducible rfl))
          (try simp only [Act.put, List.setIfInBounds_toArray, List.set_cons_zero, List.set_cons_succ])
          refine any_one 0 rfl (by kernel_rfl) (by rfl) (fun K hK => ?_)
          clear hS
          go_simp
          refine K1.mono ?_
          rintro ev V1 ⟨rfl, hb1x⟩
          have hb1 : Below wr2.heap.size wr2 V1 := HW2.out.trans (hb1x.mono HW2.out.size)
          have HQ1 := HQ.out V1 hb1
          clear hb1x K1
          refine hK.out _ _ (HQ1) (fun hS => ?_)
          clear hK
          (try simp only [Act.put, List.setIfInBounds_toArray, List.set_cons_zero, List.set_cons_succ])
          refine any_one 7 rfl (by kernel_rfl) (by rfl) (fun K hK => ?_)
          clear hS
          go_simp
          refine (HO.out _).mono ?_
          rintro ev V2 ⟨rfl, hb2x⟩
          have hb2 : Below wr2.heap.size wr2 V2 := hb1.trans (hb2x.mono hb1.size)
          have HQ2 := HQ.out V2 hb2
          clear hb2x
          refine hK.out _ _ (HQ2) (fun hS => ?_)
          clear hK
          (try simp only [Act.put, List.setIfInBounds_toArray, List.set_cons_zero, List.set_cons_succ])
          refine any_take 8 ?vnan7 rfl (by kernel_rfl) (by kernel_rfl) (by kernel_rfl) (fun _ _ _ h => h) (by rfl) ?hnan7 hS ?_
          case hnan7 => (intro w hSw; (try dsimp only at hSw); go_split_ands; go_simp; (try with_reducible rfl))
          (try simp only [Act.put, List.setIfInBounds_toArray, List.set_cons_zero, List.set_cons_succ])
          refine any_take 9 ?vnan8 rfl (by kernel_rfl) (by kernel_rfl) (by kernel_rfl) (fun _ _ _ h => h) (by rfl) ?hnan8 hS ?_
          case hnan8 => (intro w hSw; (try dsimp only at hSw); go_split_ands; go_simp; (try with_reducible rfl))
          (try simp only [Act.put, List.setIfInBounds_toArray, List.set_cons_zero, List.set_cons_succ])
          refine any_take 10 ?vnan9 rfl (by kernel_rfl) (by kernel_rfl) (by kernel_rfl) (fun _ _ _ h => h) (by rfl) ?hnan9 hS ?_
          case hnan9 => (intro w hSw; (try dsimp only at hSw); go_split_ands; go_simp; (try with_reducible rfl))
          (try simp only [Act.put, List.setIfInBounds_toArray, List.set_cons_zero, List.set_cons_succ])
          refine any_take 11 ?vnan10 rfl (by kernel_rfl) (by kernel_rfl) (by kernel_rfl) (fun _ _ _ h => h) (by rfl) ?hnan10 hS ?_
          case hnan10 => (intro w hSw; (try dsimp only at hSw); go_split_ands; go_simp; (try with_reducible rfl))
          (try simp only [Act.put, List.setIfInBounds_toArray, List.set_cons_zero, List.set_cons_succ])
          refine any_take 12 ?vnan11 rfl (by kernel_rfl) (by kernel_rfl) (by kernel_rfl) (fun _ _ _ h => h) (by rfl) ?hnan11 hS ?_
          case hnan11 => (intro w hSw; (try dsimp only at hSw); go_split_ands; go_simp; (try with_reducible rfl))
          (try simp only [Act.put, List.setIfInBounds_toArray, List.set_cons_zero, List.set_cons_succ])
          refine wpAnyH_done (by kernel_rfl) ?_ _
          refine NoPanic.normal ?_
          clear hS hS0 HQ HQ1 HQ2
          have KA := HAW.out V2 (H2.out.2.2.trans (hb2.mono H2.out.2.2.size))
          clear hb1 hb2
          go_wp2_with fail
          refine KA.mono ?_
          rintro e w9 ⟨rfl, hb9⟩
          have HE : Hid (Below w.heap.size w w9) := hb9
          clear KA hb9
          go_wp2
          go_ret
          exact ⟨by simp, HE.out⟩
        have HO : Hid (∀ V, Below w.heap.size w V → Calls Tryz.prog 8 #[.agg Cfg, .slice a ol ca, .int .i64 0, .int .i64 X] V fun e w' => ∃ R d cd, e = .returned (.tuple #[.pointer (some ⟨R, 0, none⟩), .int .i64 0]) ∧ Node w w' R (ecNew usE own 0 X) d cd own x 0 ∧ Below V.heap.size V w') := fun V hV => by
          rw [H00.out.2.2.1, HOL.out]
          refine (ESolo.newRow w V H00.out.1.2.two (H00.out.1.below hV) hV usE a ca own 0 X (H00.out.2.1.below hV) (usE_new h16 (by decide) (by have := HX.out; omega))).mono ?_
          rintro e w' ⟨R, d, cd, rfl, h3, _, h5, h6⟩
          exact ⟨R, d, cd, rfl, ⟨h3, h6, rfl, rfl, HX.out.1, rfl, rfl⟩, h5⟩
        have HM : Hid (own.length = 16) := h16
        clear h16 q1
        go_upto_region 10 with fail
        refine wp_region_noPanic ?_
        refine wp_region_held (S := fun V => V.cell? ⟨ib, io + m, none⟩ = some (.int .u8 X)) (by kernel_rfl) ?_
        have hS := hS0
        refine any_take 1 ?vnbn1 rfl (by kernel_rfl) (by kernel_rfl) (by kernel_rfl) (fun _ _ _ h => h) (by rfl) ?hnbn1 hS ?_
        case hnbn1 => (intro w hSw; (try dsimp only at hSw); go_split_ands; go_simp; (try with_reducible rfl))
        (try simp only [Act.put, List.setIfInBounds_toArray, List.set_cons_zero, List.set_cons_succ])
        refine any_take 2 ?vnbn2 rfl (by kernel_rfl) (by kernel_rfl) (by kernel_rfl) (fun _ _ _ h => h) (by rfl) ?hnbn2 hS ?_
        case hnbn2 => (intro w hSw; (try dsimp only at hSw); go_split_ands; go_simp; (try with_reducible rfl))
        (try simp only [Act.put, List.setIfInBounds_toArray, List.set_cons_zero, List.set_cons_succ])
        refine any_take 3 ?vnbn3 rfl (by kernel_rfl) (by kernel_rfl) (by kernel_rfl) (fun _ _ _ h => h) (by rfl) ?hnbn3 hS ?_
        case hnbn3 => (intro w hSw; (try dsimp only at hSw); go_split_ands; go_simp; (try with_reducible rfl))
        (try simp only [Act.put, List.setIfInBounds_toArray, List.set_cons_zero, List.set_cons_succ])
        refine any_take 4 ?vnbn4 rfl (by kernel_rfl) (by kernel_rfl) (by kernel_rfl) (fun _ _ _ h => h) (by rfl) ?hnbn4 hS ?_
        case hnbn4 => (intro w hSw; (try dsimp only at hSw); go_split_ands; go_simp; (try with_reducible rfl))
        (try simp only [Act.put, List.setIfInBounds_toArray, List.set_cons_zero, List.set_cons_succ])
        refine any_take 5 ?vnbn5 rfl (by kernel_rfl) (by kernel_rfl) (by kernel_rfl) (fun _ _ _ h => h) (by rfl) ?hnbn5 hS ?_
        case hnbn5 => (intro w hSw; (try dsimp only at hSw); go_split_ands; go_simp; (try with_reducible rfl))
        (try simp only [Act.put, List.setIfInBounds_toArray, List.set_cons_zero, List.set_cons_succ])
        refine any_take 6 ?vnbn6 rfl (by kernel_rfl) (by kernel_rfl) (by kernel_rfl) (fun _ _ _ h => h) (by rfl) ?hnbn6 hS ?_
        case hnbn6 => (intro w hSw; (try dsimp only at hSw); go_split_ands; go_simp; (try with_reducible rfl))
        (try simp only [Act.put, List.setIfInBounds_toArray, List.set_cons_zero, List.set_cons_succ])
        refine any_one 0 rfl (by kernel_rfl) (by rfl) (fun K hK => ?_)
        clear hS
        go_simp
        refine K1.mono ?_
        rintro ev V1 ⟨rfl, hb1x⟩
        have hb1 : Below wr2.heap.size wr2 V1 := HW2.out.trans (hb1x.mono HW2.out.size)
        have HQ1 := HQ.out V1 hb1
        clear hb1x K1
        refine hK.out _ _ (HQ1) (fun hS => ?_)
        clear hK
        (try simp only [Act.put, List.setIfInBounds_toArray, List.set_cons_zero, List.set_cons_succ])
        refine any_one 7 rfl (by kernel_rfl) (by rfl) (fun K hK => ?_)
        clear hS
        go_simp
        refine (HO.out _ (H2.out.2.2.trans (hb1.mono H2.out.2.2.size))).mono ?_
        rintro ev V2 ⟨R, d, cd, rfl, hNd, hb2x⟩
        have hb2 : Below wr2.heap.size wr2 V2 := hb1.trans (hb2x.mono hb1.size)
        have HQ2 := HQ.out V2 hb2
        clear hb2x
        refine hK.out _ _ (HQ2) (fun hS => ?_)
        clear hK
        (try simp only [Act.put, List.setIfInBounds_toArray, List.set_cons_zero, List.set_cons_succ])
        refine any_take 8 ?vnbn7 rfl (by kernel_rfl) (by kernel_rfl) (by kernel_rfl) (fun _ _ _ h => h) (by rfl) ?hnbn7 hS ?_
        case hnbn7 => (intro w hSw; (try dsimp only at hSw); go_split_ands; go_simp; (try with_reducible rfl))
        (try simp only [Act.put, List.setIfInBounds_toArray, List.set_cons_zero, List.set_cons_succ])
        refine any_take 9 ?vnbn8 rfl (by kernel_rfl) (by kernel_rfl) (by kernel_rfl) (fun _ _ _ h => h) (by rfl) ?hnbn8 hS ?_
        case hnbn8 => (intro w hSw; (try dsimp only at hSw); go_split_ands; go_simp; (try with_reducible rfl))
        (try simp only [Act.put, List.setIfInBounds_toArray, List.set_cons_zero, List.set_cons_succ])
        refine any_take 10 ?vnbn9 rfl (by kernel_rfl) (by kernel_rfl) (by kernel_rfl) (fun _ _ _ h => h) (by rfl) ?hnbn9 hS ?_
        case hnbn9 => (intro w hSw; (try dsimp only at hSw); go_split_ands; go_simp; (try with_reducible rfl))
        (try simp only [Act.put, List.setIfInBounds_toArray, List.set_cons_zero, List.set_cons_succ])
        refine any_take 11 ?vnbn10 rfl (by kernel_rfl) (by kernel_rfl) (by kernel_rfl) (fun _ _ _ h => h) (by rfl) ?hnbn10 hS ?_
        case hnbn10 => (intro w hSw; (try dsimp only at hSw); go_split_ands; go_simp; (try with_reducible rfl))
        (try simp only [Act.put, List.setIfInBounds_toArray, List.set_cons_zero, List.set_cons_succ])
        refine any_take 12 ?vnbn11 rfl (by kernel_rfl) (by kernel_rfl) (by kernel_rfl) (fun _ _ _ h => h) (by rfl) ?hnbn11 hS ?_
        case hnbn11 => (intro w hSw; (try dsimp only at hSw); go_split_ands; go_simp; (try with_reducible rfl))
        (try simp only [Act.put, List.setIfInBounds_toArray, List.set_cons_zero, List.set_cons_succ])
        refine wpAnyH_done (by kernel_rfl) ?_ _
        refine NoPanic.normal ?_
        clear hS hS0 HQ HQ1 HQ2
        have H3 : Hid (Node w V2 R (ecNew usE own 0 X) d cd own x 0 ∧ NonL w.heap.size V2 (.slice ua xl uc) xs) := ⟨hNd, H1.out.1.below (H2.out.2.1.trans (hb2.mono H2.out.2.1.size))⟩
        clear hb1 hb2 hNd cx2
        go_wp2
        go_loopw [7, 12] (fun u j wr3 => ∃ (m2 : Nat) (ys : List Nat) (s : Ec), m2 ≤ 12 ∧ m2 ≤ tl.length ∧ j = .int .i64 (m2 : Int) ∧ NonL w.heap.size wr3 u ys ∧ ys.length ≤ 12 * m + m2 ∧ (∀ n ∈ ys, Of il m n ∨ ∃ c, 1 ≤ c ∧ c ≤ m2 ∧ n = x.toNat * 4294967296 + c) ∧ Node w wr3 R s d cd own x m2) (fun _ j _ => 12 - (intOf j).toNat)
        case atStart =>
          refine ⟨0, xs, _, by omega, Nat.zero_le _, rfl, H3.out.2, by have := H1.out.2.1; omega, fun n hn => .inl (H1.out.2.2.1 n hn), H3.out.1⟩
        case round =>
          obtain ⟨m2, ys, s, hm2, hmt, rfl, hN3, hyl, hOf3, hNd⟩ := hrel
          have g2 : (0 : Int) ≤ (m2 : Int) := Int.natCast_nonneg _
          obtain ⟨va, vc, rfl⟩ := hN3.len
          obtain ⟨yl, hyln⟩ : ∃ yl, yl = ys.length := ⟨_, rfl⟩
          generalize wr = wr3 at *
          rw [← hyln] at hN3 ⊢
          have H4 : Hid (NonL w.heap.size wr3 (.slice va yl vc) ys ∧ ys.length ≤ 12 * m + m2 ∧ (∀ n ∈ ys, Of il m n ∨ ∃ c, 1 ≤ c ∧ c ≤ m2 ∧ n = x.toNat * 4294967296 + c) ∧ Node w wr3 R s d cd own x m2 ∧ yl = ys.length) := ⟨hN3, hyl, hOf3, hNd, hyln⟩
          clear hN3 hyl hOf3 hNd hyln H3
          by_cases hall : m2 < tl.length ∧ m2 < 12
          rotate_left
          · have hex : (decide ((m2 : Int) < (tl.length : Int)) = false ∧ ¬ m2 < tl.length) ∨ (decide ((m2 : Int) < (tl.length : Int)) = true ∧ m2 < tl.length ∧ decide ((m2 : Int) < 12) = false ∧ ¬ m2 < 12) := by
              by_cases hc : m2 < tl.length
              · exact .inr ⟨decide_eq_true (by omega), hc, decide_eq_false (by omega), by omega⟩
              · exact .inl ⟨decide_eq_false (by omega), hc⟩
            have HF : Hid (NonL w.heap.size wr3 (.slice va yl vc) ys ∧ ys.length ≤ 12 * (m + 1) ∧ (∀ n ∈ ys, Of il (m + 1) n) ∧ Below w.heap.size w wr3) := by
              refine ⟨H4.out.1, by have := H4.out.2.1; omega, fun n hn => ?_, H4.out.2.2.2.1.solo.bel⟩
              rcases H4.out.2.2.1 n hn with ⟨q, z, c, h5, h6, h7⟩ | ⟨c, h5, h6, h7⟩
              · exact ⟨q, z, c, by omega, h6, h7⟩
              · exact ⟨m, x, c, by omega, HX.out.2.1, h5, by omega, h7⟩
            clear hall
            rcases hex with ⟨t3, u1⟩ | ⟨t3, u1, t4, u2⟩
            all_goals (
              go_wp2
              refine ⟨⟨m + 1, ys, by omega, by omega, rfl, HF.out.1, HF.out.2.1, HF.out.2.2.1, HF.out.2.2.2⟩, ?_⟩
              simp [intOf]; omega)
          obtain ⟨p1, p2⟩ := hall
          obtain ⟨z, hz⟩ : ∃ z, tl[m2]? = some z := ⟨tl[m2], by simp [p1]⟩
          obtain ⟨tb, to_, rfl, cz⟩ := H00.out.2.2.2.2.get hz
          have cz2 : wr3.cell? ⟨tb, to_ + m2, none⟩ = some (.int .u8 (z.toNat : Int)) := by rw [H4.out.2.2.2.1.solo.bel.cell (p := ⟨tb, to_ + m2, none⟩) (World.block_lt_of_cell? w _ cz)]; exact cz
          obtain ⟨Z, hZ⟩ : ∃ Z : Int, Z = (z.toNat : Int) := ⟨_, rfl⟩
          rw [← hZ] at cz2
          obtain ⟨T, hT⟩ : ∃ T : Int, T = Z % 2 := ⟨_, rfl⟩
          have hZ0 : 0 ≤ Z := by omega
          have hT1 : Z.tmod 2 = T := by rw [hT]; exact Int.tmod_eq_emod_of_nonneg hZ0
          have wT8 : IntKind.u8.wrap T = T := by rw [IntKind.wrap_u8]; omega
          have wT : IntKind.i64.wrap T = T := by rw [IntKind.wrap_i64]; omega
          have wT1 : IntKind.i64.wrap (1 + T) = 1 + T := by rw [IntKind.wrap_i64]; omega
          obtain ⟨J, hJ⟩ : ∃ J, J = 1 + T := ⟨_, rfl⟩
          have hJ2 : 1 ≤ J ∧ J ≤ 2 := by omega
          have hNd := H4.out.2.2.2.1
          have hE : s.askE J 100 = 0 := by
            rw [Ec.askE_zero]
            refine ⟨⟨by omega, ?_, ?_, by decide⟩, by rw [hNd.ct]; omega⟩
            · rw [hNd.c]; show J < 3; omega
            · rw [hNd.i]; omega
          obtain ⟨r1, r2, r3⟩ := ask_read hNd.solo.ok hE
          obtain ⟨v1, v2, v3, v4, v5⟩ := Ec.askV_kept hE
          have hnon : s.non = x.toNat * 4294967296 + (m2 + 1) := by unfold Ec.non; rw [hNd.inc, hNd.ct]; simp
          have K4 := hNd.solo.ask J 100
          rw [hE] at K4
          have l53 : (s.askR J 100).length ≤ 53 := by
            have : s.askR J 100 = sealR (pairK s.ms s.i J) (ecPing s.i J s.non) := if_pos hE
            rw [this]
            unfold sealR
            split
            · rename_i hb
              exact (put_len _ (eseal_right hb)).2.1
            · simp
          have HR : Hid (getE (s.askR J 100) = 0 ∧ (getF (s.askR J 100)).k = 2 ∧ (getF (s.askR J 100)).n = x.toNat * 4294967296 + (m2 + 1) ∧ (s.askR J 100).length ≤ 53 ∧ (s.askV J 100).c = usE ∧ (s.askV J 100).i = 0 ∧ (s.askV J 100).inc = (x.toNat : Int) ∧ (s.askV J 100).ct = m2 + 1 ∧ (s.askV J 100).ms = own) :=
            ⟨r1, r2, r3.trans hnon, l53, v1.trans hNd.c, v2.trans hNd.i, v3.trans hNd.inc, by rw [v4, hNd.ct], v5.trans hNd.ms⟩
          have t3 : decide ((m2 : Int) < (tl.length : Int)) = true := by simp; omega
          have t4 : decide ((m2 : Int) < 12) = true := by simp; omega
          have i3 : (m2 : Int) < (tl.length : Int) := by omega
          rw [← hJ] at wT1
          have eJ : 1 + T = J := hJ.symm
          obtain ⟨b, hb⟩ : ∃ b, b = s.askR J 100 := ⟨_, rfl⟩
          obtain ⟨s2, hs2⟩ : ∃ s2, s2 = s.askV J 100 := ⟨_, rfl⟩
          rw [← hb, ← hs2] at K4 HR
          clear hz cz hZ hT hZ0 hJ hNd hE r1 r2 r3 v1 v2 v3 v4 v5 hnon l53 hJ2 hb hs2
          go_wp2_with fail
          refine K4.mono ?_
          rintro e w5 ⟨db, cb, rfl, hsb, hA5, ha5⟩
          have H5 : Hid (ESolo w w5 R s2 d cd ∧ NonL w.heap.size w5 (.slice va yl vc) ys ∧ U8Row w5 d) := ⟨hA5, H4.out.1.other H4.out.2.2.2.1.solo ha5, H4.out.2.2.2.1.row.node H4.out.2.2.2.1.solo ha5⟩
          have KG := get_any w5 db cb b hsb (by have := HR.out.2.2.2.1; omega)
          rw [HR.out.1, show ((0 : Nat) : Int) = 0 from rfl] at KG
          obtain ⟨F, hF⟩ : ∃ F, F = getF b := ⟨_, rfl⟩
          rw [← hF] at KG
          obtain ⟨nn, hnn⟩ : ∃ nn, nn = x.toNat * 4294967296 + (m2 + 1) := ⟨_, rfl⟩
          have HFF : Hid (F.k = 2 ∧ F.n = nn ∧ nn = x.toNat * 4294967296 + (m2 + 1)) := ⟨by rw [hF]; exact HR.out.2.1, by rw [hF, hnn]; exact HR.out.2.2.1, hnn⟩
          clear K4 hsb hA5 ha5 hF hnn
          go_wp2_with fail
          refine KG.mono ?_
          rintro e w6 ⟨Af, rfl, hsf, hb6⟩
          obtain ⟨W6, hst6, hF6, hb66⟩ := fbox_laid hsf
          have hbW : Below w5.heap.size w5 W6 := hb6.trans (hb66.mono hb6.size)
          have HST6 : Hid ((Instr.storeAt 40 (.pointer (some ⟨w6.heap.size, 0, none⟩)) (.agg (frC F Af))).run Tryz.prog (w6.alloc (.cells (frC Fr.zero At.zero) 40)) = .ok () W6) := hst6
          have H6 : Hid (ESolo w W6 R s2 d cd ∧ NonL w.heap.size W6 (.slice va yl vc) ys ∧ U8Row W6 d ∧ FBox W6 w6.heap.size F Af) := ⟨H5.out.1.below hbW, H5.out.2.1.below hbW, H5.out.2.2.below hbW, hF6⟩
          have f0 : W6.cell? ⟨w6.heap.size, 0, none⟩ = some (.int .i64 2) := by have := hF6.at'.c0; rw [HFF.out.1] at this; exact this
          clear KG hsf hst6 hF6 hb6 hb66 hbW H5
          go_wp2_with (first | (refine wpList_store_run rfl 40 _ _ rfl _ _ rfl rfl HST6.out ?_) | fail)
          go_loopw [17] (fun j wr4 => ∃ (q : Nat), q ≤ ys.length ∧ j = .int .i64 (q : Int) ∧ Below W6.heap.size W6 wr4) (fun j _ => ys.length - (intOf j).toNat)
          case atStart => exact ⟨0, Nat.zero_le _, rfl, Below.refl _ _⟩
          case round =>
            obtain ⟨q, hq, rfl, hB4⟩ := hrel
            generalize wr = wr4 at *
            have g3 : (0 : Int) ≤ (q : Int) := Int.natCast_nonneg _
            have f6 : wr4.cell? ⟨w6.heap.size, 6, none⟩ = some (.int .u64 (nn : Int)) := by have := (H6.out.2.2.2.below hB4).at'.c6; rw [HFF.out.2.1] at this; exact this
            have HB4 : Hid (Below W6.heap.size W6 wr4) := hB4
            clear f0
            by_cases hqy : q < ys.length
            · obtain ⟨v, hv⟩ : ∃ v, ys[q]? = some v := ⟨ys[q], by simp [hqy]⟩
              obtain ⟨gb, gc, e7, cv⟩ := (H6.out.2.1.below hB4).get hv
              rw [← H4.out.2.2.2.2] at e7
              have hvn : v ≠ nn := by
                have hX1 := HX.out
                have hmem := List.mem_of_getElem? hv
                rw [HFF.out.2.2]
                rcases H4.out.2.2.1 v hmem with ⟨q2, z2, c, h5, h6, h7, h8, h9⟩ | ⟨c, h5, h6, h7⟩
                · have hzx := HNU.out q2 z2 h5 h6
                  have : z2.toNat ≠ x.toNat := fun e => hzx (UInt8.toNat_inj.1 e)
                  have hx256 : x.toNat < 256 := x.toNat_lt
                  omega
                · omega
              have hq2 : ((v : Int) == (nn : Int)) = false := by simp; omega
              have j1 : (q : Int) < (yl : Int) := by rw [H4.out.2.2.2.2]; omega
              have q1 : decide ((q : Int) < (yl : Int)) = true := by simp; omega
              simp only [Value.slice.injEq] at e7
              obtain ⟨e8, _, e9⟩ := e7
              subst e8
              subst e9
              have hq60 : q < 100 := by have := H4.out.2.1; have := H1.out.2.2.2.2; omega
              clear hB4 hv hvn
              go_upto_region 23 with fail
              go_quiet (fail)
              obtain ⟨V4, hV4⟩ : ∃ V4, V4 = wr4.drewN nq := ⟨_, rfl⟩
              have hbV4 : Below wr4.heap.size wr4 V4 := by rw [hV4]; exact below_drewN (Below.refl _ _) nq
              rw [← hV4]
              have HBV4 : Hid (Below W6.heap.size W6 V4) := HB4.out.trans (hbV4.mono HB4.out.size)
              clear hV4 hbV4 cv f6
              go_wp2
              refine ⟨⟨q + 1, by omega, rfl, HBV4.out⟩, ?_⟩
              simp [intOf]; omega
            · have q1 : decide ((q : Int) < (yl : Int)) = false := by rw [H4.out.2.2.2.2]; simp; omega
              have nq1 : ¬ q < yl := by rw [H4.out.2.2.2.2]; exact hqy
              have hS4 := H6.out.1.below hB4
              have hN4 := H6.out.2.1.below hB4
              have hU4 := H6.out.2.2.1.below hB4
              have hlen : ys.length ≤ 1000 := by have := H4.out.2.1; have := H1.out.2.2.2.2; omega
              obtain ⟨u', W7, hrun, hN7, ha7⟩ := hN4.push hS4 hlen nn
              have HR7 : Hid ((Builtin.append_ #[75, 75] 75 #[.slice va yl vc, .slice (some ⟨wr4.heap.size, 0, none⟩) 1 1]).run Tryz.prog (wr4.alloc (.cells #[.int .u64 (nn : Int)] 38)) = .ok u' W7) := hrun
              have H7 : Hid (NonL w.heap.size W7 u' (ys ++ [nn]) ∧ (ys ++ [nn]).length ≤ 12 * m + (m2 + 1) ∧ (∀ n ∈ ys ++ [nn], Of il m n ∨ ∃ c, 1 ≤ c ∧ c ≤ m2 + 1 ∧ n = x.toNat * 4294967296 + c) ∧ Node w W7 R s2 d cd own x (m2 + 1)) := by
                refine ⟨hN7, by rw [List.length_append, List.length_singleton]; have := H4.out.2.1; omega, fun n hn => ?_, ⟨hS4.aside hN4 hU4 ha7, hU4.list hN4 ha7, HR.out.2.2.2.2.1, HR.out.2.2.2.2.2.1, HR.out.2.2.2.2.2.2.1, HR.out.2.2.2.2.2.2.2.1, HR.out.2.2.2.2.2.2.2.2⟩⟩
                rcases List.mem_append.1 hn with hn | hn
                · rcases H4.out.2.2.1 n hn with h5 | ⟨c, h5, h6, h7⟩
                  · exact .inl h5
                  · exact .inr ⟨c, h5, by omega, h7⟩
                · rw [List.mem_singleton] at hn
                  exact .inr ⟨m2 + 1, by omega, by omega, by rw [hn]; exact HFF.out.2.2⟩
              clear hB4 hS4 hN4 hU4 hlen hrun hN7 ha7
              go_wp2_with (at_builtin; refine wpList_append_run rfl _ _ 75 rfl _ _ _ rfl rfl HR7.out ?_)
              refine ⟨⟨m2 + 1, ys ++ [nn], s2, by omega, by omega, rfl, H7.out.1, H7.out.2.1, H7.out.2.2.1, H7.out.2.2.2⟩, ?_⟩
              simp [intOf]; omega
end Go.Proofs.YtahnbljbhfpldaaGreatDoor
