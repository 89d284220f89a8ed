/-
  The walk of BankEither.
-/
import Derived.Test.YtgnllmcgebonpaaBankSide
import Derived.Test.YtgnllmcgebonpaaRowSized
namespace Go.Proofs.Ytgnllmcgebonpaa
open Go.ChangeShapes Go.WideShapes Go.ChangeAt Go.RowKit

theorem seven_pure (i : Nat) (hi : i ≤ 13) : i < 4294967294 := by omega

set_option maxHeartbeats 32000000 in
set_option maxRecDepth 20000 in
theorem either_walk (a0 : Option Addr) (c0 : Nat) (LL : List (List UInt8)) (a1 : Option Addr) (c1 : Nat) (nx : List UInt8) (x2 x3 : Int) (w : World)
    (s0 : Rowss w a0 c0 LL) (h0 : ∀ l ∈ LL, l.length ≤ 140737488351232) (s1 : Sees w a1 c1 nx) (m1 : c1 ≤ 140737488351232) (w2 : (Lit.int .u8 x2).wf = true) (w3 : (Lit.int .u8 x3).wf = true) :
    Calls Try.prog 4 #[.slice a0 LL.length c0, .slice a1 nx.length c1, .int .u8 x2, .int .u8 x3] w fun e w' => e = .returned (.bool true) ∧ Below w.heap.size w w' := by
  have H0 : Hid (Rowss w a0 c0 LL ∧ ∀ l ∈ LL, l.length ≤ 140737488351232) := ⟨s0, h0⟩
  have H1 : Hid (Sees w a1 c1 nx ∧ nx.length ≤ 140737488351232) := ⟨s1, Nat.le_trans s1.fits m1⟩
  have l0 := s0.len
  have b2 := bounds_u8 w2
  have b3 := bounds_u8 w3
  clear s0 s1 h0 m1 w2 w3
  have hn : Calls Try.prog 6 #[.int .i64 200] w _ := new_held w 200 (by omega)
  go_enter Try.func4, Try.ntmps4
  go_wp2_with fail
  refine hn.mono ?_
  rintro e w1 ⟨g, rfl, hh⟩
  have hb : Calls Try.prog 11 #[.pointer (some ⟨g, 0, none⟩), .int .i64 3, .int .i64 6] w1 _ := bnew_solo hh 3 6 (by unfold mayB newS; simp) (by simp [newS])
  clear hn hh
  go_wp2_with fail
  refine hb.mono ?_
  rintro e w2 ⟨b, rfl, hs⟩
  clear hb
  have HS0 : Hid (Solo w w2 b g 3 6 (newS 200)) := hs
  clear hs
  go_wp2
  go_loopw [13, 14, 15] (fun o hd u wr => ∃ (k : Nat) (D : List UInt8) (s : PS) (ha : Bool), k ≤ 12 ∧ o = .string ⟨D.toArray⟩ ∧ hd = .bool ha ∧ ha = decide (0 < k) ∧ u = .int .i64 (k : Int) ∧ Calm s 3 6 k D ∧ s.n ≤ 3 * k ∧ Solo w wr b g 3 6 s) (fun _ _ u _ => 12 - (intOf u).toNat)
  case atStart => exact ⟨0, [], newS 200, false, by omega, rfl, rfl, rfl, rfl, calm_new 200 3 6 (by omega), by simp [newS], HS0.out⟩
  case round =>
    obtain ⟨k, D, s, ha, hk, rfl, rfl, hak, rfl, hcalm, hsn, hso⟩ := hrel
    have HAK : Hid (ha = decide (0 < k)) := hak
    clear hak
    have g0 : (0 : Int) ≤ (k : Int) := Int.natCast_nonneg _
    have HC : Hid (Calm s 3 6 k D ∧ s.n ≤ 3 * k) := ⟨hcalm, hsn⟩
    have HSO : Hid (Solo w wr b g 3 6 s) := hso
    clear hcalm hsn hso HS0
    by_cases hall : k < LL.length ∧ k < 12
    · obtain ⟨k1, k2⟩ := hall
      obtain ⟨l, hl⟩ : ∃ l, LL[k]? = some l := ⟨LL[k], by simp [k1]⟩
      obtain ⟨lb, lo, rfl, x, cx, cl, hx⟩ := H0.out.1.at' k l hl
      have hll := H0.out.2 l (List.mem_of_getElem? hl)
      have cl2 : (wr.alloc (.cells #[] 5)).cell? ⟨lb, lo + k, none⟩ = some (.slice x l.length cx) := by
        have hb9 : Below w.heap.size w (wr.alloc (.cells #[] 5)) := HSO.out.low.alloc HSO.out.low.size _
        rw [hb9.cell (p := ⟨lb, lo + k, none⟩) (World.block_lt_of_cell? w _ cl)]; exact cl
      obtain ⟨v1, wb, d, cd, wc, X, hX, r1, r2, hsX, hd, h6, hXc, hc9, hbc⟩ := twice_run wr x cx l (hx.below HSO.out.low) hll 0
      rw [show (((0 : UInt8).toNat : Nat) : Int) = 0 from rfl] at r2
      have R1 : Hid ((Builtin.append_ #[22, 22] 22 #[.slice (some ⟨wr.heap.size, 0, none⟩) 0 0, .slice x l.length cx]).run Try.prog (wr.alloc (.cells #[] 5)) = .ok v1 wb) := r1
      have R2 : Hid ((Builtin.append_ #[22, 22] 22 #[v1, .slice (some ⟨wb.heap.size, 0, none⟩) 6 6]).run Try.prog (wb.alloc (.cells #[.int .u8 0, .int .u8 0, .int .u8 0, .int .u8 0, .int .u8 0, .int .u8 0] 5)) = .ok (.slice (some ⟨d, 0, none⟩) X.length cd) wc) := r2
      have HSD : Hid (Side w wc b g 3 6 s (some ⟨d, 0, none⟩) cd X) := Side.of HSO.out hbc hsX (fun bb off he _ => by simp only [Option.some.injEq, Addr.mk.injEq] at he; omega)
      obtain ⟨L, hL⟩ : ∃ L, L = X.length := ⟨_, rfl⟩
      obtain ⟨l6, hl6⟩ : ∃ l6, l6 = X.take 6 := ⟨_, rfl⟩
      have hl6l : l6.length = 6 := by rw [hl6]; simp; omega
      obtain ⟨S, hS⟩ : ∃ S, S = saveS s 3 6 l6 := ⟨_, rfl⟩
      have hcs := calm_save HC.out.1 (seven_pure k (by omega)) hl6l
      have ksv := save_side HSD.out (by have := HC.out.2; omega) 6 (by omega) l6 hl6 0 hcs.1.symm S hS
      rw [show ((0 : Nat) : Int) = 0 from rfl] at ksv
      have HCS : Hid (Calm S 3 6 (k + 1) l6 ∧ S.n ≤ 3 * (k + 1)) := ⟨by rw [hS]; exact hcs.2, by rw [hS]; have := save_n s 3 6 l6; have := HC.out.2; omega⟩
      have HL6 : Hid (l6 = X.take 6 ∧ l6.length = 6) := ⟨hl6, hl6l⟩
      rw [← hL] at R2 h6 hXc
      have t1 : decide ((k : Int) < (LL.length : Int)) = true := by simp; omega
      have t2 : decide ((k : Int) < 12) = true := by simp; omega
      have i1 : (k : Int) < (LL.length : Int) := by omega
      have q1 : (6 : Int) ≤ (cd : Int) := by omega
      have q2 : (6 : Int) ≤ (L : Int) := by omega
      clear hl cl hx hll hX r1 r2 hsX hd hbc hL hl6 hl6l hcs hS HC HSO HSD H0 H1
      go_wp2_with (first | (at_builtin; refine wpList_append_run rfl _ _ 22 rfl _ _ _ rfl rfl R1.out ?_; clear R1) | (at_builtin; refine wpList_append_run rfl _ _ 22 rfl _ _ _ rfl rfl R2.out ?_))
      refine ksv.mono ?_
      rintro e wd ⟨rfl, hsd⟩
      have HSO2 : Hid (Solo w wd b g 3 6 S) := hsd.solo
      have cv := (hsd.sees.take 6).convert (P := Try.prog) 22 5 9 Try.underlying22 Try.underlying5 Try.underlying9
      rw [← HL6.out.1, HL6.out.2] at cv
      clear ksv hsd R2
      go_wp2
      go_roundw
      case rel => exact ⟨k + 1, l6, S, true, by omega, rfl, rfl, by simp, by go_num, HCS.out.1, HCS.out.2, HSO2.out⟩
      case measure => simp [intOf]; omega
    · have HK : Hid (k ≤ 12) := hk
      have t : ¬ k < LL.length ∨ (k < LL.length ∧ ¬ k < 12) := by omega
      clear hall
      rcases t with t | ⟨t, t'⟩
      · skip
        have f1 : decide ((k : Int) < (LL.length : Int)) = false := by simp; omega
        obtain ⟨v1, wb, d, cd, wc, X, hX, r1, r2, hsX, hd, h6, hXc, hc9, hbc⟩ := twice_run wr a1 c1 nx (H1.out.1.below HSO.out.low) H1.out.2 1
        rw [show (((1 : UInt8).toNat : Nat) : Int) = 1 from rfl] at r2
        have R1 : Hid ((Builtin.append_ #[22, 22] 22 #[.slice (some ⟨wr.heap.size, 0, none⟩) 0 0, .slice a1 nx.length c1]).run Try.prog (wr.alloc (.cells #[] 5)) = .ok v1 wb) := r1
        have R2 : Hid ((Builtin.append_ #[22, 22] 22 #[v1, .slice (some ⟨wb.heap.size, 0, none⟩) 6 6]).run Try.prog (wb.alloc (.cells #[.int .u8 1, .int .u8 1, .int .u8 1, .int .u8 1, .int .u8 1, .int .u8 1] 5)) = .ok (.slice (some ⟨d, 0, none⟩) X.length cd) wc) := r2
        have HSD : Hid (Side w wc b g 3 6 s (some ⟨d, 0, none⟩) cd X) := Side.of HSO.out hbc hsX (fun bb off he _ => by simp only [Option.some.injEq, Addr.mk.injEq] at he; omega)
        obtain ⟨L, hL⟩ : ∃ L, L = X.length := ⟨_, rfl⟩
        obtain ⟨l6, hl6⟩ : ∃ l6, l6 = X.take 6 := ⟨_, rfl⟩
        have hl6l : l6.length = 6 := by rw [hl6]; simp; omega
        obtain ⟨K, hK⟩ : ∃ K : Nat, K = x2.toNat % 4 := ⟨_, rfl⟩
        have m1 : x2.tmod 4 = (K : Int) := by rw [Int.tmod_eq_emod_of_nonneg (by omega)]; omega
        have m2 : x2 % 4 = (K : Int) := by omega
        have m3 : IntKind.u8.wrap (K : Int) = (K : Int) := by rw [IntKind.wrap_u8]; omega
        have m4 : IntKind.i64.wrap (K : Int) = (K : Int) := by rw [IntKind.wrap_i64]; omega
        have m5 : IntKind.i64.wrap x3 = x3 := by rw [IntKind.wrap_i64]; omega
        have hK4 : K < 4 := by omega
        obtain ⟨s1, hs1⟩ : ∃ s1, s1 = tearS s K x3 := ⟨_, rfl⟩
        have hs1b : s1.b = s.b ∧ s1.dead = s.dead := by rw [hs1]; exact tear_b s K x3
        have hs1n : s1.n = s.n := by rw [hs1, tear_n]
        have kt := tear_side HSD.out (K : Int) x3 (wf_i64 _ (by omega) (by omega)) (wf_i64 _ (by omega) (by omega))
        rw [← hs1] at kt
        obtain ⟨s2, hs2⟩ : ∃ s2, s2 = saveS s1 3 6 l6 := ⟨_, rfl⟩
        obtain ⟨E, hE⟩ : ∃ E, E = saveE s1 3 6 l6 := ⟨_, rfl⟩
        have hki := HK.out
        have hct := calm_torn HC.out.1 (seven_pure k (by omega)) hl6l hs1b.1 (by rw [hs1b.2]; exact HC.out.1.dead)
        rw [← hs2, ← hE] at hct
        have KSV : Hid (∀ W, Side w W b g 3 6 s1 (some ⟨d, 0, none⟩) cd X → Calls Try.prog 15 #[.pointer (some ⟨b, 0, none⟩), .slice (some ⟨d, 0, none⟩) 6 cd] W fun e w' => e = .returned (.int .i64 (E : Int)) ∧ Side w w' b g 3 6 s2 (some ⟨d, 0, none⟩) cd X) := fun W hW => save_side hW (by have := HC.out.2; omega) 6 (by omega) l6 hl6 E hE s2 hs2
        have hn2 : s2.n ≤ 100 := by rw [hs2]; have := save_n s1 3 6 l6; have := HC.out.2; omega
        have HL6 : Hid (l6 = X.take 6 ∧ l6.length = 6) := ⟨hl6, hl6l⟩
        obtain ⟨s3, hs3⟩ : ∃ s3, s3 = wakeS s2 := ⟨_, rfl⟩
        rw [← hs3] at hct
        have hn3 : s3.n ≤ 100 := by rw [hs3, wake_n]; exact hn2
        have HW3 : Hid (s3 = wakeS s2) := hs3
        rw [← hL] at R2 h6 hXc
        have q1 : (6 : Int) ≤ (cd : Int) := by omega
        have q2 : (6 : Int) ≤ (L : Int) := by omega
        have hct2 : (Calm s3 3 6 (k + 1) l6) ∨ (k = 0 ∧ ¬ E = 0 ∧ Calm s3 3 6 0 D) ∨ (0 < k ∧ ¬ E = 0 ∧ Calm s3 3 6 k D) := by
          rcases hct with h | ⟨h, h2⟩
          · exact .inl h
          · rcases Nat.eq_zero_or_pos k with rfl | h3
            · exact .inr (.inl ⟨rfl, h, h2⟩)
            · exact .inr (.inr ⟨h3, h, h2⟩)
        clear hX r1 r2 hsX hd hbc hL hl6 hl6l hK hs1 hs1b hs1n hs2 hE hct hn2 hs3 HC HSO H0 H1
        rcases hct2 with hc | ⟨hk0, hE0, hc⟩ | ⟨hkp, hE0, hc⟩
        · rcases Nat.eq_zero_or_pos k with hk0 | hkp
          · obtain rfl : ha = false := by rw [HAK.out]; simp; omega
            clear hk0 HAK
            by_cases hE0 : E = 0
            · subst hE0
              have HCM : Hid (Calm s3 3 6 (k + 1) l6) := hc
              have hR : Hid (l6 = loadL s3 3 6) := by rcases hc.told with ⟨h, _⟩ | ⟨_, _, h⟩; omega; exact h.symm
              have hH : Hid (0 = loadE s3 3 6) := by rcases hc.told with ⟨h, _⟩ | ⟨_, h, _⟩; omega; exact h.symm
              clear hc
              go_wp2_with (first | (at_builtin; refine wpList_append_run rfl _ _ 22 rfl _ _ _ rfl rfl R1.out ?_; clear R1) | (at_builtin; refine wpList_append_run rfl _ _ 22 rfl _ _ _ rfl rfl R2.out ?_))
              refine kt.mono ?_
              rintro e wd ⟨⟨vd, rfl⟩, hsd⟩
              have ksv := KSV.out wd hsd
              rw [show ((0 : Nat) : Int) = 0 from rfl] at ksv
              clear kt hsd R2 HSD KSV
              go_wp2_with fail
              refine ksv.mono ?_
              rintro e we ⟨rfl, hse⟩
              have kwk := wake_side hse
              rw [← HW3.out] at kwk
              clear ksv hse HW3
              go_wp2_with fail
              refine kwk.mono ?_
              rintro e wf ⟨⟨vf, rfl⟩, hsf⟩
              have HSF : Hid (Side w wf b g 3 6 s3 (some ⟨d, 0, none⟩) cd X) := hsf
              clear kwk hsf
              have kld := load_solo HSF.out.solo l6 0 hR.out hH.out
              rw [show ((0 : Nat) : Int) = 0 from rfl] at kld
              clear hR hH
              go_wp2_with fail
              refine kld.mono ?_
              rintro e wg ⟨d5, cd5, rfl, hs5, hb5⟩
              have HSG : Hid (Side w wg b g 3 6 s3 (some ⟨d, 0, none⟩) cd X) := HSF.out.next hb5
              have cv1 : ∀ n, (Go.convert 22 9 (.slice d5 l6.length cd5)).run Try.prog (wg.drewN n) = .ok (.string ⟨l6.toArray⟩) (wg.drewN n) := fun n => (hs5.drewN n).convert (P := Try.prog) 22 5 9 Try.underlying22 Try.underlying5 Try.underlying9
              have cv2 : ∀ n, (Go.convert 22 9 (.slice (some ⟨d, 0, none⟩) 6 cd)).run Try.prog (wg.drewN n) = .ok (.string ⟨l6.toArray⟩) (wg.drewN n) := fun n => by
                have h9 := ((HSG.out.sees.take 6).drewN n).convert (P := Try.prog) 22 5 9 Try.underlying22 Try.underlying5 Try.underlying9
                rwa [← HL6.out.1, HL6.out.2] at h9
              have cv0 : (Go.convert 22 9 (.slice d5 l6.length cd5)).run Try.prog wg = .ok (.string ⟨l6.toArray⟩) wg := hs5.convert (P := Try.prog) 22 5 9 Try.underlying22 Try.underlying5 Try.underlying9
              clear kld hb5 HSF hs5
              go_wp2_with fail
              go_quiet (fail)
              obtain ⟨W, hW⟩ : ∃ W, W = wg.drewN nq := ⟨_, rfl⟩
              have HSW : Hid (Solo w W b g 3 6 s3) := by rw [hW]; exact HSG.out.solo.next (below_drewN (Below.refl _ _) _)
              rw [← hW]
              clear hW HSG cv0 cv1 cv2
              obtain ⟨S4, hS4⟩ : ∃ S4, S4 = saveS s3 3 6 [7, 7, 7, 7, 7, 7] := ⟨_, rfl⟩
              have hcs := calm_save HCM.out (l := [7, 7, 7, 7, 7, 7]) (seven_pure _ (by omega)) rfl
              rw [← hS4] at hcs
              have HC4 : Hid (6 = ([7, 7, 7, 7, 7, 7] : List UInt8).length ∧ 0 = loadE S4 3 6 ∧ [7, 7, 7, 7, 7, 7] = loadL S4 3 6) := by
                rcases hcs.2.told with ⟨h, _⟩ | ⟨_, h1, h2⟩
                · omega
                · exact ⟨rfl, h1.symm, h2.symm⟩
              have k7 : Calls Try.prog 15 #[.pointer (some ⟨b, 0, none⟩), .slice (some ⟨W.heap.size, 0, none⟩) 6 6] (W.alloc (.cells #[.int .u8 7, .int .u8 7, .int .u8 7, .int .u8 7, .int .u8 7, .int .u8 7] 5)) _ :=
                save_solo HSW.out ((Below.refl _ _).alloc (Nat.le_refl _) _) (by omega) (some ⟨W.heap.size, 0, none⟩) 6 [7, 7, 7, 7, 7, 7] (sees_lit W [7, 7, 7, 7, 7, 7] 5 (0, 0) (by simp)) (fun bb off he _ => by simp only [Option.some.injEq, Addr.mk.injEq] at he; omega) 0 hcs.1.symm S4 hS4
              rw [show ((0 : Nat) : Int) = 0 from rfl] at k7
              clear hS4 hcs HCM
              go_wp2_with fail
              refine k7.mono ?_
              rintro e wi ⟨rfl, hsi, _⟩
              have kl7 : Calls Try.prog 19 #[.pointer (some ⟨b, 0, none⟩)] wi _ := load_solo hsi [7, 7, 7, 7, 7, 7] 0 HC4.out.2.2 HC4.out.2.1
              rw [show ((0 : Nat) : Int) = 0 from rfl, show ([7, 7, 7, 7, 7, 7] : List UInt8).length = 6 from rfl] at kl7
              have HBI : Hid (Below w.heap.size w wi) := hsi.low
              clear k7 hsi HSW HC4
              go_wp2_with fail
              refine kl7.mono ?_
              rintro e wj ⟨d7, cd7, rfl, hs7, hb7⟩
              have HBJ : Hid (Below w.heap.size w wj) := HBI.out.trans (hb7.mono HBI.out.size)
              have cv7 : (Go.convert 22 9 (.slice d7 6 cd7)).run Try.prog wj = .ok (.string ⟨([7, 7, 7, 7, 7, 7] : List UInt8).toArray⟩) wj := hs7.convert (P := Try.prog) 22 5 9 Try.underlying22 Try.underlying5 Try.underlying9
              have cv8 : (Go.convert 22 9 (.slice (some ⟨wj.heap.size, 0, none⟩) 6 6)).run Try.prog (wj.alloc (.cells #[.int .u8 7, .int .u8 7, .int .u8 7, .int .u8 7, .int .u8 7, .int .u8 7] 5)) = .ok (.string ⟨([7, 7, 7, 7, 7, 7] : List UInt8).toArray⟩) (wj.alloc (.cells #[.int .u8 7, .int .u8 7, .int .u8 7, .int .u8 7, .int .u8 7, .int .u8 7] 5)) := (sees_lit wj [7, 7, 7, 7, 7, 7] 5 (0, 0) (by simp)).convert (P := Try.prog) 22 5 9 Try.underlying22 Try.underlying5 Try.underlying9
              clear kl7 hs7 hb7 HBI
              go_wp2_with fail
              refine (awake_ok _).mono ?_
              rintro e wz ⟨rfl, hbz⟩
              have HE : Hid (Below w.heap.size w wz) := by
                have h9 := HBJ.out.alloc HBJ.out.size (.cells #[.int .u8 7, .int .u8 7, .int .u8 7, .int .u8 7, .int .u8 7, .int .u8 7] 5)
                exact h9.trans (hbz.mono h9.size)
              clear hbz HBJ cv7 cv8
              go_wp2
              go_ret
              exact ⟨rfl, HE.out⟩
            · have dE : ((E : Int) == 0) = false := by simp; omega
              have dE2 : ¬ (E : Int) = 0 := by omega
              have HCM : Hid (Calm s3 3 6 (k + 1) l6) := hc
              have hR : Hid (l6 = loadL s3 3 6) := by rcases hc.told with ⟨h, _⟩ | ⟨_, _, h⟩; omega; exact h.symm
              have hH : Hid (0 = loadE s3 3 6) := by rcases hc.told with ⟨h, _⟩ | ⟨_, h, _⟩; omega; exact h.symm
              clear hc
              go_wp2_with (first | (at_builtin; refine wpList_append_run rfl _ _ 22 rfl _ _ _ rfl rfl R1.out ?_; clear R1) | (at_builtin; refine wpList_append_run rfl _ _ 22 rfl _ _ _ rfl rfl R2.out ?_))
              refine kt.mono ?_
              rintro e wd ⟨⟨vd, rfl⟩, hsd⟩
              have ksv := KSV.out wd hsd
              clear kt hsd R2 HSD KSV
              go_wp2_with fail
              refine ksv.mono ?_
              rintro e we ⟨rfl, hse⟩
              have kwk := wake_side hse
              rw [← HW3.out] at kwk
              clear ksv hse HW3
              go_wp2_with fail
              refine kwk.mono ?_
              rintro e wf ⟨⟨vf, rfl⟩, hsf⟩
              have HSF : Hid (Side w wf b g 3 6 s3 (some ⟨d, 0, none⟩) cd X) := hsf
              clear kwk hsf
              have kld := load_solo HSF.out.solo l6 0 hR.out hH.out
              rw [show ((0 : Nat) : Int) = 0 from rfl] at kld
              clear hR hH
              go_wp2_with fail
              refine kld.mono ?_
              rintro e wg ⟨d5, cd5, rfl, hs5, hb5⟩
              have HSG : Hid (Side w wg b g 3 6 s3 (some ⟨d, 0, none⟩) cd X) := HSF.out.next hb5
              have cv1 : ∀ n, (Go.convert 22 9 (.slice d5 l6.length cd5)).run Try.prog (wg.drewN n) = .ok (.string ⟨l6.toArray⟩) (wg.drewN n) := fun n => (hs5.drewN n).convert (P := Try.prog) 22 5 9 Try.underlying22 Try.underlying5 Try.underlying9
              have cv2 : ∀ n, (Go.convert 22 9 (.slice (some ⟨d, 0, none⟩) 6 cd)).run Try.prog (wg.drewN n) = .ok (.string ⟨l6.toArray⟩) (wg.drewN n) := fun n => by
                have h9 := ((HSG.out.sees.take 6).drewN n).convert (P := Try.prog) 22 5 9 Try.underlying22 Try.underlying5 Try.underlying9
                rwa [← HL6.out.1, HL6.out.2] at h9
              have cv0 : (Go.convert 22 9 (.slice d5 l6.length cd5)).run Try.prog wg = .ok (.string ⟨l6.toArray⟩) wg := hs5.convert (P := Try.prog) 22 5 9 Try.underlying22 Try.underlying5 Try.underlying9
              clear kld hb5 HSF hs5
              go_wp2_with fail
              go_quiet (fail)
              obtain ⟨W, hW⟩ : ∃ W, W = wg.drewN nq := ⟨_, rfl⟩
              have HSW : Hid (Solo w W b g 3 6 s3) := by rw [hW]; exact HSG.out.solo.next (below_drewN (Below.refl _ _) _)
              rw [← hW]
              clear hW HSG cv0 cv1 cv2
              obtain ⟨S4, hS4⟩ : ∃ S4, S4 = saveS s3 3 6 [7, 7, 7, 7, 7, 7] := ⟨_, rfl⟩
              have hcs := calm_save HCM.out (l := [7, 7, 7, 7, 7, 7]) (seven_pure _ (by omega)) rfl
              rw [← hS4] at hcs
              have HC4 : Hid (6 = ([7, 7, 7, 7, 7, 7] : List UInt8).length ∧ 0 = loadE S4 3 6 ∧ [7, 7, 7, 7, 7, 7] = loadL S4 3 6) := by
                rcases hcs.2.told with ⟨h, _⟩ | ⟨_, h1, h2⟩
                · omega
                · exact ⟨rfl, h1.symm, h2.symm⟩
              have k7 : Calls Try.prog 15 #[.pointer (some ⟨b, 0, none⟩), .slice (some ⟨W.heap.size, 0, none⟩) 6 6] (W.alloc (.cells #[.int .u8 7, .int .u8 7, .int .u8 7, .int .u8 7, .int .u8 7, .int .u8 7] 5)) _ :=
                save_solo HSW.out ((Below.refl _ _).alloc (Nat.le_refl _) _) (by omega) (some ⟨W.heap.size, 0, none⟩) 6 [7, 7, 7, 7, 7, 7] (sees_lit W [7, 7, 7, 7, 7, 7] 5 (0, 0) (by simp)) (fun bb off he _ => by simp only [Option.some.injEq, Addr.mk.injEq] at he; omega) 0 hcs.1.symm S4 hS4
              rw [show ((0 : Nat) : Int) = 0 from rfl] at k7
              clear hS4 hcs HCM
              go_wp2_with fail
              refine k7.mono ?_
              rintro e wi ⟨rfl, hsi, _⟩
              have kl7 : Calls Try.prog 19 #[.pointer (some ⟨b, 0, none⟩)] wi _ := load_solo hsi [7, 7, 7, 7, 7, 7] 0 HC4.out.2.2 HC4.out.2.1
              rw [show ((0 : Nat) : Int) = 0 from rfl, show ([7, 7, 7, 7, 7, 7] : List UInt8).length = 6 from rfl] at kl7
              have HBI : Hid (Below w.heap.size w wi) := hsi.low
              clear k7 hsi HSW HC4
              go_wp2_with fail
              refine kl7.mono ?_
              rintro e wj ⟨d7, cd7, rfl, hs7, hb7⟩
              have HBJ : Hid (Below w.heap.size w wj) := HBI.out.trans (hb7.mono HBI.out.size)
              have cv7 : (Go.convert 22 9 (.slice d7 6 cd7)).run Try.prog wj = .ok (.string ⟨([7, 7, 7, 7, 7, 7] : List UInt8).toArray⟩) wj := hs7.convert (P := Try.prog) 22 5 9 Try.underlying22 Try.underlying5 Try.underlying9
              have cv8 : (Go.convert 22 9 (.slice (some ⟨wj.heap.size, 0, none⟩) 6 6)).run Try.prog (wj.alloc (.cells #[.int .u8 7, .int .u8 7, .int .u8 7, .int .u8 7, .int .u8 7, .int .u8 7] 5)) = .ok (.string ⟨([7, 7, 7, 7, 7, 7] : List UInt8).toArray⟩) (wj.alloc (.cells #[.int .u8 7, .int .u8 7, .int .u8 7, .int .u8 7, .int .u8 7, .int .u8 7] 5)) := (sees_lit wj [7, 7, 7, 7, 7, 7] 5 (0, 0) (by simp)).convert (P := Try.prog) 22 5 9 Try.underlying22 Try.underlying5 Try.underlying9
              clear kl7 hs7 hb7 HBI
              go_wp2_with fail
              refine (awake_ok _).mono ?_
              rintro e wz ⟨rfl, hbz⟩
              have HE : Hid (Below w.heap.size w wz) := by
                have h9 := HBJ.out.alloc HBJ.out.size (.cells #[.int .u8 7, .int .u8 7, .int .u8 7, .int .u8 7, .int .u8 7, .int .u8 7] 5)
                exact h9.trans (hbz.mono h9.size)
              clear hbz HBJ cv7 cv8
              go_wp2
              go_ret
              exact ⟨rfl, HE.out⟩
          · obtain rfl : ha = true := by rw [HAK.out]; simp; omega
            clear HAK
            by_cases hRD : l6 = D
            · subst hRD
              by_cases hE0 : E = 0
              · subst hE0
                have HCM : Hid (Calm s3 3 6 (k + 1) l6) := hc
                have hR : Hid (l6 = loadL s3 3 6) := by rcases hc.told with ⟨h, _⟩ | ⟨_, _, h⟩; omega; exact h.symm
                have hH : Hid (0 = loadE s3 3 6) := by rcases hc.told with ⟨h, _⟩ | ⟨_, h, _⟩; omega; exact h.symm
                clear hc
                go_wp2_with (first | (at_builtin; refine wpList_append_run rfl _ _ 22 rfl _ _ _ rfl rfl R1.out ?_; clear R1) | (at_builtin; refine wpList_append_run rfl _ _ 22 rfl _ _ _ rfl rfl R2.out ?_))
                refine kt.mono ?_
                rintro e wd ⟨⟨vd, rfl⟩, hsd⟩
                have ksv := KSV.out wd hsd
                rw [show ((0 : Nat) : Int) = 0 from rfl] at ksv
                clear kt hsd R2 HSD KSV
                go_wp2_with fail
                refine ksv.mono ?_
                rintro e we ⟨rfl, hse⟩
                have kwk := wake_side hse
                rw [← HW3.out] at kwk
                clear ksv hse HW3
                go_wp2_with fail
                refine kwk.mono ?_
                rintro e wf ⟨⟨vf, rfl⟩, hsf⟩
                have HSF : Hid (Side w wf b g 3 6 s3 (some ⟨d, 0, none⟩) cd X) := hsf
                clear kwk hsf
                have kld := load_solo HSF.out.solo l6 0 hR.out hH.out
                rw [show ((0 : Nat) : Int) = 0 from rfl] at kld
                clear hR hH
                go_wp2_with fail
                refine kld.mono ?_
                rintro e wg ⟨d5, cd5, rfl, hs5, hb5⟩
                have HSG : Hid (Side w wg b g 3 6 s3 (some ⟨d, 0, none⟩) cd X) := HSF.out.next hb5
                have cv1 : ∀ n, (Go.convert 22 9 (.slice d5 l6.length cd5)).run Try.prog (wg.drewN n) = .ok (.string ⟨l6.toArray⟩) (wg.drewN n) := fun n => (hs5.drewN n).convert (P := Try.prog) 22 5 9 Try.underlying22 Try.underlying5 Try.underlying9
                have cv2 : ∀ n, (Go.convert 22 9 (.slice (some ⟨d, 0, none⟩) 6 cd)).run Try.prog (wg.drewN n) = .ok (.string ⟨l6.toArray⟩) (wg.drewN n) := fun n => by
                  have h9 := ((HSG.out.sees.take 6).drewN n).convert (P := Try.prog) 22 5 9 Try.underlying22 Try.underlying5 Try.underlying9
                  rwa [← HL6.out.1, HL6.out.2] at h9
                have cv0 : (Go.convert 22 9 (.slice d5 l6.length cd5)).run Try.prog wg = .ok (.string ⟨l6.toArray⟩) wg := hs5.convert (P := Try.prog) 22 5 9 Try.underlying22 Try.underlying5 Try.underlying9
                clear kld hb5 HSF hs5
                go_wp2_with fail
                go_quiet (fail)
                obtain ⟨W, hW⟩ : ∃ W, W = wg.drewN nq := ⟨_, rfl⟩
                have HSW : Hid (Solo w W b g 3 6 s3) := by rw [hW]; exact HSG.out.solo.next (below_drewN (Below.refl _ _) _)
                rw [← hW]
                clear hW HSG cv0 cv1 cv2
                obtain ⟨S4, hS4⟩ : ∃ S4, S4 = saveS s3 3 6 [7, 7, 7, 7, 7, 7] := ⟨_, rfl⟩
                have hcs := calm_save HCM.out (l := [7, 7, 7, 7, 7, 7]) (seven_pure _ (by omega)) rfl
                rw [← hS4] at hcs
                have HC4 : Hid (6 = ([7, 7, 7, 7, 7, 7] : List UInt8).length ∧ 0 = loadE S4 3 6 ∧ [7, 7, 7, 7, 7, 7] = loadL S4 3 6) := by
                  rcases hcs.2.told with ⟨h, _⟩ | ⟨_, h1, h2⟩
                  · omega
                  · exact ⟨rfl, h1.symm, h2.symm⟩
                have k7 : Calls Try.prog 15 #[.pointer (some ⟨b, 0, none⟩), .slice (some ⟨W.heap.size, 0, none⟩) 6 6] (W.alloc (.cells #[.int .u8 7, .int .u8 7, .int .u8 7, .int .u8 7, .int .u8 7, .int .u8 7] 5)) _ :=
                  save_solo HSW.out ((Below.refl _ _).alloc (Nat.le_refl _) _) (by omega) (some ⟨W.heap.size, 0, none⟩) 6 [7, 7, 7, 7, 7, 7] (sees_lit W [7, 7, 7, 7, 7, 7] 5 (0, 0) (by simp)) (fun bb off he _ => by simp only [Option.some.injEq, Addr.mk.injEq] at he; omega) 0 hcs.1.symm S4 hS4
                rw [show ((0 : Nat) : Int) = 0 from rfl] at k7
                clear hS4 hcs HCM
                go_wp2_with fail
                refine k7.mono ?_
                rintro e wi ⟨rfl, hsi, _⟩
                have kl7 : Calls Try.prog 19 #[.pointer (some ⟨b, 0, none⟩)] wi _ := load_solo hsi [7, 7, 7, 7, 7, 7] 0 HC4.out.2.2 HC4.out.2.1
                rw [show ((0 : Nat) : Int) = 0 from rfl, show ([7, 7, 7, 7, 7, 7] : List UInt8).length = 6 from rfl] at kl7
                have HBI : Hid (Below w.heap.size w wi) := hsi.low
                clear k7 hsi HSW HC4
                go_wp2_with fail
                refine kl7.mono ?_
                rintro e wj ⟨d7, cd7, rfl, hs7, hb7⟩
                have HBJ : Hid (Below w.heap.size w wj) := HBI.out.trans (hb7.mono HBI.out.size)
                have cv7 : (Go.convert 22 9 (.slice d7 6 cd7)).run Try.prog wj = .ok (.string ⟨([7, 7, 7, 7, 7, 7] : List UInt8).toArray⟩) wj := hs7.convert (P := Try.prog) 22 5 9 Try.underlying22 Try.underlying5 Try.underlying9
                have cv8 : (Go.convert 22 9 (.slice (some ⟨wj.heap.size, 0, none⟩) 6 6)).run Try.prog (wj.alloc (.cells #[.int .u8 7, .int .u8 7, .int .u8 7, .int .u8 7, .int .u8 7, .int .u8 7] 5)) = .ok (.string ⟨([7, 7, 7, 7, 7, 7] : List UInt8).toArray⟩) (wj.alloc (.cells #[.int .u8 7, .int .u8 7, .int .u8 7, .int .u8 7, .int .u8 7, .int .u8 7] 5)) := (sees_lit wj [7, 7, 7, 7, 7, 7] 5 (0, 0) (by simp)).convert (P := Try.prog) 22 5 9 Try.underlying22 Try.underlying5 Try.underlying9
                clear kl7 hs7 hb7 HBI
                go_wp2_with fail
                refine (awake_ok _).mono ?_
                rintro e wz ⟨rfl, hbz⟩
                have HE : Hid (Below w.heap.size w wz) := by
                  have h9 := HBJ.out.alloc HBJ.out.size (.cells #[.int .u8 7, .int .u8 7, .int .u8 7, .int .u8 7, .int .u8 7, .int .u8 7] 5)
                  exact h9.trans (hbz.mono h9.size)
                clear hbz HBJ cv7 cv8
                go_wp2
                go_ret
                exact ⟨rfl, HE.out⟩
              · have dE : ((E : Int) == 0) = false := by simp; omega
                have dE2 : ¬ (E : Int) = 0 := by omega
                have HCM : Hid (Calm s3 3 6 (k + 1) l6) := hc
                have hR : Hid (l6 = loadL s3 3 6) := by rcases hc.told with ⟨h, _⟩ | ⟨_, _, h⟩; omega; exact h.symm
                have hH : Hid (0 = loadE s3 3 6) := by rcases hc.told with ⟨h, _⟩ | ⟨_, h, _⟩; omega; exact h.symm
                clear hc
                go_wp2_with (first | (at_builtin; refine wpList_append_run rfl _ _ 22 rfl _ _ _ rfl rfl R1.out ?_; clear R1) | (at_builtin; refine wpList_append_run rfl _ _ 22 rfl _ _ _ rfl rfl R2.out ?_))
                refine kt.mono ?_
                rintro e wd ⟨⟨vd, rfl⟩, hsd⟩
                have ksv := KSV.out wd hsd
                clear kt hsd R2 HSD KSV
                go_wp2_with fail
                refine ksv.mono ?_
                rintro e we ⟨rfl, hse⟩
                have kwk := wake_side hse
                rw [← HW3.out] at kwk
                clear ksv hse HW3
                go_wp2_with fail
                refine kwk.mono ?_
                rintro e wf ⟨⟨vf, rfl⟩, hsf⟩
                have HSF : Hid (Side w wf b g 3 6 s3 (some ⟨d, 0, none⟩) cd X) := hsf
                clear kwk hsf
                have kld := load_solo HSF.out.solo l6 0 hR.out hH.out
                rw [show ((0 : Nat) : Int) = 0 from rfl] at kld
                clear hR hH
                go_wp2_with fail
                refine kld.mono ?_
                rintro e wg ⟨d5, cd5, rfl, hs5, hb5⟩
                have HSG : Hid (Side w wg b g 3 6 s3 (some ⟨d, 0, none⟩) cd X) := HSF.out.next hb5
                have cv1 : ∀ n, (Go.convert 22 9 (.slice d5 l6.length cd5)).run Try.prog (wg.drewN n) = .ok (.string ⟨l6.toArray⟩) (wg.drewN n) := fun n => (hs5.drewN n).convert (P := Try.prog) 22 5 9 Try.underlying22 Try.underlying5 Try.underlying9
                have cv2 : ∀ n, (Go.convert 22 9 (.slice (some ⟨d, 0, none⟩) 6 cd)).run Try.prog (wg.drewN n) = .ok (.string ⟨l6.toArray⟩) (wg.drewN n) := fun n => by
                  have h9 := ((HSG.out.sees.take 6).drewN n).convert (P := Try.prog) 22 5 9 Try.underlying22 Try.underlying5 Try.underlying9
                  rwa [← HL6.out.1, HL6.out.2] at h9
                have cv0 : (Go.convert 22 9 (.slice d5 l6.length cd5)).run Try.prog wg = .ok (.string ⟨l6.toArray⟩) wg := hs5.convert (P := Try.prog) 22 5 9 Try.underlying22 Try.underlying5 Try.underlying9
                clear kld hb5 HSF hs5
                go_wp2_with fail
                go_quiet (fail)
                obtain ⟨W, hW⟩ : ∃ W, W = wg.drewN nq := ⟨_, rfl⟩
                have HSW : Hid (Solo w W b g 3 6 s3) := by rw [hW]; exact HSG.out.solo.next (below_drewN (Below.refl _ _) _)
                rw [← hW]
                clear hW HSG cv0 cv1 cv2
                obtain ⟨S4, hS4⟩ : ∃ S4, S4 = saveS s3 3 6 [7, 7, 7, 7, 7, 7] := ⟨_, rfl⟩
                have hcs := calm_save HCM.out (l := [7, 7, 7, 7, 7, 7]) (seven_pure _ (by omega)) rfl
                rw [← hS4] at hcs
                have HC4 : Hid (6 = ([7, 7, 7, 7, 7, 7] : List UInt8).length ∧ 0 = loadE S4 3 6 ∧ [7, 7, 7, 7, 7, 7] = loadL S4 3 6) := by
                  rcases hcs.2.told with ⟨h, _⟩ | ⟨_, h1, h2⟩
                  · omega
                  · exact ⟨rfl, h1.symm, h2.symm⟩
                have k7 : Calls Try.prog 15 #[.pointer (some ⟨b, 0, none⟩), .slice (some ⟨W.heap.size, 0, none⟩) 6 6] (W.alloc (.cells #[.int .u8 7, .int .u8 7, .int .u8 7, .int .u8 7, .int .u8 7, .int .u8 7] 5)) _ :=
                  save_solo HSW.out ((Below.refl _ _).alloc (Nat.le_refl _) _) (by omega) (some ⟨W.heap.size, 0, none⟩) 6 [7, 7, 7, 7, 7, 7] (sees_lit W [7, 7, 7, 7, 7, 7] 5 (0, 0) (by simp)) (fun bb off he _ => by simp only [Option.some.injEq, Addr.mk.injEq] at he; omega) 0 hcs.1.symm S4 hS4
                rw [show ((0 : Nat) : Int) = 0 from rfl] at k7
                clear hS4 hcs HCM
                go_wp2_with fail
                refine k7.mono ?_
                rintro e wi ⟨rfl, hsi, _⟩
                have kl7 : Calls Try.prog 19 #[.pointer (some ⟨b, 0, none⟩)] wi _ := load_solo hsi [7, 7, 7, 7, 7, 7] 0 HC4.out.2.2 HC4.out.2.1
                rw [show ((0 : Nat) : Int) = 0 from rfl, show ([7, 7, 7, 7, 7, 7] : List UInt8).length = 6 from rfl] at kl7
                have HBI : Hid (Below w.heap.size w wi) := hsi.low
                clear k7 hsi HSW HC4
                go_wp2_with fail
                refine kl7.mono ?_
                rintro e wj ⟨d7, cd7, rfl, hs7, hb7⟩
                have HBJ : Hid (Below w.heap.size w wj) := HBI.out.trans (hb7.mono HBI.out.size)
                have cv7 : (Go.convert 22 9 (.slice d7 6 cd7)).run Try.prog wj = .ok (.string ⟨([7, 7, 7, 7, 7, 7] : List UInt8).toArray⟩) wj := hs7.convert (P := Try.prog) 22 5 9 Try.underlying22 Try.underlying5 Try.underlying9
                have cv8 : (Go.convert 22 9 (.slice (some ⟨wj.heap.size, 0, none⟩) 6 6)).run Try.prog (wj.alloc (.cells #[.int .u8 7, .int .u8 7, .int .u8 7, .int .u8 7, .int .u8 7, .int .u8 7] 5)) = .ok (.string ⟨([7, 7, 7, 7, 7, 7] : List UInt8).toArray⟩) (wj.alloc (.cells #[.int .u8 7, .int .u8 7, .int .u8 7, .int .u8 7, .int .u8 7, .int .u8 7] 5)) := (sees_lit wj [7, 7, 7, 7, 7, 7] 5 (0, 0) (by simp)).convert (P := Try.prog) 22 5 9 Try.underlying22 Try.underlying5 Try.underlying9
                clear kl7 hs7 hb7 HBI
                go_wp2_with fail
                refine (awake_ok _).mono ?_
                rintro e wz ⟨rfl, hbz⟩
                have HE : Hid (Below w.heap.size w wz) := by
                  have h9 := HBJ.out.alloc HBJ.out.size (.cells #[.int .u8 7, .int .u8 7, .int .u8 7, .int .u8 7, .int .u8 7, .int .u8 7] 5)
                  exact h9.trans (hbz.mono h9.size)
                clear hbz HBJ cv7 cv8
                go_wp2
                go_ret
                exact ⟨rfl, HE.out⟩
            · skip
              by_cases hE0 : E = 0
              · subst hE0
                have HCM : Hid (Calm s3 3 6 (k + 1) l6) := hc
                have hR : Hid (l6 = loadL s3 3 6) := by rcases hc.told with ⟨h, _⟩ | ⟨_, _, h⟩; omega; exact h.symm
                have hH : Hid (0 = loadE s3 3 6) := by rcases hc.told with ⟨h, _⟩ | ⟨_, h, _⟩; omega; exact h.symm
                clear hc
                go_wp2_with (first | (at_builtin; refine wpList_append_run rfl _ _ 22 rfl _ _ _ rfl rfl R1.out ?_; clear R1) | (at_builtin; refine wpList_append_run rfl _ _ 22 rfl _ _ _ rfl rfl R2.out ?_))
                refine kt.mono ?_
                rintro e wd ⟨⟨vd, rfl⟩, hsd⟩
                have ksv := KSV.out wd hsd
                rw [show ((0 : Nat) : Int) = 0 from rfl] at ksv
                clear kt hsd R2 HSD KSV
                go_wp2_with fail
                refine ksv.mono ?_
                rintro e we ⟨rfl, hse⟩
                have kwk := wake_side hse
                rw [← HW3.out] at kwk
                clear ksv hse HW3
                go_wp2_with fail
                refine kwk.mono ?_
                rintro e wf ⟨⟨vf, rfl⟩, hsf⟩
                have HSF : Hid (Side w wf b g 3 6 s3 (some ⟨d, 0, none⟩) cd X) := hsf
                clear kwk hsf
                have kld := load_solo HSF.out.solo l6 0 hR.out hH.out
                rw [show ((0 : Nat) : Int) = 0 from rfl] at kld
                clear hR hH
                go_wp2_with fail
                refine kld.mono ?_
                rintro e wg ⟨d5, cd5, rfl, hs5, hb5⟩
                have HSG : Hid (Side w wg b g 3 6 s3 (some ⟨d, 0, none⟩) cd X) := HSF.out.next hb5
                have cv1 : ∀ n, (Go.convert 22 9 (.slice d5 l6.length cd5)).run Try.prog (wg.drewN n) = .ok (.string ⟨l6.toArray⟩) (wg.drewN n) := fun n => (hs5.drewN n).convert (P := Try.prog) 22 5 9 Try.underlying22 Try.underlying5 Try.underlying9
                have cv2 : ∀ n, (Go.convert 22 9 (.slice (some ⟨d, 0, none⟩) 6 cd)).run Try.prog (wg.drewN n) = .ok (.string ⟨l6.toArray⟩) (wg.drewN n) := fun n => by
                  have h9 := ((HSG.out.sees.take 6).drewN n).convert (P := Try.prog) 22 5 9 Try.underlying22 Try.underlying5 Try.underlying9
                  rwa [← HL6.out.1, HL6.out.2] at h9
                have cv0 : (Go.convert 22 9 (.slice d5 l6.length cd5)).run Try.prog wg = .ok (.string ⟨l6.toArray⟩) wg := hs5.convert (P := Try.prog) 22 5 9 Try.underlying22 Try.underlying5 Try.underlying9
                clear kld hb5 HSF hs5
                go_wp2_with fail
                go_quiet (fail)
                obtain ⟨W, hW⟩ : ∃ W, W = wg.drewN nq := ⟨_, rfl⟩
                have HSW : Hid (Solo w W b g 3 6 s3) := by rw [hW]; exact HSG.out.solo.next (below_drewN (Below.refl _ _) _)
                rw [← hW]
                clear hW HSG cv0 cv1 cv2
                obtain ⟨S4, hS4⟩ : ∃ S4, S4 = saveS s3 3 6 [7, 7, 7, 7, 7, 7] := ⟨_, rfl⟩
                have hcs := calm_save HCM.out (l := [7, 7, 7, 7, 7, 7]) (seven_pure _ (by omega)) rfl
                rw [← hS4] at hcs
                have HC4 : Hid (6 = ([7, 7, 7, 7, 7, 7] : List UInt8).length ∧ 0 = loadE S4 3 6 ∧ [7, 7, 7, 7, 7, 7] = loadL S4 3 6) := by
                  rcases hcs.2.told with ⟨h, _⟩ | ⟨_, h1, h2⟩
                  · omega
                  · exact ⟨rfl, h1.symm, h2.symm⟩
                have k7 : Calls Try.prog 15 #[.pointer (some ⟨b, 0, none⟩), .slice (some ⟨W.heap.size, 0, none⟩) 6 6] (W.alloc (.cells #[.int .u8 7, .int .u8 7, .int .u8 7, .int .u8 7, .int .u8 7, .int .u8 7] 5)) _ :=
                  save_solo HSW.out ((Below.refl _ _).alloc (Nat.le_refl _) _) (by omega) (some ⟨W.heap.size, 0, none⟩) 6 [7, 7, 7, 7, 7, 7] (sees_lit W [7, 7, 7, 7, 7, 7] 5 (0, 0) (by simp)) (fun bb off he _ => by simp only [Option.some.injEq, Addr.mk.injEq] at he; omega) 0 hcs.1.symm S4 hS4
                rw [show ((0 : Nat) : Int) = 0 from rfl] at k7
                clear hS4 hcs HCM
                go_wp2_with fail
                refine k7.mono ?_
                rintro e wi ⟨rfl, hsi, _⟩
                have kl7 : Calls Try.prog 19 #[.pointer (some ⟨b, 0, none⟩)] wi _ := load_solo hsi [7, 7, 7, 7, 7, 7] 0 HC4.out.2.2 HC4.out.2.1
                rw [show ((0 : Nat) : Int) = 0 from rfl, show ([7, 7, 7, 7, 7, 7] : List UInt8).length = 6 from rfl] at kl7
                have HBI : Hid (Below w.heap.size w wi) := hsi.low
                clear k7 hsi HSW HC4
                go_wp2_with fail
                refine kl7.mono ?_
                rintro e wj ⟨d7, cd7, rfl, hs7, hb7⟩
                have HBJ : Hid (Below w.heap.size w wj) := HBI.out.trans (hb7.mono HBI.out.size)
                have cv7 : (Go.convert 22 9 (.slice d7 6 cd7)).run Try.prog wj = .ok (.string ⟨([7, 7, 7, 7, 7, 7] : List UInt8).toArray⟩) wj := hs7.convert (P := Try.prog) 22 5 9 Try.underlying22 Try.underlying5 Try.underlying9
                have cv8 : (Go.convert 22 9 (.slice (some ⟨wj.heap.size, 0, none⟩) 6 6)).run Try.prog (wj.alloc (.cells #[.int .u8 7, .int .u8 7, .int .u8 7, .int .u8 7, .int .u8 7, .int .u8 7] 5)) = .ok (.string ⟨([7, 7, 7, 7, 7, 7] : List UInt8).toArray⟩) (wj.alloc (.cells #[.int .u8 7, .int .u8 7, .int .u8 7, .int .u8 7, .int .u8 7, .int .u8 7] 5)) := (sees_lit wj [7, 7, 7, 7, 7, 7] 5 (0, 0) (by simp)).convert (P := Try.prog) 22 5 9 Try.underlying22 Try.underlying5 Try.underlying9
                clear kl7 hs7 hb7 HBI
                go_wp2_with fail
                refine (awake_ok _).mono ?_
                rintro e wz ⟨rfl, hbz⟩
                have HE : Hid (Below w.heap.size w wz) := by
                  have h9 := HBJ.out.alloc HBJ.out.size (.cells #[.int .u8 7, .int .u8 7, .int .u8 7, .int .u8 7, .int .u8 7, .int .u8 7] 5)
                  exact h9.trans (hbz.mono h9.size)
                clear hbz HBJ cv7 cv8
                go_wp2
                go_ret
                exact ⟨rfl, HE.out⟩
              · have dE : ((E : Int) == 0) = false := by simp; omega
                have dE2 : ¬ (E : Int) = 0 := by omega
                have HCM : Hid (Calm s3 3 6 (k + 1) l6) := hc
                have hR : Hid (l6 = loadL s3 3 6) := by rcases hc.told with ⟨h, _⟩ | ⟨_, _, h⟩; omega; exact h.symm
                have hH : Hid (0 = loadE s3 3 6) := by rcases hc.told with ⟨h, _⟩ | ⟨_, h, _⟩; omega; exact h.symm
                clear hc
                go_wp2_with (first | (at_builtin; refine wpList_append_run rfl _ _ 22 rfl _ _ _ rfl rfl R1.out ?_; clear R1) | (at_builtin; refine wpList_append_run rfl _ _ 22 rfl _ _ _ rfl rfl R2.out ?_))
                refine kt.mono ?_
                rintro e wd ⟨⟨vd, rfl⟩, hsd⟩
                have ksv := KSV.out wd hsd
                clear kt hsd R2 HSD KSV
                go_wp2_with fail
                refine ksv.mono ?_
                rintro e we ⟨rfl, hse⟩
                have kwk := wake_side hse
                rw [← HW3.out] at kwk
                clear ksv hse HW3
                go_wp2_with fail
                refine kwk.mono ?_
                rintro e wf ⟨⟨vf, rfl⟩, hsf⟩
                have HSF : Hid (Side w wf b g 3 6 s3 (some ⟨d, 0, none⟩) cd X) := hsf
                clear kwk hsf
                have kld := load_solo HSF.out.solo l6 0 hR.out hH.out
                rw [show ((0 : Nat) : Int) = 0 from rfl] at kld
                clear hR hH
                go_wp2_with fail
                refine kld.mono ?_
                rintro e wg ⟨d5, cd5, rfl, hs5, hb5⟩
                have HSG : Hid (Side w wg b g 3 6 s3 (some ⟨d, 0, none⟩) cd X) := HSF.out.next hb5
                have cv1 : ∀ n, (Go.convert 22 9 (.slice d5 l6.length cd5)).run Try.prog (wg.drewN n) = .ok (.string ⟨l6.toArray⟩) (wg.drewN n) := fun n => (hs5.drewN n).convert (P := Try.prog) 22 5 9 Try.underlying22 Try.underlying5 Try.underlying9
                have cv2 : ∀ n, (Go.convert 22 9 (.slice (some ⟨d, 0, none⟩) 6 cd)).run Try.prog (wg.drewN n) = .ok (.string ⟨l6.toArray⟩) (wg.drewN n) := fun n => by
                  have h9 := ((HSG.out.sees.take 6).drewN n).convert (P := Try.prog) 22 5 9 Try.underlying22 Try.underlying5 Try.underlying9
                  rwa [← HL6.out.1, HL6.out.2] at h9
                have cv0 : (Go.convert 22 9 (.slice d5 l6.length cd5)).run Try.prog wg = .ok (.string ⟨l6.toArray⟩) wg := hs5.convert (P := Try.prog) 22 5 9 Try.underlying22 Try.underlying5 Try.underlying9
                clear kld hb5 HSF hs5
                go_wp2_with fail
                go_quiet (fail)
                obtain ⟨W, hW⟩ : ∃ W, W = wg.drewN nq := ⟨_, rfl⟩
                have HSW : Hid (Solo w W b g 3 6 s3) := by rw [hW]; exact HSG.out.solo.next (below_drewN (Below.refl _ _) _)
                rw [← hW]
                clear hW HSG cv0 cv1 cv2
                obtain ⟨S4, hS4⟩ : ∃ S4, S4 = saveS s3 3 6 [7, 7, 7, 7, 7, 7] := ⟨_, rfl⟩
                have hcs := calm_save HCM.out (l := [7, 7, 7, 7, 7, 7]) (seven_pure _ (by omega)) rfl
                rw [← hS4] at hcs
                have HC4 : Hid (6 = ([7, 7, 7, 7, 7, 7] : List UInt8).length ∧ 0 = loadE S4 3 6 ∧ [7, 7, 7, 7, 7, 7] = loadL S4 3 6) := by
                  rcases hcs.2.told with ⟨h, _⟩ | ⟨_, h1, h2⟩
                  · omega
                  · exact ⟨rfl, h1.symm, h2.symm⟩
                have k7 : Calls Try.prog 15 #[.pointer (some ⟨b, 0, none⟩), .slice (some ⟨W.heap.size, 0, none⟩) 6 6] (W.alloc (.cells #[.int .u8 7, .int .u8 7, .int .u8 7, .int .u8 7, .int .u8 7, .int .u8 7] 5)) _ :=
                  save_solo HSW.out ((Below.refl _ _).alloc (Nat.le_refl _) _) (by omega) (some ⟨W.heap.size, 0, none⟩) 6 [7, 7, 7, 7, 7, 7] (sees_lit W [7, 7, 7, 7, 7, 7] 5 (0, 0) (by simp)) (fun bb off he _ => by simp only [Option.some.injEq, Addr.mk.injEq] at he; omega) 0 hcs.1.symm S4 hS4
                rw [show ((0 : Nat) : Int) = 0 from rfl] at k7
                clear hS4 hcs HCM
                go_wp2_with fail
                refine k7.mono ?_
                rintro e wi ⟨rfl, hsi, _⟩
                have kl7 : Calls Try.prog 19 #[.pointer (some ⟨b, 0, none⟩)] wi _ := load_solo hsi [7, 7, 7, 7, 7, 7] 0 HC4.out.2.2 HC4.out.2.1
                rw [show ((0 : Nat) : Int) = 0 from rfl, show ([7, 7, 7, 7, 7, 7] : List UInt8).length = 6 from rfl] at kl7
                have HBI : Hid (Below w.heap.size w wi) := hsi.low
                clear k7 hsi HSW HC4
                go_wp2_with fail
                refine kl7.mono ?_
                rintro e wj ⟨d7, cd7, rfl, hs7, hb7⟩
                have HBJ : Hid (Below w.heap.size w wj) := HBI.out.trans (hb7.mono HBI.out.size)
                have cv7 : (Go.convert 22 9 (.slice d7 6 cd7)).run Try.prog wj = .ok (.string ⟨([7, 7, 7, 7, 7, 7] : List UInt8).toArray⟩) wj := hs7.convert (P := Try.prog) 22 5 9 Try.underlying22 Try.underlying5 Try.underlying9
                have cv8 : (Go.convert 22 9 (.slice (some ⟨wj.heap.size, 0, none⟩) 6 6)).run Try.prog (wj.alloc (.cells #[.int .u8 7, .int .u8 7, .int .u8 7, .int .u8 7, .int .u8 7, .int .u8 7] 5)) = .ok (.string ⟨([7, 7, 7, 7, 7, 7] : List UInt8).toArray⟩) (wj.alloc (.cells #[.int .u8 7, .int .u8 7, .int .u8 7, .int .u8 7, .int .u8 7, .int .u8 7] 5)) := (sees_lit wj [7, 7, 7, 7, 7, 7] 5 (0, 0) (by simp)).convert (P := Try.prog) 22 5 9 Try.underlying22 Try.underlying5 Try.underlying9
                clear kl7 hs7 hb7 HBI
                go_wp2_with fail
                refine (awake_ok _).mono ?_
                rintro e wz ⟨rfl, hbz⟩
                have HE : Hid (Below w.heap.size w wz) := by
                  have h9 := HBJ.out.alloc HBJ.out.size (.cells #[.int .u8 7, .int .u8 7, .int .u8 7, .int .u8 7, .int .u8 7, .int .u8 7] 5)
                  exact h9.trans (hbz.mono h9.size)
                clear hbz HBJ cv7 cv8
                go_wp2
                go_ret
                exact ⟨rfl, HE.out⟩
        · obtain rfl : ha = false := by rw [HAK.out]; simp; omega
          clear hk0 HAK
          have dE : ((E : Int) == 0) = false := by simp; omega
          have dE2 : ¬ (E : Int) = 0 := by omega
          have HCM : Hid (Calm s3 3 6 0 D) := hc
          have hR : Hid ([] = loadL s3 3 6) := by
            rcases hc.told with ⟨_, h, _⟩ | ⟨h, _⟩
            · rw [loadL, if_neg (by simp [hc.dead]), h]; exact (rfl : ([] : List UInt8) = [])
            · omega
          have hH : Hid (8 = loadE s3 3 6) := by
            rcases hc.told with ⟨_, h, _⟩ | ⟨h, _⟩
            · rw [loadE, if_neg (by simp [hc.dead]), h]; exact (rfl : 8 = 8)
            · omega
          have HFR : Hid (true = freshB s3 3 6) := by
            rcases hc.told with ⟨_, _, h⟩ | ⟨h, _⟩
            · exact h.symm
            · omega
          clear hc
          go_wp2_with (first | (at_builtin; refine wpList_append_run rfl _ _ 22 rfl _ _ _ rfl rfl R1.out ?_; clear R1) | (at_builtin; refine wpList_append_run rfl _ _ 22 rfl _ _ _ rfl rfl R2.out ?_))
          refine kt.mono ?_
          rintro e wd ⟨⟨vd, rfl⟩, hsd⟩
          have ksv := KSV.out wd hsd
          clear kt hsd R2 HSD KSV
          go_wp2_with fail
          refine ksv.mono ?_
          rintro e we ⟨rfl, hse⟩
          have kwk := wake_side hse
          rw [← HW3.out] at kwk
          clear ksv hse HW3
          go_wp2_with fail
          refine kwk.mono ?_
          rintro e wf ⟨⟨vf, rfl⟩, hsf⟩
          have HSF : Hid (Side w wf b g 3 6 s3 (some ⟨d, 0, none⟩) cd X) := hsf
          clear kwk hsf
          have kld := load_solo HSF.out.solo [] 8 hR.out hH.out
          rw [show ((8 : Nat) : Int) = 8 from rfl] at kld
          rw [show ([] : List UInt8).length = 0 from rfl] at kld
          clear hR hH
          go_wp2_with fail
          refine kld.mono ?_
          rintro e wg ⟨d5, cd5, rfl, hs5, hb5⟩
          have HSG : Hid (Side w wg b g 3 6 s3 (some ⟨d, 0, none⟩) cd X) := HSF.out.next hb5
          have cv1 : ∀ n, (Go.convert 22 9 (.slice d5 0 cd5)).run Try.prog (wg.drewN n) = .ok (.string ⟨([] : List UInt8).toArray⟩) (wg.drewN n) := fun n => (hs5.drewN n).convert (P := Try.prog) 22 5 9 Try.underlying22 Try.underlying5 Try.underlying9
          have cv2 : ∀ n, (Go.convert 22 9 (.slice (some ⟨d, 0, none⟩) 6 cd)).run Try.prog (wg.drewN n) = .ok (.string ⟨l6.toArray⟩) (wg.drewN n) := fun n => by
            have h9 := ((HSG.out.sees.take 6).drewN n).convert (P := Try.prog) 22 5 9 Try.underlying22 Try.underlying5 Try.underlying9
            rwa [← HL6.out.1, HL6.out.2] at h9
          have cv0 : (Go.convert 22 9 (.slice d5 0 cd5)).run Try.prog wg = .ok (.string ⟨([] : List UInt8).toArray⟩) wg := hs5.convert (P := Try.prog) 22 5 9 Try.underlying22 Try.underlying5 Try.underlying9
          clear kld hb5 HSF hs5
          have kfr := fresh_solo HSG.out.solo true HFR.out
          clear HFR
          go_wp2_with fail
          refine kfr.mono ?_
          rintro e wh ⟨rfl, hbh⟩
          have HSH : Hid (Solo w wh b g 3 6 s3) := HSG.out.solo.next hbh
          clear kfr hbh HSG cv0 cv1 cv2
          go_wp2
          go_quiet (fail)
          obtain ⟨W, hW⟩ : ∃ W, W = wh.drewN nq := ⟨_, rfl⟩
          have HSW : Hid (Solo w W b g 3 6 s3) := by rw [hW]; exact HSH.out.next (below_drewN (Below.refl _ _) _)
          rw [← hW]
          clear hW HSH
          obtain ⟨S4, hS4⟩ : ∃ S4, S4 = saveS s3 3 6 [7, 7, 7, 7, 7, 7] := ⟨_, rfl⟩
          have hcs := calm_save HCM.out (l := [7, 7, 7, 7, 7, 7]) (seven_pure _ (by omega)) rfl
          rw [← hS4] at hcs
          have HC4 : Hid (6 = ([7, 7, 7, 7, 7, 7] : List UInt8).length ∧ 0 = loadE S4 3 6 ∧ [7, 7, 7, 7, 7, 7] = loadL S4 3 6) := by
            rcases hcs.2.told with ⟨h, _⟩ | ⟨_, h1, h2⟩
            · omega
            · exact ⟨rfl, h1.symm, h2.symm⟩
          have k7 : Calls Try.prog 15 #[.pointer (some ⟨b, 0, none⟩), .slice (some ⟨W.heap.size, 0, none⟩) 6 6] (W.alloc (.cells #[.int .u8 7, .int .u8 7, .int .u8 7, .int .u8 7, .int .u8 7, .int .u8 7] 5)) _ :=
            save_solo HSW.out ((Below.refl _ _).alloc (Nat.le_refl _) _) (by omega) (some ⟨W.heap.size, 0, none⟩) 6 [7, 7, 7, 7, 7, 7] (sees_lit W [7, 7, 7, 7, 7, 7] 5 (0, 0) (by simp)) (fun bb off he _ => by simp only [Option.some.injEq, Addr.mk.injEq] at he; omega) 0 hcs.1.symm S4 hS4
          rw [show ((0 : Nat) : Int) = 0 from rfl] at k7
          clear hS4 hcs HCM
          go_wp2_with fail
          refine k7.mono ?_
          rintro e wi ⟨rfl, hsi, _⟩
          have kl7 : Calls Try.prog 19 #[.pointer (some ⟨b, 0, none⟩)] wi _ := load_solo hsi [7, 7, 7, 7, 7, 7] 0 HC4.out.2.2 HC4.out.2.1
          rw [show ((0 : Nat) : Int) = 0 from rfl, show ([7, 7, 7, 7, 7, 7] : List UInt8).length = 6 from rfl] at kl7
          have HBI : Hid (Below w.heap.size w wi) := hsi.low
          clear k7 hsi HSW HC4
          go_wp2_with fail
          refine kl7.mono ?_
          rintro e wj ⟨d7, cd7, rfl, hs7, hb7⟩
          have HBJ : Hid (Below w.heap.size w wj) := HBI.out.trans (hb7.mono HBI.out.size)
          have cv7 : (Go.convert 22 9 (.slice d7 6 cd7)).run Try.prog wj = .ok (.string ⟨([7, 7, 7, 7, 7, 7] : List UInt8).toArray⟩) wj := hs7.convert (P := Try.prog) 22 5 9 Try.underlying22 Try.underlying5 Try.underlying9
          have cv8 : (Go.convert 22 9 (.slice (some ⟨wj.heap.size, 0, none⟩) 6 6)).run Try.prog (wj.alloc (.cells #[.int .u8 7, .int .u8 7, .int .u8 7, .int .u8 7, .int .u8 7, .int .u8 7] 5)) = .ok (.string ⟨([7, 7, 7, 7, 7, 7] : List UInt8).toArray⟩) (wj.alloc (.cells #[.int .u8 7, .int .u8 7, .int .u8 7, .int .u8 7, .int .u8 7, .int .u8 7] 5)) := (sees_lit wj [7, 7, 7, 7, 7, 7] 5 (0, 0) (by simp)).convert (P := Try.prog) 22 5 9 Try.underlying22 Try.underlying5 Try.underlying9
          clear kl7 hs7 hb7 HBI
          go_wp2_with fail
          refine (awake_ok _).mono ?_
          rintro e wz ⟨rfl, hbz⟩
          have HE : Hid (Below w.heap.size w wz) := by
            have h9 := HBJ.out.alloc HBJ.out.size (.cells #[.int .u8 7, .int .u8 7, .int .u8 7, .int .u8 7, .int .u8 7, .int .u8 7] 5)
            exact h9.trans (hbz.mono h9.size)
          clear hbz HBJ cv7 cv8
          go_wp2
          go_ret
          exact ⟨rfl, HE.out⟩
        · obtain rfl : ha = true := by rw [HAK.out]; simp; omega
          clear HAK
          have dE : ((E : Int) == 0) = false := by simp; omega
          have dE2 : ¬ (E : Int) = 0 := by omega
          by_cases hRD : l6 = D
          · subst hRD
            have HCM : Hid (Calm s3 3 6 k l6) := hc
            have hR : Hid (l6 = loadL s3 3 6) := by rcases hc.told with ⟨h, _⟩ | ⟨_, _, h⟩; omega; exact h.symm
            have hH : Hid (0 = loadE s3 3 6) := by rcases hc.told with ⟨h, _⟩ | ⟨_, h, _⟩; omega; exact h.symm
            clear hc
            go_wp2_with (first | (at_builtin; refine wpList_append_run rfl _ _ 22 rfl _ _ _ rfl rfl R1.out ?_; clear R1) | (at_builtin; refine wpList_append_run rfl _ _ 22 rfl _ _ _ rfl rfl R2.out ?_))
            refine kt.mono ?_
            rintro e wd ⟨⟨vd, rfl⟩, hsd⟩
            have ksv := KSV.out wd hsd
            clear kt hsd R2 HSD KSV
            go_wp2_with fail
            refine ksv.mono ?_
            rintro e we ⟨rfl, hse⟩
            have kwk := wake_side hse
            rw [← HW3.out] at kwk
            clear ksv hse HW3
            go_wp2_with fail
            refine kwk.mono ?_
            rintro e wf ⟨⟨vf, rfl⟩, hsf⟩
            have HSF : Hid (Side w wf b g 3 6 s3 (some ⟨d, 0, none⟩) cd X) := hsf
            clear kwk hsf
            have kld := load_solo HSF.out.solo l6 0 hR.out hH.out
            rw [show ((0 : Nat) : Int) = 0 from rfl] at kld
            clear hR hH
            go_wp2_with fail
            refine kld.mono ?_
            rintro e wg ⟨d5, cd5, rfl, hs5, hb5⟩
            have HSG : Hid (Side w wg b g 3 6 s3 (some ⟨d, 0, none⟩) cd X) := HSF.out.next hb5
            have cv1 : ∀ n, (Go.convert 22 9 (.slice d5 l6.length cd5)).run Try.prog (wg.drewN n) = .ok (.string ⟨l6.toArray⟩) (wg.drewN n) := fun n => (hs5.drewN n).convert (P := Try.prog) 22 5 9 Try.underlying22 Try.underlying5 Try.underlying9
            have cv2 : ∀ n, (Go.convert 22 9 (.slice (some ⟨d, 0, none⟩) 6 cd)).run Try.prog (wg.drewN n) = .ok (.string ⟨l6.toArray⟩) (wg.drewN n) := fun n => by
              have h9 := ((HSG.out.sees.take 6).drewN n).convert (P := Try.prog) 22 5 9 Try.underlying22 Try.underlying5 Try.underlying9
              rwa [← HL6.out.1, HL6.out.2] at h9
            have cv0 : (Go.convert 22 9 (.slice d5 l6.length cd5)).run Try.prog wg = .ok (.string ⟨l6.toArray⟩) wg := hs5.convert (P := Try.prog) 22 5 9 Try.underlying22 Try.underlying5 Try.underlying9
            clear kld hb5 HSF hs5
            go_wp2_with fail
            go_quiet (fail)
            obtain ⟨W, hW⟩ : ∃ W, W = wg.drewN nq := ⟨_, rfl⟩
            have HSW : Hid (Solo w W b g 3 6 s3) := by rw [hW]; exact HSG.out.solo.next (below_drewN (Below.refl _ _) _)
            rw [← hW]
            clear hW HSG cv0 cv1 cv2
            obtain ⟨S4, hS4⟩ : ∃ S4, S4 = saveS s3 3 6 [7, 7, 7, 7, 7, 7] := ⟨_, rfl⟩
            have hcs := calm_save HCM.out (l := [7, 7, 7, 7, 7, 7]) (seven_pure _ (by omega)) rfl
            rw [← hS4] at hcs
            have HC4 : Hid (6 = ([7, 7, 7, 7, 7, 7] : List UInt8).length ∧ 0 = loadE S4 3 6 ∧ [7, 7, 7, 7, 7, 7] = loadL S4 3 6) := by
              rcases hcs.2.told with ⟨h, _⟩ | ⟨_, h1, h2⟩
              · omega
              · exact ⟨rfl, h1.symm, h2.symm⟩
            have k7 : Calls Try.prog 15 #[.pointer (some ⟨b, 0, none⟩), .slice (some ⟨W.heap.size, 0, none⟩) 6 6] (W.alloc (.cells #[.int .u8 7, .int .u8 7, .int .u8 7, .int .u8 7, .int .u8 7, .int .u8 7] 5)) _ :=
              save_solo HSW.out ((Below.refl _ _).alloc (Nat.le_refl _) _) (by omega) (some ⟨W.heap.size, 0, none⟩) 6 [7, 7, 7, 7, 7, 7] (sees_lit W [7, 7, 7, 7, 7, 7] 5 (0, 0) (by simp)) (fun bb off he _ => by simp only [Option.some.injEq, Addr.mk.injEq] at he; omega) 0 hcs.1.symm S4 hS4
            rw [show ((0 : Nat) : Int) = 0 from rfl] at k7
            clear hS4 hcs HCM
            go_wp2_with fail
            refine k7.mono ?_
            rintro e wi ⟨rfl, hsi, _⟩
            have kl7 : Calls Try.prog 19 #[.pointer (some ⟨b, 0, none⟩)] wi _ := load_solo hsi [7, 7, 7, 7, 7, 7] 0 HC4.out.2.2 HC4.out.2.1
            rw [show ((0 : Nat) : Int) = 0 from rfl, show ([7, 7, 7, 7, 7, 7] : List UInt8).length = 6 from rfl] at kl7
            have HBI : Hid (Below w.heap.size w wi) := hsi.low
            clear k7 hsi HSW HC4
            go_wp2_with fail
            refine kl7.mono ?_
            rintro e wj ⟨d7, cd7, rfl, hs7, hb7⟩
            have HBJ : Hid (Below w.heap.size w wj) := HBI.out.trans (hb7.mono HBI.out.size)
            have cv7 : (Go.convert 22 9 (.slice d7 6 cd7)).run Try.prog wj = .ok (.string ⟨([7, 7, 7, 7, 7, 7] : List UInt8).toArray⟩) wj := hs7.convert (P := Try.prog) 22 5 9 Try.underlying22 Try.underlying5 Try.underlying9
            have cv8 : (Go.convert 22 9 (.slice (some ⟨wj.heap.size, 0, none⟩) 6 6)).run Try.prog (wj.alloc (.cells #[.int .u8 7, .int .u8 7, .int .u8 7, .int .u8 7, .int .u8 7, .int .u8 7] 5)) = .ok (.string ⟨([7, 7, 7, 7, 7, 7] : List UInt8).toArray⟩) (wj.alloc (.cells #[.int .u8 7, .int .u8 7, .int .u8 7, .int .u8 7, .int .u8 7, .int .u8 7] 5)) := (sees_lit wj [7, 7, 7, 7, 7, 7] 5 (0, 0) (by simp)).convert (P := Try.prog) 22 5 9 Try.underlying22 Try.underlying5 Try.underlying9
            clear kl7 hs7 hb7 HBI
            go_wp2_with fail
            refine (awake_ok _).mono ?_
            rintro e wz ⟨rfl, hbz⟩
            have HE : Hid (Below w.heap.size w wz) := by
              have h9 := HBJ.out.alloc HBJ.out.size (.cells #[.int .u8 7, .int .u8 7, .int .u8 7, .int .u8 7, .int .u8 7, .int .u8 7] 5)
              exact h9.trans (hbz.mono h9.size)
            clear hbz HBJ cv7 cv8
            go_wp2
            go_ret
            exact ⟨rfl, HE.out⟩
          · replace hRD : ¬ D = l6 := fun h => hRD h.symm
            have HCM : Hid (Calm s3 3 6 k D) := hc
            have hR : Hid (D = loadL s3 3 6) := by rcases hc.told with ⟨h, _⟩ | ⟨_, _, h⟩; omega; exact h.symm
            have hH : Hid (0 = loadE s3 3 6) := by rcases hc.told with ⟨h, _⟩ | ⟨_, h, _⟩; omega; exact h.symm
            clear hc
            go_wp2_with (first | (at_builtin; refine wpList_append_run rfl _ _ 22 rfl _ _ _ rfl rfl R1.out ?_; clear R1) | (at_builtin; refine wpList_append_run rfl _ _ 22 rfl _ _ _ rfl rfl R2.out ?_))
            refine kt.mono ?_
            rintro e wd ⟨⟨vd, rfl⟩, hsd⟩
            have ksv := KSV.out wd hsd
            clear kt hsd R2 HSD KSV
            go_wp2_with fail
            refine ksv.mono ?_
            rintro e we ⟨rfl, hse⟩
            have kwk := wake_side hse
            rw [← HW3.out] at kwk
            clear ksv hse HW3
            go_wp2_with fail
            refine kwk.mono ?_
            rintro e wf ⟨⟨vf, rfl⟩, hsf⟩
            have HSF : Hid (Side w wf b g 3 6 s3 (some ⟨d, 0, none⟩) cd X) := hsf
            clear kwk hsf
            have kld := load_solo HSF.out.solo D 0 hR.out hH.out
            rw [show ((0 : Nat) : Int) = 0 from rfl] at kld
            clear hR hH
            go_wp2_with fail
            refine kld.mono ?_
            rintro e wg ⟨d5, cd5, rfl, hs5, hb5⟩
            have HSG : Hid (Side w wg b g 3 6 s3 (some ⟨d, 0, none⟩) cd X) := HSF.out.next hb5
            have cv1 : ∀ n, (Go.convert 22 9 (.slice d5 D.length cd5)).run Try.prog (wg.drewN n) = .ok (.string ⟨D.toArray⟩) (wg.drewN n) := fun n => (hs5.drewN n).convert (P := Try.prog) 22 5 9 Try.underlying22 Try.underlying5 Try.underlying9
            have cv2 : ∀ n, (Go.convert 22 9 (.slice (some ⟨d, 0, none⟩) 6 cd)).run Try.prog (wg.drewN n) = .ok (.string ⟨l6.toArray⟩) (wg.drewN n) := fun n => by
              have h9 := ((HSG.out.sees.take 6).drewN n).convert (P := Try.prog) 22 5 9 Try.underlying22 Try.underlying5 Try.underlying9
              rwa [← HL6.out.1, HL6.out.2] at h9
            have cv0 : (Go.convert 22 9 (.slice d5 D.length cd5)).run Try.prog wg = .ok (.string ⟨D.toArray⟩) wg := hs5.convert (P := Try.prog) 22 5 9 Try.underlying22 Try.underlying5 Try.underlying9
            clear kld hb5 HSF hs5
            go_wp2_with fail
            go_quiet (fail)
            obtain ⟨W, hW⟩ : ∃ W, W = wg.drewN nq := ⟨_, rfl⟩
            have HSW : Hid (Solo w W b g 3 6 s3) := by rw [hW]; exact HSG.out.solo.next (below_drewN (Below.refl _ _) _)
            rw [← hW]
            clear hW HSG cv0 cv1 cv2
            obtain ⟨S4, hS4⟩ : ∃ S4, S4 = saveS s3 3 6 [7, 7, 7, 7, 7, 7] := ⟨_, rfl⟩
            have hcs := calm_save HCM.out (l := [7, 7, 7, 7, 7, 7]) (seven_pure _ (by omega)) rfl
            rw [← hS4] at hcs
            have HC4 : Hid (6 = ([7, 7, 7, 7, 7, 7] : List UInt8).length ∧ 0 = loadE S4 3 6 ∧ [7, 7, 7, 7, 7, 7] = loadL S4 3 6) := by
              rcases hcs.2.told with ⟨h, _⟩ | ⟨_, h1, h2⟩
              · omega
              · exact ⟨rfl, h1.symm, h2.symm⟩
            have k7 : Calls Try.prog 15 #[.pointer (some ⟨b, 0, none⟩), .slice (some ⟨W.heap.size, 0, none⟩) 6 6] (W.alloc (.cells #[.int .u8 7, .int .u8 7, .int .u8 7, .int .u8 7, .int .u8 7, .int .u8 7] 5)) _ :=
              save_solo HSW.out ((Below.refl _ _).alloc (Nat.le_refl _) _) (by omega) (some ⟨W.heap.size, 0, none⟩) 6 [7, 7, 7, 7, 7, 7] (sees_lit W [7, 7, 7, 7, 7, 7] 5 (0, 0) (by simp)) (fun bb off he _ => by simp only [Option.some.injEq, Addr.mk.injEq] at he; omega) 0 hcs.1.symm S4 hS4
            rw [show ((0 : Nat) : Int) = 0 from rfl] at k7
            clear hS4 hcs HCM
            go_wp2_with fail
            refine k7.mono ?_
            rintro e wi ⟨rfl, hsi, _⟩
            have kl7 : Calls Try.prog 19 #[.pointer (some ⟨b, 0, none⟩)] wi _ := load_solo hsi [7, 7, 7, 7, 7, 7] 0 HC4.out.2.2 HC4.out.2.1
            rw [show ((0 : Nat) : Int) = 0 from rfl, show ([7, 7, 7, 7, 7, 7] : List UInt8).length = 6 from rfl] at kl7
            have HBI : Hid (Below w.heap.size w wi) := hsi.low
            clear k7 hsi HSW HC4
            go_wp2_with fail
            refine kl7.mono ?_
            rintro e wj ⟨d7, cd7, rfl, hs7, hb7⟩
            have HBJ : Hid (Below w.heap.size w wj) := HBI.out.trans (hb7.mono HBI.out.size)
            have cv7 : (Go.convert 22 9 (.slice d7 6 cd7)).run Try.prog wj = .ok (.string ⟨([7, 7, 7, 7, 7, 7] : List UInt8).toArray⟩) wj := hs7.convert (P := Try.prog) 22 5 9 Try.underlying22 Try.underlying5 Try.underlying9
            have cv8 : (Go.convert 22 9 (.slice (some ⟨wj.heap.size, 0, none⟩) 6 6)).run Try.prog (wj.alloc (.cells #[.int .u8 7, .int .u8 7, .int .u8 7, .int .u8 7, .int .u8 7, .int .u8 7] 5)) = .ok (.string ⟨([7, 7, 7, 7, 7, 7] : List UInt8).toArray⟩) (wj.alloc (.cells #[.int .u8 7, .int .u8 7, .int .u8 7, .int .u8 7, .int .u8 7, .int .u8 7] 5)) := (sees_lit wj [7, 7, 7, 7, 7, 7] 5 (0, 0) (by simp)).convert (P := Try.prog) 22 5 9 Try.underlying22 Try.underlying5 Try.underlying9
            clear kl7 hs7 hb7 HBI
            go_wp2_with fail
            refine (awake_ok _).mono ?_
            rintro e wz ⟨rfl, hbz⟩
            have HE : Hid (Below w.heap.size w wz) := by
              have h9 := HBJ.out.alloc HBJ.out.size (.cells #[.int .u8 7, .int .u8 7, .int .u8 7, .int .u8 7, .int .u8 7, .int .u8 7] 5)
              exact h9.trans (hbz.mono h9.size)
            clear hbz HBJ cv7 cv8
            go_wp2
            go_ret
            exact ⟨rfl, HE.out⟩
      · skip
        have f1 : decide ((k : Int) < (LL.length : Int)) = true := by simp; omega
        have f2 : decide ((k : Int) < 12) = false := by simp; omega
        obtain ⟨v1, wb, d, cd, wc, X, hX, r1, r2, hsX, hd, h6, hXc, hc9, hbc⟩ := twice_run wr a1 c1 nx (H1.out.1.below HSO.out.low) H1.out.2 1
        rw [show (((1 : UInt8).toNat : Nat) : Int) = 1 from rfl] at r2
        have R1 : Hid ((Builtin.append_ #[22, 22] 22 #[.slice (some ⟨wr.heap.size, 0, none⟩) 0 0, .slice a1 nx.length c1]).run Try.prog (wr.alloc (.cells #[] 5)) = .ok v1 wb) := r1
        have R2 : Hid ((Builtin.append_ #[22, 22] 22 #[v1, .slice (some ⟨wb.heap.size, 0, none⟩) 6 6]).run Try.prog (wb.alloc (.cells #[.int .u8 1, .int .u8 1, .int .u8 1, .int .u8 1, .int .u8 1, .int .u8 1] 5)) = .ok (.slice (some ⟨d, 0, none⟩) X.length cd) wc) := r2
        have HSD : Hid (Side w wc b g 3 6 s (some ⟨d, 0, none⟩) cd X) := Side.of HSO.out hbc hsX (fun bb off he _ => by simp only [Option.some.injEq, Addr.mk.injEq] at he; omega)
        obtain ⟨L, hL⟩ : ∃ L, L = X.length := ⟨_, rfl⟩
        obtain ⟨l6, hl6⟩ : ∃ l6, l6 = X.take 6 := ⟨_, rfl⟩
        have hl6l : l6.length = 6 := by rw [hl6]; simp; omega
        obtain ⟨K, hK⟩ : ∃ K : Nat, K = x2.toNat % 4 := ⟨_, rfl⟩
        have m1 : x2.tmod 4 = (K : Int) := by rw [Int.tmod_eq_emod_of_nonneg (by omega)]; omega
        have m2 : x2 % 4 = (K : Int) := by omega
        have m3 : IntKind.u8.wrap (K : Int) = (K : Int) := by rw [IntKind.wrap_u8]; omega
        have m4 : IntKind.i64.wrap (K : Int) = (K : Int) := by rw [IntKind.wrap_i64]; omega
        have m5 : IntKind.i64.wrap x3 = x3 := by rw [IntKind.wrap_i64]; omega
        have hK4 : K < 4 := by omega
        obtain ⟨s1, hs1⟩ : ∃ s1, s1 = tearS s K x3 := ⟨_, rfl⟩
        have hs1b : s1.b = s.b ∧ s1.dead = s.dead := by rw [hs1]; exact tear_b s K x3
        have hs1n : s1.n = s.n := by rw [hs1, tear_n]
        have kt := tear_side HSD.out (K : Int) x3 (wf_i64 _ (by omega) (by omega)) (wf_i64 _ (by omega) (by omega))
        rw [← hs1] at kt
        obtain ⟨s2, hs2⟩ : ∃ s2, s2 = saveS s1 3 6 l6 := ⟨_, rfl⟩
        obtain ⟨E, hE⟩ : ∃ E, E = saveE s1 3 6 l6 := ⟨_, rfl⟩
        have hki := HK.out
        have hct := calm_torn HC.out.1 (seven_pure k (by omega)) hl6l hs1b.1 (by rw [hs1b.2]; exact HC.out.1.dead)
        rw [← hs2, ← hE] at hct
        have KSV : Hid (∀ W, Side w W b g 3 6 s1 (some ⟨d, 0, none⟩) cd X → Calls Try.prog 15 #[.pointer (some ⟨b, 0, none⟩), .slice (some ⟨d, 0, none⟩) 6 cd] W fun e w' => e = .returned (.int .i64 (E : Int)) ∧ Side w w' b g 3 6 s2 (some ⟨d, 0, none⟩) cd X) := fun W hW => save_side hW (by have := HC.out.2; omega) 6 (by omega) l6 hl6 E hE s2 hs2
        have hn2 : s2.n ≤ 100 := by rw [hs2]; have := save_n s1 3 6 l6; have := HC.out.2; omega
        have HL6 : Hid (l6 = X.take 6 ∧ l6.length = 6) := ⟨hl6, hl6l⟩
        obtain ⟨s3, hs3⟩ : ∃ s3, s3 = wakeS s2 := ⟨_, rfl⟩
        rw [← hs3] at hct
        have hn3 : s3.n ≤ 100 := by rw [hs3, wake_n]; exact hn2
        have HW3 : Hid (s3 = wakeS s2) := hs3
        rw [← hL] at R2 h6 hXc
        have q1 : (6 : Int) ≤ (cd : Int) := by omega
        have q2 : (6 : Int) ≤ (L : Int) := by omega
        have hct2 : (Calm s3 3 6 (k + 1) l6) ∨ (k = 0 ∧ ¬ E = 0 ∧ Calm s3 3 6 0 D) ∨ (0 < k ∧ ¬ E = 0 ∧ Calm s3 3 6 k D) := by
          rcases hct with h | ⟨h, h2⟩
          · exact .inl h
          · rcases Nat.eq_zero_or_pos k with rfl | h3
            · exact .inr (.inl ⟨rfl, h, h2⟩)
            · exact .inr (.inr ⟨h3, h, h2⟩)
        clear hX r1 r2 hsX hd hbc hL hl6 hl6l hK hs1 hs1b hs1n hs2 hE hct hn2 hs3 HC HSO H0 H1
        rcases hct2 with hc | ⟨hk0, hE0, hc⟩ | ⟨hkp, hE0, hc⟩
        · rcases Nat.eq_zero_or_pos k with hk0 | hkp
          · obtain rfl : ha = false := by rw [HAK.out]; simp; omega
            clear hk0 HAK
            by_cases hE0 : E = 0
            · subst hE0
              have HCM : Hid (Calm s3 3 6 (k + 1) l6) := hc
              have hR : Hid (l6 = loadL s3 3 6) := by rcases hc.told with ⟨h, _⟩ | ⟨_, _, h⟩; omega; exact h.symm
              have hH : Hid (0 = loadE s3 3 6) := by rcases hc.told with ⟨h, _⟩ | ⟨_, h, _⟩; omega; exact h.symm
              clear hc
              go_wp2_with (first | (at_builtin; refine wpList_append_run rfl _ _ 22 rfl _ _ _ rfl rfl R1.out ?_; clear R1) | (at_builtin; refine wpList_append_run rfl _ _ 22 rfl _ _ _ rfl rfl R2.out ?_))
              refine kt.mono ?_
              rintro e wd ⟨⟨vd, rfl⟩, hsd⟩
              have ksv := KSV.out wd hsd
              rw [show ((0 : Nat) : Int) = 0 from rfl] at ksv
              clear kt hsd R2 HSD KSV
              go_wp2_with fail
              refine ksv.mono ?_
              rintro e we ⟨rfl, hse⟩
              have kwk := wake_side hse
              rw [← HW3.out] at kwk
              clear ksv hse HW3
              go_wp2_with fail
              refine kwk.mono ?_
              rintro e wf ⟨⟨vf, rfl⟩, hsf⟩
              have HSF : Hid (Side w wf b g 3 6 s3 (some ⟨d, 0, none⟩) cd X) := hsf
              clear kwk hsf
              have kld := load_solo HSF.out.solo l6 0 hR.out hH.out
              rw [show ((0 : Nat) : Int) = 0 from rfl] at kld
              clear hR hH
              go_wp2_with fail
              refine kld.mono ?_
              rintro e wg ⟨d5, cd5, rfl, hs5, hb5⟩
              have HSG : Hid (Side w wg b g 3 6 s3 (some ⟨d, 0, none⟩) cd X) := HSF.out.next hb5
              have cv1 : ∀ n, (Go.convert 22 9 (.slice d5 l6.length cd5)).run Try.prog (wg.drewN n) = .ok (.string ⟨l6.toArray⟩) (wg.drewN n) := fun n => (hs5.drewN n).convert (P := Try.prog) 22 5 9 Try.underlying22 Try.underlying5 Try.underlying9
              have cv2 : ∀ n, (Go.convert 22 9 (.slice (some ⟨d, 0, none⟩) 6 cd)).run Try.prog (wg.drewN n) = .ok (.string ⟨l6.toArray⟩) (wg.drewN n) := fun n => by
                have h9 := ((HSG.out.sees.take 6).drewN n).convert (P := Try.prog) 22 5 9 Try.underlying22 Try.underlying5 Try.underlying9
                rwa [← HL6.out.1, HL6.out.2] at h9
              have cv0 : (Go.convert 22 9 (.slice d5 l6.length cd5)).run Try.prog wg = .ok (.string ⟨l6.toArray⟩) wg := hs5.convert (P := Try.prog) 22 5 9 Try.underlying22 Try.underlying5 Try.underlying9
              clear kld hb5 HSF hs5
              go_wp2_with fail
              go_quiet (fail)
              obtain ⟨W, hW⟩ : ∃ W, W = wg.drewN nq := ⟨_, rfl⟩
              have HSW : Hid (Solo w W b g 3 6 s3) := by rw [hW]; exact HSG.out.solo.next (below_drewN (Below.refl _ _) _)
              rw [← hW]
              clear hW HSG cv0 cv1 cv2
              obtain ⟨S4, hS4⟩ : ∃ S4, S4 = saveS s3 3 6 [7, 7, 7, 7, 7, 7] := ⟨_, rfl⟩
              have hcs := calm_save HCM.out (l := [7, 7, 7, 7, 7, 7]) (seven_pure _ (by omega)) rfl
              rw [← hS4] at hcs
              have HC4 : Hid (6 = ([7, 7, 7, 7, 7, 7] : List UInt8).length ∧ 0 = loadE S4 3 6 ∧ [7, 7, 7, 7, 7, 7] = loadL S4 3 6) := by
                rcases hcs.2.told with ⟨h, _⟩ | ⟨_, h1, h2⟩
                · omega
                · exact ⟨rfl, h1.symm, h2.symm⟩
              have k7 : Calls Try.prog 15 #[.pointer (some ⟨b, 0, none⟩), .slice (some ⟨W.heap.size, 0, none⟩) 6 6] (W.alloc (.cells #[.int .u8 7, .int .u8 7, .int .u8 7, .int .u8 7, .int .u8 7, .int .u8 7] 5)) _ :=
                save_solo HSW.out ((Below.refl _ _).alloc (Nat.le_refl _) _) (by omega) (some ⟨W.heap.size, 0, none⟩) 6 [7, 7, 7, 7, 7, 7] (sees_lit W [7, 7, 7, 7, 7, 7] 5 (0, 0) (by simp)) (fun bb off he _ => by simp only [Option.some.injEq, Addr.mk.injEq] at he; omega) 0 hcs.1.symm S4 hS4
              rw [show ((0 : Nat) : Int) = 0 from rfl] at k7
              clear hS4 hcs HCM
              go_wp2_with fail
              refine k7.mono ?_
              rintro e wi ⟨rfl, hsi, _⟩
              have kl7 : Calls Try.prog 19 #[.pointer (some ⟨b, 0, none⟩)] wi _ := load_solo hsi [7, 7, 7, 7, 7, 7] 0 HC4.out.2.2 HC4.out.2.1
              rw [show ((0 : Nat) : Int) = 0 from rfl, show ([7, 7, 7, 7, 7, 7] : List UInt8).length = 6 from rfl] at kl7
              have HBI : Hid (Below w.heap.size w wi) := hsi.low
              clear k7 hsi HSW HC4
              go_wp2_with fail
              refine kl7.mono ?_
              rintro e wj ⟨d7, cd7, rfl, hs7, hb7⟩
              have HBJ : Hid (Below w.heap.size w wj) := HBI.out.trans (hb7.mono HBI.out.size)
              have cv7 : (Go.convert 22 9 (.slice d7 6 cd7)).run Try.prog wj = .ok (.string ⟨([7, 7, 7, 7, 7, 7] : List UInt8).toArray⟩) wj := hs7.convert (P := Try.prog) 22 5 9 Try.underlying22 Try.underlying5 Try.underlying9
              have cv8 : (Go.convert 22 9 (.slice (some ⟨wj.heap.size, 0, none⟩) 6 6)).run Try.prog (wj.alloc (.cells #[.int .u8 7, .int .u8 7, .int .u8 7, .int .u8 7, .int .u8 7, .int .u8 7] 5)) = .ok (.string ⟨([7, 7, 7, 7, 7, 7] : List UInt8).toArray⟩) (wj.alloc (.cells #[.int .u8 7, .int .u8 7, .int .u8 7, .int .u8 7, .int .u8 7, .int .u8 7] 5)) := (sees_lit wj [7, 7, 7, 7, 7, 7] 5 (0, 0) (by simp)).convert (P := Try.prog) 22 5 9 Try.underlying22 Try.underlying5 Try.underlying9
              clear kl7 hs7 hb7 HBI
              go_wp2_with fail
              refine (awake_ok _).mono ?_
              rintro e wz ⟨rfl, hbz⟩
              have HE : Hid (Below w.heap.size w wz) := by
                have h9 := HBJ.out.alloc HBJ.out.size (.cells #[.int .u8 7, .int .u8 7, .int .u8 7, .int .u8 7, .int .u8 7, .int .u8 7] 5)
                exact h9.trans (hbz.mono h9.size)
              clear hbz HBJ cv7 cv8
              go_wp2
              go_ret
              exact ⟨rfl, HE.out⟩
            · have dE : ((E : Int) == 0) = false := by simp; omega
              have dE2 : ¬ (E : Int) = 0 := by omega
              have HCM : Hid (Calm s3 3 6 (k + 1) l6) := hc
              have hR : Hid (l6 = loadL s3 3 6) := by rcases hc.told with ⟨h, _⟩ | ⟨_, _, h⟩; omega; exact h.symm
              have hH : Hid (0 = loadE s3 3 6) := by rcases hc.told with ⟨h, _⟩ | ⟨_, h, _⟩; omega; exact h.symm
              clear hc
              go_wp2_with (first | (at_builtin; refine wpList_append_run rfl _ _ 22 rfl _ _ _ rfl rfl R1.out ?_; clear R1) | (at_builtin; refine wpList_append_run rfl _ _ 22 rfl _ _ _ rfl rfl R2.out ?_))
              refine kt.mono ?_
              rintro e wd ⟨⟨vd, rfl⟩, hsd⟩
              have ksv := KSV.out wd hsd
              clear kt hsd R2 HSD KSV
              go_wp2_with fail
              refine ksv.mono ?_
              rintro e we ⟨rfl, hse⟩
              have kwk := wake_side hse
              rw [← HW3.out] at kwk
              clear ksv hse HW3
              go_wp2_with fail
              refine kwk.mono ?_
              rintro e wf ⟨⟨vf, rfl⟩, hsf⟩
              have HSF : Hid (Side w wf b g 3 6 s3 (some ⟨d, 0, none⟩) cd X) := hsf
              clear kwk hsf
              have kld := load_solo HSF.out.solo l6 0 hR.out hH.out
              rw [show ((0 : Nat) : Int) = 0 from rfl] at kld
              clear hR hH
              go_wp2_with fail
              refine kld.mono ?_
              rintro e wg ⟨d5, cd5, rfl, hs5, hb5⟩
              have HSG : Hid (Side w wg b g 3 6 s3 (some ⟨d, 0, none⟩) cd X) := HSF.out.next hb5
              have cv1 : ∀ n, (Go.convert 22 9 (.slice d5 l6.length cd5)).run Try.prog (wg.drewN n) = .ok (.string ⟨l6.toArray⟩) (wg.drewN n) := fun n => (hs5.drewN n).convert (P := Try.prog) 22 5 9 Try.underlying22 Try.underlying5 Try.underlying9
              have cv2 : ∀ n, (Go.convert 22 9 (.slice (some ⟨d, 0, none⟩) 6 cd)).run Try.prog (wg.drewN n) = .ok (.string ⟨l6.toArray⟩) (wg.drewN n) := fun n => by
                have h9 := ((HSG.out.sees.take 6).drewN n).convert (P := Try.prog) 22 5 9 Try.underlying22 Try.underlying5 Try.underlying9
                rwa [← HL6.out.1, HL6.out.2] at h9
              have cv0 : (Go.convert 22 9 (.slice d5 l6.length cd5)).run Try.prog wg = .ok (.string ⟨l6.toArray⟩) wg := hs5.convert (P := Try.prog) 22 5 9 Try.underlying22 Try.underlying5 Try.underlying9
              clear kld hb5 HSF hs5
              go_wp2_with fail
              go_quiet (fail)
              obtain ⟨W, hW⟩ : ∃ W, W = wg.drewN nq := ⟨_, rfl⟩
              have HSW : Hid (Solo w W b g 3 6 s3) := by rw [hW]; exact HSG.out.solo.next (below_drewN (Below.refl _ _) _)
              rw [← hW]
              clear hW HSG cv0 cv1 cv2
              obtain ⟨S4, hS4⟩ : ∃ S4, S4 = saveS s3 3 6 [7, 7, 7, 7, 7, 7] := ⟨_, rfl⟩
              have hcs := calm_save HCM.out (l := [7, 7, 7, 7, 7, 7]) (seven_pure _ (by omega)) rfl
              rw [← hS4] at hcs
              have HC4 : Hid (6 = ([7, 7, 7, 7, 7, 7] : List UInt8).length ∧ 0 = loadE S4 3 6 ∧ [7, 7, 7, 7, 7, 7] = loadL S4 3 6) := by
                rcases hcs.2.told with ⟨h, _⟩ | ⟨_, h1, h2⟩
                · omega
                · exact ⟨rfl, h1.symm, h2.symm⟩
              have k7 : Calls Try.prog 15 #[.pointer (some ⟨b, 0, none⟩), .slice (some ⟨W.heap.size, 0, none⟩) 6 6] (W.alloc (.cells #[.int .u8 7, .int .u8 7, .int .u8 7, .int .u8 7, .int .u8 7, .int .u8 7] 5)) _ :=
                save_solo HSW.out ((Below.refl _ _).alloc (Nat.le_refl _) _) (by omega) (some ⟨W.heap.size, 0, none⟩) 6 [7, 7, 7, 7, 7, 7] (sees_lit W [7, 7, 7, 7, 7, 7] 5 (0, 0) (by simp)) (fun bb off he _ => by simp only [Option.some.injEq, Addr.mk.injEq] at he; omega) 0 hcs.1.symm S4 hS4
              rw [show ((0 : Nat) : Int) = 0 from rfl] at k7
              clear hS4 hcs HCM
              go_wp2_with fail
              refine k7.mono ?_
              rintro e wi ⟨rfl, hsi, _⟩
              have kl7 : Calls Try.prog 19 #[.pointer (some ⟨b, 0, none⟩)] wi _ := load_solo hsi [7, 7, 7, 7, 7, 7] 0 HC4.out.2.2 HC4.out.2.1
              rw [show ((0 : Nat) : Int) = 0 from rfl, show ([7, 7, 7, 7, 7, 7] : List UInt8).length = 6 from rfl] at kl7
              have HBI : Hid (Below w.heap.size w wi) := hsi.low
              clear k7 hsi HSW HC4
              go_wp2_with fail
              refine kl7.mono ?_
              rintro e wj ⟨d7, cd7, rfl, hs7, hb7⟩
              have HBJ : Hid (Below w.heap.size w wj) := HBI.out.trans (hb7.mono HBI.out.size)
              have cv7 : (Go.convert 22 9 (.slice d7 6 cd7)).run Try.prog wj = .ok (.string ⟨([7, 7, 7, 7, 7, 7] : List UInt8).toArray⟩) wj := hs7.convert (P := Try.prog) 22 5 9 Try.underlying22 Try.underlying5 Try.underlying9
              have cv8 : (Go.convert 22 9 (.slice (some ⟨wj.heap.size, 0, none⟩) 6 6)).run Try.prog (wj.alloc (.cells #[.int .u8 7, .int .u8 7, .int .u8 7, .int .u8 7, .int .u8 7, .int .u8 7] 5)) = .ok (.string ⟨([7, 7, 7, 7, 7, 7] : List UInt8).toArray⟩) (wj.alloc (.cells #[.int .u8 7, .int .u8 7, .int .u8 7, .int .u8 7, .int .u8 7, .int .u8 7] 5)) := (sees_lit wj [7, 7, 7, 7, 7, 7] 5 (0, 0) (by simp)).convert (P := Try.prog) 22 5 9 Try.underlying22 Try.underlying5 Try.underlying9
              clear kl7 hs7 hb7 HBI
              go_wp2_with fail
              refine (awake_ok _).mono ?_
              rintro e wz ⟨rfl, hbz⟩
              have HE : Hid (Below w.heap.size w wz) := by
                have h9 := HBJ.out.alloc HBJ.out.size (.cells #[.int .u8 7, .int .u8 7, .int .u8 7, .int .u8 7, .int .u8 7, .int .u8 7] 5)
                exact h9.trans (hbz.mono h9.size)
              clear hbz HBJ cv7 cv8
              go_wp2
              go_ret
              exact ⟨rfl, HE.out⟩
          · obtain rfl : ha = true := by rw [HAK.out]; simp; omega
            clear HAK
            by_cases hRD : l6 = D
            · subst hRD
              by_cases hE0 : E = 0
              · subst hE0
                have HCM : Hid (Calm s3 3 6 (k + 1) l6) := hc
                have hR : Hid (l6 = loadL s3 3 6) := by rcases hc.told with ⟨h, _⟩ | ⟨_, _, h⟩; omega; exact h.symm
                have hH : Hid (0 = loadE s3 3 6) := by rcases hc.told with ⟨h, _⟩ | ⟨_, h, _⟩; omega; exact h.symm
                clear hc
                go_wp2_with (first | (at_builtin; refine wpList_append_run rfl _ _ 22 rfl _ _ _ rfl rfl R1.out ?_; clear R1) | (at_builtin; refine wpList_append_run rfl _ _ 22 rfl _ _ _ rfl rfl R2.out ?_))
                refine kt.mono ?_
                rintro e wd ⟨⟨vd, rfl⟩, hsd⟩
                have ksv := KSV.out wd hsd
                rw [show ((0 : Nat) : Int) = 0 from rfl] at ksv
                clear kt hsd R2 HSD KSV
                go_wp2_with fail
                refine ksv.mono ?_
                rintro e we ⟨rfl, hse⟩
                have kwk := wake_side hse
                rw [← HW3.out] at kwk
                clear ksv hse HW3
                go_wp2_with fail
                refine kwk.mono ?_
                rintro e wf ⟨⟨vf, rfl⟩, hsf⟩
                have HSF : Hid (Side w wf b g 3 6 s3 (some ⟨d, 0, none⟩) cd X) := hsf
                clear kwk hsf
                have kld := load_solo HSF.out.solo l6 0 hR.out hH.out
                rw [show ((0 : Nat) : Int) = 0 from rfl] at kld
                clear hR hH
                go_wp2_with fail
                refine kld.mono ?_
                rintro e wg ⟨d5, cd5, rfl, hs5, hb5⟩
                have HSG : Hid (Side w wg b g 3 6 s3 (some ⟨d, 0, none⟩) cd X) := HSF.out.next hb5
                have cv1 : ∀ n, (Go.convert 22 9 (.slice d5 l6.length cd5)).run Try.prog (wg.drewN n) = .ok (.string ⟨l6.toArray⟩) (wg.drewN n) := fun n => (hs5.drewN n).convert (P := Try.prog) 22 5 9 Try.underlying22 Try.underlying5 Try.underlying9
                have cv2 : ∀ n, (Go.convert 22 9 (.slice (some ⟨d, 0, none⟩) 6 cd)).run Try.prog (wg.drewN n) = .ok (.string ⟨l6.toArray⟩) (wg.drewN n) := fun n => by
                  have h9 := ((HSG.out.sees.take 6).drewN n).convert (P := Try.prog) 22 5 9 Try.underlying22 Try.underlying5 Try.underlying9
                  rwa [← HL6.out.1, HL6.out.2] at h9
                have cv0 : (Go.convert 22 9 (.slice d5 l6.length cd5)).run Try.prog wg = .ok (.string ⟨l6.toArray⟩) wg := hs5.convert (P := Try.prog) 22 5 9 Try.underlying22 Try.underlying5 Try.underlying9
                clear kld hb5 HSF hs5
                go_wp2_with fail
                go_quiet (fail)
                obtain ⟨W, hW⟩ : ∃ W, W = wg.drewN nq := ⟨_, rfl⟩
                have HSW : Hid (Solo w W b g 3 6 s3) := by rw [hW]; exact HSG.out.solo.next (below_drewN (Below.refl _ _) _)
                rw [← hW]
                clear hW HSG cv0 cv1 cv2
                obtain ⟨S4, hS4⟩ : ∃ S4, S4 = saveS s3 3 6 [7, 7, 7, 7, 7, 7] := ⟨_, rfl⟩
                have hcs := calm_save HCM.out (l := [7, 7, 7, 7, 7, 7]) (seven_pure _ (by omega)) rfl
                rw [← hS4] at hcs
                have HC4 : Hid (6 = ([7, 7, 7, 7, 7, 7] : List UInt8).length ∧ 0 = loadE S4 3 6 ∧ [7, 7, 7, 7, 7, 7] = loadL S4 3 6) := by
                  rcases hcs.2.told with ⟨h, _⟩ | ⟨_, h1, h2⟩
                  · omega
                  · exact ⟨rfl, h1.symm, h2.symm⟩
                have k7 : Calls Try.prog 15 #[.pointer (some ⟨b, 0, none⟩), .slice (some ⟨W.heap.size, 0, none⟩) 6 6] (W.alloc (.cells #[.int .u8 7, .int .u8 7, .int .u8 7, .int .u8 7, .int .u8 7, .int .u8 7] 5)) _ :=
                  save_solo HSW.out ((Below.refl _ _).alloc (Nat.le_refl _) _) (by omega) (some ⟨W.heap.size, 0, none⟩) 6 [7, 7, 7, 7, 7, 7] (sees_lit W [7, 7, 7, 7, 7, 7] 5 (0, 0) (by simp)) (fun bb off he _ => by simp only [Option.some.injEq, Addr.mk.injEq] at he; omega) 0 hcs.1.symm S4 hS4
                rw [show ((0 : Nat) : Int) = 0 from rfl] at k7
                clear hS4 hcs HCM
                go_wp2_with fail
                refine k7.mono ?_
                rintro e wi ⟨rfl, hsi, _⟩
                have kl7 : Calls Try.prog 19 #[.pointer (some ⟨b, 0, none⟩)] wi _ := load_solo hsi [7, 7, 7, 7, 7, 7] 0 HC4.out.2.2 HC4.out.2.1
                rw [show ((0 : Nat) : Int) = 0 from rfl, show ([7, 7, 7, 7, 7, 7] : List UInt8).length = 6 from rfl] at kl7
                have HBI : Hid (Below w.heap.size w wi) := hsi.low
                clear k7 hsi HSW HC4
                go_wp2_with fail
                refine kl7.mono ?_
                rintro e wj ⟨d7, cd7, rfl, hs7, hb7⟩
                have HBJ : Hid (Below w.heap.size w wj) := HBI.out.trans (hb7.mono HBI.out.size)
                have cv7 : (Go.convert 22 9 (.slice d7 6 cd7)).run Try.prog wj = .ok (.string ⟨([7, 7, 7, 7, 7, 7] : List UInt8).toArray⟩) wj := hs7.convert (P := Try.prog) 22 5 9 Try.underlying22 Try.underlying5 Try.underlying9
                have cv8 : (Go.convert 22 9 (.slice (some ⟨wj.heap.size, 0, none⟩) 6 6)).run Try.prog (wj.alloc (.cells #[.int .u8 7, .int .u8 7, .int .u8 7, .int .u8 7, .int .u8 7, .int .u8 7] 5)) = .ok (.string ⟨([7, 7, 7, 7, 7, 7] : List UInt8).toArray⟩) (wj.alloc (.cells #[.int .u8 7, .int .u8 7, .int .u8 7, .int .u8 7, .int .u8 7, .int .u8 7] 5)) := (sees_lit wj [7, 7, 7, 7, 7, 7] 5 (0, 0) (by simp)).convert (P := Try.prog) 22 5 9 Try.underlying22 Try.underlying5 Try.underlying9
                clear kl7 hs7 hb7 HBI
                go_wp2_with fail
                refine (awake_ok _).mono ?_
                rintro e wz ⟨rfl, hbz⟩
                have HE : Hid (Below w.heap.size w wz) := by
                  have h9 := HBJ.out.alloc HBJ.out.size (.cells #[.int .u8 7, .int .u8 7, .int .u8 7, .int .u8 7, .int .u8 7, .int .u8 7] 5)
                  exact h9.trans (hbz.mono h9.size)
                clear hbz HBJ cv7 cv8
                go_wp2
                go_ret
                exact ⟨rfl, HE.out⟩
              · have dE : ((E : Int) == 0) = false := by simp; omega
                have dE2 : ¬ (E : Int) = 0 := by omega
                have HCM : Hid (Calm s3 3 6 (k + 1) l6) := hc
                have hR : Hid (l6 = loadL s3 3 6) := by rcases hc.told with ⟨h, _⟩ | ⟨_, _, h⟩; omega; exact h.symm
                have hH : Hid (0 = loadE s3 3 6) := by rcases hc.told with ⟨h, _⟩ | ⟨_, h, _⟩; omega; exact h.symm
                clear hc
                go_wp2_with (first | (at_builtin; refine wpList_append_run rfl _ _ 22 rfl _ _ _ rfl rfl R1.out ?_; clear R1) | (at_builtin; refine wpList_append_run rfl _ _ 22 rfl _ _ _ rfl rfl R2.out ?_))
                refine kt.mono ?_
                rintro e wd ⟨⟨vd, rfl⟩, hsd⟩
                have ksv := KSV.out wd hsd
                clear kt hsd R2 HSD KSV
                go_wp2_with fail
                refine ksv.mono ?_
                rintro e we ⟨rfl, hse⟩
                have kwk := wake_side hse
                rw [← HW3.out] at kwk
                clear ksv hse HW3
                go_wp2_with fail
                refine kwk.mono ?_
                rintro e wf ⟨⟨vf, rfl⟩, hsf⟩
                have HSF : Hid (Side w wf b g 3 6 s3 (some ⟨d, 0, none⟩) cd X) := hsf
                clear kwk hsf
                have kld := load_solo HSF.out.solo l6 0 hR.out hH.out
                rw [show ((0 : Nat) : Int) = 0 from rfl] at kld
                clear hR hH
                go_wp2_with fail
                refine kld.mono ?_
                rintro e wg ⟨d5, cd5, rfl, hs5, hb5⟩
                have HSG : Hid (Side w wg b g 3 6 s3 (some ⟨d, 0, none⟩) cd X) := HSF.out.next hb5
                have cv1 : ∀ n, (Go.convert 22 9 (.slice d5 l6.length cd5)).run Try.prog (wg.drewN n) = .ok (.string ⟨l6.toArray⟩) (wg.drewN n) := fun n => (hs5.drewN n).convert (P := Try.prog) 22 5 9 Try.underlying22 Try.underlying5 Try.underlying9
                have cv2 : ∀ n, (Go.convert 22 9 (.slice (some ⟨d, 0, none⟩) 6 cd)).run Try.prog (wg.drewN n) = .ok (.string ⟨l6.toArray⟩) (wg.drewN n) := fun n => by
                  have h9 := ((HSG.out.sees.take 6).drewN n).convert (P := Try.prog) 22 5 9 Try.underlying22 Try.underlying5 Try.underlying9
                  rwa [← HL6.out.1, HL6.out.2] at h9
                have cv0 : (Go.convert 22 9 (.slice d5 l6.length cd5)).run Try.prog wg = .ok (.string ⟨l6.toArray⟩) wg := hs5.convert (P := Try.prog) 22 5 9 Try.underlying22 Try.underlying5 Try.underlying9
                clear kld hb5 HSF hs5
                go_wp2_with fail
                go_quiet (fail)
                obtain ⟨W, hW⟩ : ∃ W, W = wg.drewN nq := ⟨_, rfl⟩
                have HSW : Hid (Solo w W b g 3 6 s3) := by rw [hW]; exact HSG.out.solo.next (below_drewN (Below.refl _ _) _)
                rw [← hW]
                clear hW HSG cv0 cv1 cv2
                obtain ⟨S4, hS4⟩ : ∃ S4, S4 = saveS s3 3 6 [7, 7, 7, 7, 7, 7] := ⟨_, rfl⟩
                have hcs := calm_save HCM.out (l := [7, 7, 7, 7, 7, 7]) (seven_pure _ (by omega)) rfl
                rw [← hS4] at hcs
                have HC4 : Hid (6 = ([7, 7, 7, 7, 7, 7] : List UInt8).length ∧ 0 = loadE S4 3 6 ∧ [7, 7, 7, 7, 7, 7] = loadL S4 3 6) := by
                  rcases hcs.2.told with ⟨h, _⟩ | ⟨_, h1, h2⟩
                  · omega
                  · exact ⟨rfl, h1.symm, h2.symm⟩
                have k7 : Calls Try.prog 15 #[.pointer (some ⟨b, 0, none⟩), .slice (some ⟨W.heap.size, 0, none⟩) 6 6] (W.alloc (.cells #[.int .u8 7, .int .u8 7, .int .u8 7, .int .u8 7, .int .u8 7, .int .u8 7] 5)) _ :=
                  save_solo HSW.out ((Below.refl _ _).alloc (Nat.le_refl _) _) (by omega) (some ⟨W.heap.size, 0, none⟩) 6 [7, 7, 7, 7, 7, 7] (sees_lit W [7, 7, 7, 7, 7, 7] 5 (0, 0) (by simp)) (fun bb off he _ => by simp only [Option.some.injEq, Addr.mk.injEq] at he; omega) 0 hcs.1.symm S4 hS4
                rw [show ((0 : Nat) : Int) = 0 from rfl] at k7
                clear hS4 hcs HCM
                go_wp2_with fail
                refine k7.mono ?_
                rintro e wi ⟨rfl, hsi, _⟩
                have kl7 : Calls Try.prog 19 #[.pointer (some ⟨b, 0, none⟩)] wi _ := load_solo hsi [7, 7, 7, 7, 7, 7] 0 HC4.out.2.2 HC4.out.2.1
                rw [show ((0 : Nat) : Int) = 0 from rfl, show ([7, 7, 7, 7, 7, 7] : List UInt8).length = 6 from rfl] at kl7
                have HBI : Hid (Below w.heap.size w wi) := hsi.low
                clear k7 hsi HSW HC4
                go_wp2_with fail
                refine kl7.mono ?_
                rintro e wj ⟨d7, cd7, rfl, hs7, hb7⟩
                have HBJ : Hid (Below w.heap.size w wj) := HBI.out.trans (hb7.mono HBI.out.size)
                have cv7 : (Go.convert 22 9 (.slice d7 6 cd7)).run Try.prog wj = .ok (.string ⟨([7, 7, 7, 7, 7, 7] : List UInt8).toArray⟩) wj := hs7.convert (P := Try.prog) 22 5 9 Try.underlying22 Try.underlying5 Try.underlying9
                have cv8 : (Go.convert 22 9 (.slice (some ⟨wj.heap.size, 0, none⟩) 6 6)).run Try.prog (wj.alloc (.cells #[.int .u8 7, .int .u8 7, .int .u8 7, .int .u8 7, .int .u8 7, .int .u8 7] 5)) = .ok (.string ⟨([7, 7, 7, 7, 7, 7] : List UInt8).toArray⟩) (wj.alloc (.cells #[.int .u8 7, .int .u8 7, .int .u8 7, .int .u8 7, .int .u8 7, .int .u8 7] 5)) := (sees_lit wj [7, 7, 7, 7, 7, 7] 5 (0, 0) (by simp)).convert (P := Try.prog) 22 5 9 Try.underlying22 Try.underlying5 Try.underlying9
                clear kl7 hs7 hb7 HBI
                go_wp2_with fail
                refine (awake_ok _).mono ?_
                rintro e wz ⟨rfl, hbz⟩
                have HE : Hid (Below w.heap.size w wz) := by
                  have h9 := HBJ.out.alloc HBJ.out.size (.cells #[.int .u8 7, .int .u8 7, .int .u8 7, .int .u8 7, .int .u8 7, .int .u8 7] 5)
                  exact h9.trans (hbz.mono h9.size)
                clear hbz HBJ cv7 cv8
                go_wp2
                go_ret
                exact ⟨rfl, HE.out⟩
            · skip
              by_cases hE0 : E = 0
              · subst hE0
                have HCM : Hid (Calm s3 3 6 (k + 1) l6) := hc
                have hR : Hid (l6 = loadL s3 3 6) := by rcases hc.told with ⟨h, _⟩ | ⟨_, _, h⟩; omega; exact h.symm
                have hH : Hid (0 = loadE s3 3 6) := by rcases hc.told with ⟨h, _⟩ | ⟨_, h, _⟩; omega; exact h.symm
                clear hc
                go_wp2_with (first | (at_builtin; refine wpList_append_run rfl _ _ 22 rfl _ _ _ rfl rfl R1.out ?_; clear R1) | (at_builtin; refine wpList_append_run rfl _ _ 22 rfl _ _ _ rfl rfl R2.out ?_))
                refine kt.mono ?_
                rintro e wd ⟨⟨vd, rfl⟩, hsd⟩
                have ksv := KSV.out wd hsd
                rw [show ((0 : Nat) : Int) = 0 from rfl] at ksv
                clear kt hsd R2 HSD KSV
                go_wp2_with fail
                refine ksv.mono ?_
                rintro e we ⟨rfl, hse⟩
                have kwk := wake_side hse
                rw [← HW3.out] at kwk
                clear ksv hse HW3
                go_wp2_with fail
                refine kwk.mono ?_
                rintro e wf ⟨⟨vf, rfl⟩, hsf⟩
                have HSF : Hid (Side w wf b g 3 6 s3 (some ⟨d, 0, none⟩) cd X) := hsf
                clear kwk hsf
                have kld := load_solo HSF.out.solo l6 0 hR.out hH.out
                rw [show ((0 : Nat) : Int) = 0 from rfl] at kld
                clear hR hH
                go_wp2_with fail
                refine kld.mono ?_
                rintro e wg ⟨d5, cd5, rfl, hs5, hb5⟩
                have HSG : Hid (Side w wg b g 3 6 s3 (some ⟨d, 0, none⟩) cd X) := HSF.out.next hb5
                have cv1 : ∀ n, (Go.convert 22 9 (.slice d5 l6.length cd5)).run Try.prog (wg.drewN n) = .ok (.string ⟨l6.toArray⟩) (wg.drewN n) := fun n => (hs5.drewN n).convert (P := Try.prog) 22 5 9 Try.underlying22 Try.underlying5 Try.underlying9
                have cv2 : ∀ n, (Go.convert 22 9 (.slice (some ⟨d, 0, none⟩) 6 cd)).run Try.prog (wg.drewN n) = .ok (.string ⟨l6.toArray⟩) (wg.drewN n) := fun n => by
                  have h9 := ((HSG.out.sees.take 6).drewN n).convert (P := Try.prog) 22 5 9 Try.underlying22 Try.underlying5 Try.underlying9
                  rwa [← HL6.out.1, HL6.out.2] at h9
                have cv0 : (Go.convert 22 9 (.slice d5 l6.length cd5)).run Try.prog wg = .ok (.string ⟨l6.toArray⟩) wg := hs5.convert (P := Try.prog) 22 5 9 Try.underlying22 Try.underlying5 Try.underlying9
                clear kld hb5 HSF hs5
                go_wp2_with fail
                go_quiet (fail)
                obtain ⟨W, hW⟩ : ∃ W, W = wg.drewN nq := ⟨_, rfl⟩
                have HSW : Hid (Solo w W b g 3 6 s3) := by rw [hW]; exact HSG.out.solo.next (below_drewN (Below.refl _ _) _)
                rw [← hW]
                clear hW HSG cv0 cv1 cv2
                obtain ⟨S4, hS4⟩ : ∃ S4, S4 = saveS s3 3 6 [7, 7, 7, 7, 7, 7] := ⟨_, rfl⟩
                have hcs := calm_save HCM.out (l := [7, 7, 7, 7, 7, 7]) (seven_pure _ (by omega)) rfl
                rw [← hS4] at hcs
                have HC4 : Hid (6 = ([7, 7, 7, 7, 7, 7] : List UInt8).length ∧ 0 = loadE S4 3 6 ∧ [7, 7, 7, 7, 7, 7] = loadL S4 3 6) := by
                  rcases hcs.2.told with ⟨h, _⟩ | ⟨_, h1, h2⟩
                  · omega
                  · exact ⟨rfl, h1.symm, h2.symm⟩
                have k7 : Calls Try.prog 15 #[.pointer (some ⟨b, 0, none⟩), .slice (some ⟨W.heap.size, 0, none⟩) 6 6] (W.alloc (.cells #[.int .u8 7, .int .u8 7, .int .u8 7, .int .u8 7, .int .u8 7, .int .u8 7] 5)) _ :=
                  save_solo HSW.out ((Below.refl _ _).alloc (Nat.le_refl _) _) (by omega) (some ⟨W.heap.size, 0, none⟩) 6 [7, 7, 7, 7, 7, 7] (sees_lit W [7, 7, 7, 7, 7, 7] 5 (0, 0) (by simp)) (fun bb off he _ => by simp only [Option.some.injEq, Addr.mk.injEq] at he; omega) 0 hcs.1.symm S4 hS4
                rw [show ((0 : Nat) : Int) = 0 from rfl] at k7
                clear hS4 hcs HCM
                go_wp2_with fail
                refine k7.mono ?_
                rintro e wi ⟨rfl, hsi, _⟩
                have kl7 : Calls Try.prog 19 #[.pointer (some ⟨b, 0, none⟩)] wi _ := load_solo hsi [7, 7, 7, 7, 7, 7] 0 HC4.out.2.2 HC4.out.2.1
                rw [show ((0 : Nat) : Int) = 0 from rfl, show ([7, 7, 7, 7, 7, 7] : List UInt8).length = 6 from rfl] at kl7
                have HBI : Hid (Below w.heap.size w wi) := hsi.low
                clear k7 hsi HSW HC4
                go_wp2_with fail
                refine kl7.mono ?_
                rintro e wj ⟨d7, cd7, rfl, hs7, hb7⟩
                have HBJ : Hid (Below w.heap.size w wj) := HBI.out.trans (hb7.mono HBI.out.size)
                have cv7 : (Go.convert 22 9 (.slice d7 6 cd7)).run Try.prog wj = .ok (.string ⟨([7, 7, 7, 7, 7, 7] : List UInt8).toArray⟩) wj := hs7.convert (P := Try.prog) 22 5 9 Try.underlying22 Try.underlying5 Try.underlying9
                have cv8 : (Go.convert 22 9 (.slice (some ⟨wj.heap.size, 0, none⟩) 6 6)).run Try.prog (wj.alloc (.cells #[.int .u8 7, .int .u8 7, .int .u8 7, .int .u8 7, .int .u8 7, .int .u8 7] 5)) = .ok (.string ⟨([7, 7, 7, 7, 7, 7] : List UInt8).toArray⟩) (wj.alloc (.cells #[.int .u8 7, .int .u8 7, .int .u8 7, .int .u8 7, .int .u8 7, .int .u8 7] 5)) := (sees_lit wj [7, 7, 7, 7, 7, 7] 5 (0, 0) (by simp)).convert (P := Try.prog) 22 5 9 Try.underlying22 Try.underlying5 Try.underlying9
                clear kl7 hs7 hb7 HBI
                go_wp2_with fail
                refine (awake_ok _).mono ?_
                rintro e wz ⟨rfl, hbz⟩
                have HE : Hid (Below w.heap.size w wz) := by
                  have h9 := HBJ.out.alloc HBJ.out.size (.cells #[.int .u8 7, .int .u8 7, .int .u8 7, .int .u8 7, .int .u8 7, .int .u8 7] 5)
                  exact h9.trans (hbz.mono h9.size)
                clear hbz HBJ cv7 cv8
                go_wp2
                go_ret
                exact ⟨rfl, HE.out⟩
              · have dE : ((E : Int) == 0) = false := by simp; omega
                have dE2 : ¬ (E : Int) = 0 := by omega
                have HCM : Hid (Calm s3 3 6 (k + 1) l6) := hc
                have hR : Hid (l6 = loadL s3 3 6) := by rcases hc.told with ⟨h, _⟩ | ⟨_, _, h⟩; omega; exact h.symm
                have hH : Hid (0 = loadE s3 3 6) := by rcases hc.told with ⟨h, _⟩ | ⟨_, h, _⟩; omega; exact h.symm
                clear hc
                go_wp2_with (first | (at_builtin; refine wpList_append_run rfl _ _ 22 rfl _ _ _ rfl rfl R1.out ?_; clear R1) | (at_builtin; refine wpList_append_run rfl _ _ 22 rfl _ _ _ rfl rfl R2.out ?_))
                refine kt.mono ?_
                rintro e wd ⟨⟨vd, rfl⟩, hsd⟩
                have ksv := KSV.out wd hsd
                clear kt hsd R2 HSD KSV
                go_wp2_with fail
                refine ksv.mono ?_
                rintro e we ⟨rfl, hse⟩
                have kwk := wake_side hse
                rw [← HW3.out] at kwk
                clear ksv hse HW3
                go_wp2_with fail
                refine kwk.mono ?_
                rintro e wf ⟨⟨vf, rfl⟩, hsf⟩
                have HSF : Hid (Side w wf b g 3 6 s3 (some ⟨d, 0, none⟩) cd X) := hsf
                clear kwk hsf
                have kld := load_solo HSF.out.solo l6 0 hR.out hH.out
                rw [show ((0 : Nat) : Int) = 0 from rfl] at kld
                clear hR hH
                go_wp2_with fail
                refine kld.mono ?_
                rintro e wg ⟨d5, cd5, rfl, hs5, hb5⟩
                have HSG : Hid (Side w wg b g 3 6 s3 (some ⟨d, 0, none⟩) cd X) := HSF.out.next hb5
                have cv1 : ∀ n, (Go.convert 22 9 (.slice d5 l6.length cd5)).run Try.prog (wg.drewN n) = .ok (.string ⟨l6.toArray⟩) (wg.drewN n) := fun n => (hs5.drewN n).convert (P := Try.prog) 22 5 9 Try.underlying22 Try.underlying5 Try.underlying9
                have cv2 : ∀ n, (Go.convert 22 9 (.slice (some ⟨d, 0, none⟩) 6 cd)).run Try.prog (wg.drewN n) = .ok (.string ⟨l6.toArray⟩) (wg.drewN n) := fun n => by
                  have h9 := ((HSG.out.sees.take 6).drewN n).convert (P := Try.prog) 22 5 9 Try.underlying22 Try.underlying5 Try.underlying9
                  rwa [← HL6.out.1, HL6.out.2] at h9
                have cv0 : (Go.convert 22 9 (.slice d5 l6.length cd5)).run Try.prog wg = .ok (.string ⟨l6.toArray⟩) wg := hs5.convert (P := Try.prog) 22 5 9 Try.underlying22 Try.underlying5 Try.underlying9
                clear kld hb5 HSF hs5
                go_wp2_with fail
                go_quiet (fail)
                obtain ⟨W, hW⟩ : ∃ W, W = wg.drewN nq := ⟨_, rfl⟩
                have HSW : Hid (Solo w W b g 3 6 s3) := by rw [hW]; exact HSG.out.solo.next (below_drewN (Below.refl _ _) _)
                rw [← hW]
                clear hW HSG cv0 cv1 cv2
                obtain ⟨S4, hS4⟩ : ∃ S4, S4 = saveS s3 3 6 [7, 7, 7, 7, 7, 7] := ⟨_, rfl⟩
                have hcs := calm_save HCM.out (l := [7, 7, 7, 7, 7, 7]) (seven_pure _ (by omega)) rfl
                rw [← hS4] at hcs
                have HC4 : Hid (6 = ([7, 7, 7, 7, 7, 7] : List UInt8).length ∧ 0 = loadE S4 3 6 ∧ [7, 7, 7, 7, 7, 7] = loadL S4 3 6) := by
                  rcases hcs.2.told with ⟨h, _⟩ | ⟨_, h1, h2⟩
                  · omega
                  · exact ⟨rfl, h1.symm, h2.symm⟩
                have k7 : Calls Try.prog 15 #[.pointer (some ⟨b, 0, none⟩), .slice (some ⟨W.heap.size, 0, none⟩) 6 6] (W.alloc (.cells #[.int .u8 7, .int .u8 7, .int .u8 7, .int .u8 7, .int .u8 7, .int .u8 7] 5)) _ :=
                  save_solo HSW.out ((Below.refl _ _).alloc (Nat.le_refl _) _) (by omega) (some ⟨W.heap.size, 0, none⟩) 6 [7, 7, 7, 7, 7, 7] (sees_lit W [7, 7, 7, 7, 7, 7] 5 (0, 0) (by simp)) (fun bb off he _ => by simp only [Option.some.injEq, Addr.mk.injEq] at he; omega) 0 hcs.1.symm S4 hS4
                rw [show ((0 : Nat) : Int) = 0 from rfl] at k7
                clear hS4 hcs HCM
                go_wp2_with fail
                refine k7.mono ?_
                rintro e wi ⟨rfl, hsi, _⟩
                have kl7 : Calls Try.prog 19 #[.pointer (some ⟨b, 0, none⟩)] wi _ := load_solo hsi [7, 7, 7, 7, 7, 7] 0 HC4.out.2.2 HC4.out.2.1
                rw [show ((0 : Nat) : Int) = 0 from rfl, show ([7, 7, 7, 7, 7, 7] : List UInt8).length = 6 from rfl] at kl7
                have HBI : Hid (Below w.heap.size w wi) := hsi.low
                clear k7 hsi HSW HC4
                go_wp2_with fail
                refine kl7.mono ?_
                rintro e wj ⟨d7, cd7, rfl, hs7, hb7⟩
                have HBJ : Hid (Below w.heap.size w wj) := HBI.out.trans (hb7.mono HBI.out.size)
                have cv7 : (Go.convert 22 9 (.slice d7 6 cd7)).run Try.prog wj = .ok (.string ⟨([7, 7, 7, 7, 7, 7] : List UInt8).toArray⟩) wj := hs7.convert (P := Try.prog) 22 5 9 Try.underlying22 Try.underlying5 Try.underlying9
                have cv8 : (Go.convert 22 9 (.slice (some ⟨wj.heap.size, 0, none⟩) 6 6)).run Try.prog (wj.alloc (.cells #[.int .u8 7, .int .u8 7, .int .u8 7, .int .u8 7, .int .u8 7, .int .u8 7] 5)) = .ok (.string ⟨([7, 7, 7, 7, 7, 7] : List UInt8).toArray⟩) (wj.alloc (.cells #[.int .u8 7, .int .u8 7, .int .u8 7, .int .u8 7, .int .u8 7, .int .u8 7] 5)) := (sees_lit wj [7, 7, 7, 7, 7, 7] 5 (0, 0) (by simp)).convert (P := Try.prog) 22 5 9 Try.underlying22 Try.underlying5 Try.underlying9
                clear kl7 hs7 hb7 HBI
                go_wp2_with fail
                refine (awake_ok _).mono ?_
                rintro e wz ⟨rfl, hbz⟩
                have HE : Hid (Below w.heap.size w wz) := by
                  have h9 := HBJ.out.alloc HBJ.out.size (.cells #[.int .u8 7, .int .u8 7, .int .u8 7, .int .u8 7, .int .u8 7, .int .u8 7] 5)
                  exact h9.trans (hbz.mono h9.size)
                clear hbz HBJ cv7 cv8
                go_wp2
                go_ret
                exact ⟨rfl, HE.out⟩
        · obtain rfl : ha = false := by rw [HAK.out]; simp; omega
          clear hk0 HAK
          have dE : ((E : Int) == 0) = false := by simp; omega
          have dE2 : ¬ (E : Int) = 0 := by omega
          have HCM : Hid (Calm s3 3 6 0 D) := hc
          have hR : Hid ([] = loadL s3 3 6) := by
            rcases hc.told with ⟨_, h, _⟩ | ⟨h, _⟩
            · rw [loadL, if_neg (by simp [hc.dead]), h]; exact (rfl : ([] : List UInt8) = [])
            · omega
          have hH : Hid (8 = loadE s3 3 6) := by
            rcases hc.told with ⟨_, h, _⟩ | ⟨h, _⟩
            · rw [loadE, if_neg (by simp [hc.dead]), h]; exact (rfl : 8 = 8)
            · omega
          have HFR : Hid (true = freshB s3 3 6) := by
            rcases hc.told with ⟨_, _, h⟩ | ⟨h, _⟩
            · exact h.symm
            · omega
          clear hc
          go_wp2_with (first | (at_builtin; refine wpList_append_run rfl _ _ 22 rfl _ _ _ rfl rfl R1.out ?_; clear R1) | (at_builtin; refine wpList_append_run rfl _ _ 22 rfl _ _ _ rfl rfl R2.out ?_))
          refine kt.mono ?_
          rintro e wd ⟨⟨vd, rfl⟩, hsd⟩
          have ksv := KSV.out wd hsd
          clear kt hsd R2 HSD KSV
          go_wp2_with fail
          refine ksv.mono ?_
          rintro e we ⟨rfl, hse⟩
          have kwk := wake_side hse
          rw [← HW3.out] at kwk
          clear ksv hse HW3
          go_wp2_with fail
          refine kwk.mono ?_
          rintro e wf ⟨⟨vf, rfl⟩, hsf⟩
          have HSF : Hid (Side w wf b g 3 6 s3 (some ⟨d, 0, none⟩) cd X) := hsf
          clear kwk hsf
          have kld := load_solo HSF.out.solo [] 8 hR.out hH.out
          rw [show ((8 : Nat) : Int) = 8 from rfl] at kld
          rw [show ([] : List UInt8).length = 0 from rfl] at kld
          clear hR hH
          go_wp2_with fail
          refine kld.mono ?_
          rintro e wg ⟨d5, cd5, rfl, hs5, hb5⟩
          have HSG : Hid (Side w wg b g 3 6 s3 (some ⟨d, 0, none⟩) cd X) := HSF.out.next hb5
          have cv1 : ∀ n, (Go.convert 22 9 (.slice d5 0 cd5)).run Try.prog (wg.drewN n) = .ok (.string ⟨([] : List UInt8).toArray⟩) (wg.drewN n) := fun n => (hs5.drewN n).convert (P := Try.prog) 22 5 9 Try.underlying22 Try.underlying5 Try.underlying9
          have cv2 : ∀ n, (Go.convert 22 9 (.slice (some ⟨d, 0, none⟩) 6 cd)).run Try.prog (wg.drewN n) = .ok (.string ⟨l6.toArray⟩) (wg.drewN n) := fun n => by
            have h9 := ((HSG.out.sees.take 6).drewN n).convert (P := Try.prog) 22 5 9 Try.underlying22 Try.underlying5 Try.underlying9
            rwa [← HL6.out.1, HL6.out.2] at h9
          have cv0 : (Go.convert 22 9 (.slice d5 0 cd5)).run Try.prog wg = .ok (.string ⟨([] : List UInt8).toArray⟩) wg := hs5.convert (P := Try.prog) 22 5 9 Try.underlying22 Try.underlying5 Try.underlying9
          clear kld hb5 HSF hs5
          have kfr := fresh_solo HSG.out.solo true HFR.out
          clear HFR
          go_wp2_with fail
          refine kfr.mono ?_
          rintro e wh ⟨rfl, hbh⟩
          have HSH : Hid (Solo w wh b g 3 6 s3) := HSG.out.solo.next hbh
          clear kfr hbh HSG cv0 cv1 cv2
          go_wp2
          go_quiet (fail)
          obtain ⟨W, hW⟩ : ∃ W, W = wh.drewN nq := ⟨_, rfl⟩
          have HSW : Hid (Solo w W b g 3 6 s3) := by rw [hW]; exact HSH.out.next (below_drewN (Below.refl _ _) _)
          rw [← hW]
          clear hW HSH
          obtain ⟨S4, hS4⟩ : ∃ S4, S4 = saveS s3 3 6 [7, 7, 7, 7, 7, 7] := ⟨_, rfl⟩
          have hcs := calm_save HCM.out (l := [7, 7, 7, 7, 7, 7]) (seven_pure _ (by omega)) rfl
          rw [← hS4] at hcs
          have HC4 : Hid (6 = ([7, 7, 7, 7, 7, 7] : List UInt8).length ∧ 0 = loadE S4 3 6 ∧ [7, 7, 7, 7, 7, 7] = loadL S4 3 6) := by
            rcases hcs.2.told with ⟨h, _⟩ | ⟨_, h1, h2⟩
            · omega
            · exact ⟨rfl, h1.symm, h2.symm⟩
          have k7 : Calls Try.prog 15 #[.pointer (some ⟨b, 0, none⟩), .slice (some ⟨W.heap.size, 0, none⟩) 6 6] (W.alloc (.cells #[.int .u8 7, .int .u8 7, .int .u8 7, .int .u8 7, .int .u8 7, .int .u8 7] 5)) _ :=
            save_solo HSW.out ((Below.refl _ _).alloc (Nat.le_refl _) _) (by omega) (some ⟨W.heap.size, 0, none⟩) 6 [7, 7, 7, 7, 7, 7] (sees_lit W [7, 7, 7, 7, 7, 7] 5 (0, 0) (by simp)) (fun bb off he _ => by simp only [Option.some.injEq, Addr.mk.injEq] at he; omega) 0 hcs.1.symm S4 hS4
          rw [show ((0 : Nat) : Int) = 0 from rfl] at k7
          clear hS4 hcs HCM
          go_wp2_with fail
          refine k7.mono ?_
          rintro e wi ⟨rfl, hsi, _⟩
          have kl7 : Calls Try.prog 19 #[.pointer (some ⟨b, 0, none⟩)] wi _ := load_solo hsi [7, 7, 7, 7, 7, 7] 0 HC4.out.2.2 HC4.out.2.1
          rw [show ((0 : Nat) : Int) = 0 from rfl, show ([7, 7, 7, 7, 7, 7] : List UInt8).length = 6 from rfl] at kl7
          have HBI : Hid (Below w.heap.size w wi) := hsi.low
          clear k7 hsi HSW HC4
          go_wp2_with fail
          refine kl7.mono ?_
          rintro e wj ⟨d7, cd7, rfl, hs7, hb7⟩
          have HBJ : Hid (Below w.heap.size w wj) := HBI.out.trans (hb7.mono HBI.out.size)
          have cv7 : (Go.convert 22 9 (.slice d7 6 cd7)).run Try.prog wj = .ok (.string ⟨([7, 7, 7, 7, 7, 7] : List UInt8).toArray⟩) wj := hs7.convert (P := Try.prog) 22 5 9 Try.underlying22 Try.underlying5 Try.underlying9
          have cv8 : (Go.convert 22 9 (.slice (some ⟨wj.heap.size, 0, none⟩) 6 6)).run Try.prog (wj.alloc (.cells #[.int .u8 7, .int .u8 7, .int .u8 7, .int .u8 7, .int .u8 7, .int .u8 7] 5)) = .ok (.string ⟨([7, 7, 7, 7, 7, 7] : List UInt8).toArray⟩) (wj.alloc (.cells #[.int .u8 7, .int .u8 7, .int .u8 7, .int .u8 7, .int .u8 7, .int .u8 7] 5)) := (sees_lit wj [7, 7, 7, 7, 7, 7] 5 (0, 0) (by simp)).convert (P := Try.prog) 22 5 9 Try.underlying22 Try.underlying5 Try.underlying9
          clear kl7 hs7 hb7 HBI
          go_wp2_with fail
          refine (awake_ok _).mono ?_
          rintro e wz ⟨rfl, hbz⟩
          have HE : Hid (Below w.heap.size w wz) := by
            have h9 := HBJ.out.alloc HBJ.out.size (.cells #[.int .u8 7, .int .u8 7, .int .u8 7, .int .u8 7, .int .u8 7, .int .u8 7] 5)
            exact h9.trans (hbz.mono h9.size)
          clear hbz HBJ cv7 cv8
          go_wp2
          go_ret
          exact ⟨rfl, HE.out⟩
        · obtain rfl : ha = true := by rw [HAK.out]; simp; omega
          clear HAK
          have dE : ((E : Int) == 0) = false := by simp; omega
          have dE2 : ¬ (E : Int) = 0 := by omega
          by_cases hRD : l6 = D
          · subst hRD
            have HCM : Hid (Calm s3 3 6 k l6) := hc
            have hR : Hid (l6 = loadL s3 3 6) := by rcases hc.told with ⟨h, _⟩ | ⟨_, _, h⟩; omega; exact h.symm
            have hH : Hid (0 = loadE s3 3 6) := by rcases hc.told with ⟨h, _⟩ | ⟨_, h, _⟩; omega; exact h.symm
            clear hc
            go_wp2_with (first | (at_builtin; refine wpList_append_run rfl _ _ 22 rfl _ _ _ rfl rfl R1.out ?_; clear R1) | (at_builtin; refine wpList_append_run rfl _ _ 22 rfl _ _ _ rfl rfl R2.out ?_))
            refine kt.mono ?_
            rintro e wd ⟨⟨vd, rfl⟩, hsd⟩
            have ksv := KSV.out wd hsd
            clear kt hsd R2 HSD KSV
            go_wp2_with fail
            refine ksv.mono ?_
            rintro e we ⟨rfl, hse⟩
            have kwk := wake_side hse
            rw [← HW3.out] at kwk
            clear ksv hse HW3
            go_wp2_with fail
            refine kwk.mono ?_
            rintro e wf ⟨⟨vf, rfl⟩, hsf⟩
            have HSF : Hid (Side w wf b g 3 6 s3 (some ⟨d, 0, none⟩) cd X) := hsf
            clear kwk hsf
            have kld := load_solo HSF.out.solo l6 0 hR.out hH.out
            rw [show ((0 : Nat) : Int) = 0 from rfl] at kld
            clear hR hH
            go_wp2_with fail
            refine kld.mono ?_
            rintro e wg ⟨d5, cd5, rfl, hs5, hb5⟩
            have HSG : Hid (Side w wg b g 3 6 s3 (some ⟨d, 0, none⟩) cd X) := HSF.out.next hb5
            have cv1 : ∀ n, (Go.convert 22 9 (.slice d5 l6.length cd5)).run Try.prog (wg.drewN n) = .ok (.string ⟨l6.toArray⟩) (wg.drewN n) := fun n => (hs5.drewN n).convert (P := Try.prog) 22 5 9 Try.underlying22 Try.underlying5 Try.underlying9
            have cv2 : ∀ n, (Go.convert 22 9 (.slice (some ⟨d, 0, none⟩) 6 cd)).run Try.prog (wg.drewN n) = .ok (.string ⟨l6.toArray⟩) (wg.drewN n) := fun n => by
              have h9 := ((HSG.out.sees.take 6).drewN n).convert (P := Try.prog) 22 5 9 Try.underlying22 Try.underlying5 Try.underlying9
              rwa [← HL6.out.1, HL6.out.2] at h9
            have cv0 : (Go.convert 22 9 (.slice d5 l6.length cd5)).run Try.prog wg = .ok (.string ⟨l6.toArray⟩) wg := hs5.convert (P := Try.prog) 22 5 9 Try.underlying22 Try.underlying5 Try.underlying9
            clear kld hb5 HSF hs5
            go_wp2_with fail
            go_quiet (fail)
            obtain ⟨W, hW⟩ : ∃ W, W = wg.drewN nq := ⟨_, rfl⟩
            have HSW : Hid (Solo w W b g 3 6 s3) := by rw [hW]; exact HSG.out.solo.next (below_drewN (Below.refl _ _) _)
            rw [← hW]
            clear hW HSG cv0 cv1 cv2
            obtain ⟨S4, hS4⟩ : ∃ S4, S4 = saveS s3 3 6 [7, 7, 7, 7, 7, 7] := ⟨_, rfl⟩
            have hcs := calm_save HCM.out (l := [7, 7, 7, 7, 7, 7]) (seven_pure _ (by omega)) rfl
            rw [← hS4] at hcs
            have HC4 : Hid (6 = ([7, 7, 7, 7, 7, 7] : List UInt8).length ∧ 0 = loadE S4 3 6 ∧ [7, 7, 7, 7, 7, 7] = loadL S4 3 6) := by
              rcases hcs.2.told with ⟨h, _⟩ | ⟨_, h1, h2⟩
              · omega
              · exact ⟨rfl, h1.symm, h2.symm⟩
            have k7 : Calls Try.prog 15 #[.pointer (some ⟨b, 0, none⟩), .slice (some ⟨W.heap.size, 0, none⟩) 6 6] (W.alloc (.cells #[.int .u8 7, .int .u8 7, .int .u8 7, .int .u8 7, .int .u8 7, .int .u8 7] 5)) _ :=
              save_solo HSW.out ((Below.refl _ _).alloc (Nat.le_refl _) _) (by omega) (some ⟨W.heap.size, 0, none⟩) 6 [7, 7, 7, 7, 7, 7] (sees_lit W [7, 7, 7, 7, 7, 7] 5 (0, 0) (by simp)) (fun bb off he _ => by simp only [Option.some.injEq, Addr.mk.injEq] at he; omega) 0 hcs.1.symm S4 hS4
            rw [show ((0 : Nat) : Int) = 0 from rfl] at k7
            clear hS4 hcs HCM
            go_wp2_with fail
            refine k7.mono ?_
            rintro e wi ⟨rfl, hsi, _⟩
            have kl7 : Calls Try.prog 19 #[.pointer (some ⟨b, 0, none⟩)] wi _ := load_solo hsi [7, 7, 7, 7, 7, 7] 0 HC4.out.2.2 HC4.out.2.1
            rw [show ((0 : Nat) : Int) = 0 from rfl, show ([7, 7, 7, 7, 7, 7] : List UInt8).length = 6 from rfl] at kl7
            have HBI : Hid (Below w.heap.size w wi) := hsi.low
            clear k7 hsi HSW HC4
            go_wp2_with fail
            refine kl7.mono ?_
            rintro e wj ⟨d7, cd7, rfl, hs7, hb7⟩
            have HBJ : Hid (Below w.heap.size w wj) := HBI.out.trans (hb7.mono HBI.out.size)
            have cv7 : (Go.convert 22 9 (.slice d7 6 cd7)).run Try.prog wj = .ok (.string ⟨([7, 7, 7, 7, 7, 7] : List UInt8).toArray⟩) wj := hs7.convert (P := Try.prog) 22 5 9 Try.underlying22 Try.underlying5 Try.underlying9
            have cv8 : (Go.convert 22 9 (.slice (some ⟨wj.heap.size, 0, none⟩) 6 6)).run Try.prog (wj.alloc (.cells #[.int .u8 7, .int .u8 7, .int .u8 7, .int .u8 7, .int .u8 7, .int .u8 7] 5)) = .ok (.string ⟨([7, 7, 7, 7, 7, 7] : List UInt8).toArray⟩) (wj.alloc (.cells #[.int .u8 7, .int .u8 7, .int .u8 7, .int .u8 7, .int .u8 7, .int .u8 7] 5)) := (sees_lit wj [7, 7, 7, 7, 7, 7] 5 (0, 0) (by simp)).convert (P := Try.prog) 22 5 9 Try.underlying22 Try.underlying5 Try.underlying9
            clear kl7 hs7 hb7 HBI
            go_wp2_with fail
            refine (awake_ok _).mono ?_
            rintro e wz ⟨rfl, hbz⟩
            have HE : Hid (Below w.heap.size w wz) := by
              have h9 := HBJ.out.alloc HBJ.out.size (.cells #[.int .u8 7, .int .u8 7, .int .u8 7, .int .u8 7, .int .u8 7, .int .u8 7] 5)
              exact h9.trans (hbz.mono h9.size)
            clear hbz HBJ cv7 cv8
            go_wp2
            go_ret
            exact ⟨rfl, HE.out⟩
          · replace hRD : ¬ D = l6 := fun h => hRD h.symm
            have HCM : Hid (Calm s3 3 6 k D) := hc
            have hR : Hid (D = loadL s3 3 6) := by rcases hc.told with ⟨h, _⟩ | ⟨_, _, h⟩; omega; exact h.symm
            have hH : Hid (0 = loadE s3 3 6) := by rcases hc.told with ⟨h, _⟩ | ⟨_, h, _⟩; omega; exact h.symm
            clear hc
            go_wp2_with (first | (at_builtin; refine wpList_append_run rfl _ _ 22 rfl _ _ _ rfl rfl R1.out ?_; clear R1) | (at_builtin; refine wpList_append_run rfl _ _ 22 rfl _ _ _ rfl rfl R2.out ?_))
            refine kt.mono ?_
            rintro e wd ⟨⟨vd, rfl⟩, hsd⟩
            have ksv := KSV.out wd hsd
            clear kt hsd R2 HSD KSV
            go_wp2_with fail
            refine ksv.mono ?_
            rintro e we ⟨rfl, hse⟩
            have kwk := wake_side hse
            rw [← HW3.out] at kwk
            clear ksv hse HW3
            go_wp2_with fail
            refine kwk.mono ?_
            rintro e wf ⟨⟨vf, rfl⟩, hsf⟩
            have HSF : Hid (Side w wf b g 3 6 s3 (some ⟨d, 0, none⟩) cd X) := hsf
            clear kwk hsf
            have kld := load_solo HSF.out.solo D 0 hR.out hH.out
            rw [show ((0 : Nat) : Int) = 0 from rfl] at kld
            clear hR hH
            go_wp2_with fail
            refine kld.mono ?_
            rintro e wg ⟨d5, cd5, rfl, hs5, hb5⟩
            have HSG : Hid (Side w wg b g 3 6 s3 (some ⟨d, 0, none⟩) cd X) := HSF.out.next hb5
            have cv1 : ∀ n, (Go.convert 22 9 (.slice d5 D.length cd5)).run Try.prog (wg.drewN n) = .ok (.string ⟨D.toArray⟩) (wg.drewN n) := fun n => (hs5.drewN n).convert (P := Try.prog) 22 5 9 Try.underlying22 Try.underlying5 Try.underlying9
            have cv2 : ∀ n, (Go.convert 22 9 (.slice (some ⟨d, 0, none⟩) 6 cd)).run Try.prog (wg.drewN n) = .ok (.string ⟨l6.toArray⟩) (wg.drewN n) := fun n => by
              have h9 := ((HSG.out.sees.take 6).drewN n).convert (P := Try.prog) 22 5 9 Try.underlying22 Try.underlying5 Try.underlying9
              rwa [← HL6.out.1, HL6.out.2] at h9
            have cv0 : (Go.convert 22 9 (.slice d5 D.length cd5)).run Try.prog wg = .ok (.string ⟨D.toArray⟩) wg := hs5.convert (P := Try.prog) 22 5 9 Try.underlying22 Try.underlying5 Try.underlying9
            clear kld hb5 HSF hs5
            go_wp2_with fail
            go_quiet (fail)
            obtain ⟨W, hW⟩ : ∃ W, W = wg.drewN nq := ⟨_, rfl⟩
            have HSW : Hid (Solo w W b g 3 6 s3) := by rw [hW]; exact HSG.out.solo.next (below_drewN (Below.refl _ _) _)
            rw [← hW]
            clear hW HSG cv0 cv1 cv2
            obtain ⟨S4, hS4⟩ : ∃ S4, S4 = saveS s3 3 6 [7, 7, 7, 7, 7, 7] := ⟨_, rfl⟩
            have hcs := calm_save HCM.out (l := [7, 7, 7, 7, 7, 7]) (seven_pure _ (by omega)) rfl
            rw [← hS4] at hcs
            have HC4 : Hid (6 = ([7, 7, 7, 7, 7, 7] : List UInt8).length ∧ 0 = loadE S4 3 6 ∧ [7, 7, 7, 7, 7, 7] = loadL S4 3 6) := by
              rcases hcs.2.told with ⟨h, _⟩ | ⟨_, h1, h2⟩
              · omega
              · exact ⟨rfl, h1.symm, h2.symm⟩
            have k7 : Calls Try.prog 15 #[.pointer (some ⟨b, 0, none⟩), .slice (some ⟨W.heap.size, 0, none⟩) 6 6] (W.alloc (.cells #[.int .u8 7, .int .u8 7, .int .u8 7, .int .u8 7, .int .u8 7, .int .u8 7] 5)) _ :=
              save_solo HSW.out ((Below.refl _ _).alloc (Nat.le_refl _) _) (by omega) (some ⟨W.heap.size, 0, none⟩) 6 [7, 7, 7, 7, 7, 7] (sees_lit W [7, 7, 7, 7, 7, 7] 5 (0, 0) (by simp)) (fun bb off he _ => by simp only [Option.some.injEq, Addr.mk.injEq] at he; omega) 0 hcs.1.symm S4 hS4
            rw [show ((0 : Nat) : Int) = 0 from rfl] at k7
            clear hS4 hcs HCM
            go_wp2_with fail
            refine k7.mono ?_
            rintro e wi ⟨rfl, hsi, _⟩
            have kl7 : Calls Try.prog 19 #[.pointer (some ⟨b, 0, none⟩)] wi _ := load_solo hsi [7, 7, 7, 7, 7, 7] 0 HC4.out.2.2 HC4.out.2.1
            rw [show ((0 : Nat) : Int) = 0 from rfl, show ([7, 7, 7, 7, 7, 7] : List UInt8).length = 6 from rfl] at kl7
            have HBI : Hid (Below w.heap.size w wi) := hsi.low
            clear k7 hsi HSW HC4
            go_wp2_with fail
            refine kl7.mono ?_
            rintro e wj ⟨d7, cd7, rfl, hs7, hb7⟩
            have HBJ : Hid (Below w.heap.size w wj) := HBI.out.trans (hb7.mono HBI.out.size)
            have cv7 : (Go.convert 22 9 (.slice d7 6 cd7)).run Try.prog wj = .ok (.string ⟨([7, 7, 7, 7, 7, 7] : List UInt8).toArray⟩) wj := hs7.convert (P := Try.prog) 22 5 9 Try.underlying22 Try.underlying5 Try.underlying9
            have cv8 : (Go.convert 22 9 (.slice (some ⟨wj.heap.size, 0, none⟩) 6 6)).run Try.prog (wj.alloc (.cells #[.int .u8 7, .int .u8 7, .int .u8 7, .int .u8 7, .int .u8 7, .int .u8 7] 5)) = .ok (.string ⟨([7, 7, 7, 7, 7, 7] : List UInt8).toArray⟩) (wj.alloc (.cells #[.int .u8 7, .int .u8 7, .int .u8 7, .int .u8 7, .int .u8 7, .int .u8 7] 5)) := (sees_lit wj [7, 7, 7, 7, 7, 7] 5 (0, 0) (by simp)).convert (P := Try.prog) 22 5 9 Try.underlying22 Try.underlying5 Try.underlying9
            clear kl7 hs7 hb7 HBI
            go_wp2_with fail
            refine (awake_ok _).mono ?_
            rintro e wz ⟨rfl, hbz⟩
            have HE : Hid (Below w.heap.size w wz) := by
              have h9 := HBJ.out.alloc HBJ.out.size (.cells #[.int .u8 7, .int .u8 7, .int .u8 7, .int .u8 7, .int .u8 7, .int .u8 7] 5)
              exact h9.trans (hbz.mono h9.size)
            clear hbz HBJ cv7 cv8
            go_wp2
            go_ret
            exact ⟨rfl, HE.out⟩
end Go.Proofs.Ytgnllmcgebonpaa
