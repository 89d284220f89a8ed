/-
  The walk of BankPlays.
-/
import Derived.Test.YtgnllmcgebonpaaBankG
import Derived.Test.YtgnllmcgebonpaaGround
import Derived.Deep.Cut
import Derived.Deep.CutBlock
import Derived.Deep.DeepCutAuto
namespace Go.Proofs.Ytgnllmcgebonpaa
open Go.ChangeShapes Go.WideShapes Go.ChangeAt Go.RowKit

set_option maxHeartbeats 32000000 in
set_option maxRecDepth 20000 in
theorem plays_walk (a0 : Option Addr) (c0 : Nat) (fl : List UInt8) (x1 x2 x3 : Int) (a4 : Option Addr) (c4 : Nat) (LL : List (List UInt8)) (a5 : Option Addr) (c5 : Nat) (kl : List Int) (a6 : Option Addr) (c6 : Nat) (ml : List Int) (w : World)
    (s0 : Sees w a0 c0 fl) (_m0 : c0 ≤ 140737488351232) (w1 : (Lit.int .i64 x1).wf = true) (w2 : (Lit.int .i64 x2).wf = true) (w3 : (Lit.int .i64 x3).wf = true) (s4 : Rowss w a4 c4 LL) (s5 : Nums .i64 w a5 c5 kl) (s6 : Nums .i64 w a6 c6 ml) :
    Calls Try.prog 3 #[.slice a0 fl.length c0, .int .i64 x1, .int .i64 x2, .int .i64 x3, .slice a4 LL.length c4, .slice a5 kl.length c5, .slice a6 ml.length c6] w fun e w' => e = .returned (.bool true) ∧ Below w.heap.size w w' := by
  have H0 : Hid (Sees w a0 c0 fl) := s0
  have H4 : Hid (Rowss w a4 c4 LL) := s4
  have H5 : Hid (Nums .i64 w a5 c5 kl) := s5
  have H6 : Hid (Nums .i64 w a6 c6 ml) := s6
  have l0 : fl.length ≤ 9223372036854775807 := by have := s0.fits; have := s0.room; unfold maxLen at this; omega
  have l4 := s4.len
  have l5 := s5.len
  have l6 := s6.len
  have b1 := bounds_i64 w1
  have W2 : Hid ((Lit.int .i64 x2).wf = true) := w2
  have W3 : Hid ((Lit.int .i64 x3).wf = true) := w3
  clear s0 s4 s5 s6 _m0 w1 w2 w3
  by_cases hbad : x1 < 0 ∨ 4096 < x1
  · have hn := new_refused w x1 hbad
    have hr := rnew_refused w x1 hbad
    clear hbad
    go_enter Try.func3, Try.ntmps3
    go_wp2_with fail
    refine hn.mono ?_
    rintro e w1 ⟨rfl, rfl⟩
    clear hn
    go_wp2_with fail
    refine hr.mono ?_
    rintro e w2 ⟨rfl, rfl⟩
    clear hr
    go_wp2_with fail
    refine (awake_ok _).mono ?_
    rintro e w3 ⟨rfl, hb3⟩
    have HE : Hid (Below w2.heap.size w2 w3) := hb3
    clear hb3
    go_wp2
    go_ret
    exact ⟨rfl, HE.out⟩
  obtain ⟨n, rfl⟩ : ∃ n : Nat, x1 = (n : Int) := ⟨x1.toNat, by omega⟩
  have hn := new_held w n (by omega)
  have hnn : n ≤ 4096 := by omega
  clear hbad b1
  go_enter Try.func3, Try.ntmps3
  go_wp2_with fail
  refine hn.mono ?_
  rintro e w1 ⟨g, rfl, h1⟩
  clear hn
  have hr := rnew_duo h1 n hnn
  clear h1
  go_wp2_with fail
  refine hr.mono ?_
  rintro e w2 ⟨r, rfl, h2⟩
  clear hr
  obtain ⟨s1, hs1⟩ : ∃ s1, s1 = writeS (newS n) 0 fl := ⟨_, rfl⟩
  obtain ⟨t1, ht1⟩ : ∃ t1, t1 = rwriteT (rnewT n) 0 fl := ⟨_, rfl⟩
  obtain ⟨E1, hE1⟩ : ∃ E1, E1 = writeE (newS n) 0 fl := ⟨_, rfl⟩
  obtain ⟨E2, hE2⟩ : ∃ E2, E2 = rwriteE (rnewT n) 0 fl := ⟨_, rfl⟩
  have HS1 : Hid (Sim s1 t1 ∧ s1.n ≤ 1 ∧ s1.b.length = n) := by
    rw [hs1, ht1]
    exact ⟨(sim_write (sim_new n) 0 fl).2, by have := write_n (newS n) 0 fl; simpa [newS] using this, by rw [write_len]; simp [newS]⟩
  have kw : Calls Try.prog 9 #[.pointer (some ⟨g, 0, none⟩), .int .i64 0, .slice a0 fl.length c0] w2 _ := pwrite_duo h2 (by simp [newS]) 0 (by decide) a0 c0 fl H0.out
  rw [← hE1, ← hs1] at kw
  clear hs1 hE1 h2
  go_wp2_with fail
  refine kw.mono ?_
  rintro e w3 ⟨rfl, h3⟩
  clear kw
  have kw : Calls Try.prog 10 #[.pointer (some ⟨r, 0, none⟩), .int .i64 0, .slice a0 fl.length c0] w3 _ := rwrite_duo h3 (by simp [rnewT]) 0 a0 c0 fl H0.out
  rw [← hE2, ← ht1] at kw
  clear ht1 hE2 h3
  go_wp2_with fail
  refine kw.mono ?_
  rintro e w4 ⟨rfl, h4⟩
  clear kw
  by_cases hm : mayB s1.b.length x2 x3
  · obtain ⟨A, rfl⟩ : ∃ A : Nat, x2 = (A : Int) := ⟨x2.toNat, by obtain ⟨_, _, h, _⟩ := hm; omega⟩
    obtain ⟨N, rfl⟩ : ∃ N : Nat, x3 = (N : Int) := ⟨x3.toNat, by obtain ⟨h, _⟩ := hm; omega⟩
    have HM : Hid (mayB s1.b.length A N) := hm
    have kb := bnew_trio h4 A N hm
    clear h4 hm
    go_wp2_with fail
    refine kb.mono ?_
    rintro e w5 ⟨b, rfl, h5⟩
    clear kb
    have kb := rbnew_quad h5 HS1.out.1 HM.out (by rw [HS1.out.2.2]; exact hnn)
    clear h5
    go_wp2_with fail
    refine kb.mono ?_
    rintro e w6 ⟨v, rfl, h6⟩
    clear kb
    have HQ0 : Hid (Quad w w6 b g v r A N s1 t1) := h6
    clear h6 HM
    go_wp2
    go_loopw [23] (fun u wr => ∃ (k : Nat) (s : PS) (t : RS), k ≤ 20 ∧ u = .int .i64 (k : Int) ∧ Sim s t ∧ s.n ≤ 3 * k + 1 ∧ Quad w wr b g v r A N s t) (fun u _ => 20 - (intOf u).toNat)
    case atStart => exact ⟨0, s1, t1, by omega, rfl, HS1.out.1, by have := HS1.out.2.1; omega, HQ0.out⟩
    case round =>
      obtain ⟨k, s, t, hk, rfl, hsim, hsn, hq⟩ := hrel
      clear HQ0 HS1
      have g0 : (0 : Int) ≤ (k : Int) := Int.natCast_nonneg _
      by_cases hall : k < LL.length ∧ k < kl.length ∧ k < ml.length ∧ k < 20
      · obtain ⟨k1, k2, k3, k4⟩ := hall
        obtain ⟨l, hl⟩ : ∃ l, LL[k]? = some l := ⟨LL[k], by simp [k1]⟩
        obtain ⟨zk, hzk⟩ : ∃ z, kl[k]? = some z := ⟨kl[k], by simp [k2]⟩
        obtain ⟨zm, hzm⟩ : ∃ z, ml[k]? = some z := ⟨ml[k], by simp [k3]⟩
        obtain ⟨kb, ko, rfl, ck⟩ := H5.out.get hzk
        obtain ⟨mb, mo, rfl, cm⟩ := H6.out.get hzm
        obtain ⟨lb, lo, rfl, x, cx, cl, hx⟩ := H4.out.at' k l hl
        have HWK : Hid ((Lit.int .i64 zk).wf = true) := H5.out.wf zk (List.mem_of_getElem? hzk)
        have HWM : Hid ((Lit.int .i64 zm).wf = true) := H6.out.wf zm (List.mem_of_getElem? hzm)
        have HX : Hid (Sees w x cx l) := hx
        have HSK : Hid (∀ W, Below w.heap.size w W → W.cell? ⟨kb, ko + k, none⟩ = some (.int .i64 zk) ∧ W.cell? ⟨mb, mo + k, none⟩ = some (.int .i64 zm) ∧ W.cell? ⟨lb, lo + k, none⟩ = some (.slice x l.length cx)) := fun w' hb' =>
          ⟨by rw [hb'.cell (p := ⟨kb, ko + k, none⟩) (World.block_lt_of_cell? w _ ck)]; exact ck, by rw [hb'.cell (p := ⟨mb, mo + k, none⟩) (World.block_lt_of_cell? w _ cm)]; exact cm, by rw [hb'.cell (p := ⟨lb, lo + k, none⟩) (World.block_lt_of_cell? w _ cl)]; exact cl⟩
        have t1 : decide ((k : Int) < (LL.length : Int)) = true := by simp; omega
        have t2 : decide ((k : Int) < (kl.length : Int)) = true := by simp; omega
        have t3 : decide ((k : Int) < (ml.length : Int)) = true := by simp; omega
        have t4 : decide ((k : Int) < 20) = true := by simp; omega
        have i1 : (k : Int) < (LL.length : Int) := by omega
        have i2 : (k : Int) < (kl.length : Int) := by omega
        have i3 : (k : Int) < (ml.length : Int) := by omega
        obtain ⟨K3, hK3⟩ : ∃ K3, K3 = k % 3 := ⟨_, rfl⟩
        have m1 : ((k : Int)).tmod 3 = (K3 : Int) := by rw [Int.tmod_eq_emod_of_nonneg (by omega)]; omega
        have m2 : ((k : Int)) % 3 = (K3 : Int) := by omega
        have HQU : Hid (Quad w wr b g v r A N s t) := hq
        obtain ⟨s2, hs2⟩ : ∃ s2, s2 = tearS s zk zm := ⟨_, rfl⟩
        obtain ⟨t2', ht2⟩ : ∃ t2', t2' = rtearT t zk zm := ⟨_, rfl⟩
        have hsim2 : Sim s2 t2' := by rw [hs2, ht2]; exact hsim.torn zk zm
        have hn2 : s2.n = s.n := by rw [hs2, tear_n]
        have HP : Hid (Calls Try.prog 13 #[.pointer (some ⟨g, 0, none⟩), .int .i64 zk, .int .i64 zm] wr.drew fun e w' => (∃ z, e = .returned z) ∧ Quad w w' b g v r A N s2 t) := by rw [hs2]; exact ptear_quad hq.drew zk zm HWK.out HWM.out
        have HQ : Hid (∀ W, Quad w W b g v r A N s2 t → Calls Try.prog 14 #[.pointer (some ⟨r, 0, none⟩), .int .i64 zk, .int .i64 zm] W fun e w' => (∃ z, e = .returned z) ∧ Quad w w' b g v r A N s2 t2') := fun W hW => by rw [ht2]; exact rtear_quad hW zk zm HWK.out HWM.out
        obtain ⟨E, hE⟩ : ∃ E, E = saveE s2 A N l := ⟨_, rfl⟩
        obtain ⟨s3, hs3⟩ : ∃ s3, s3 = saveS s2 A N l := ⟨_, rfl⟩
        obtain ⟨t3', ht3⟩ : ∃ t3', t3' = rsaveT t2' A N l := ⟨_, rfl⟩
        have hsv := hsim2.save A N l
        have HP2 : Hid (∀ W, Quad w W b g v r A N s2 t2' → Calls Try.prog 15 #[.pointer (some ⟨b, 0, none⟩), .slice x l.length cx] W fun e w' => e = .returned (.int .i64 (E : Int)) ∧ Quad w w' b g v r A N s3 t2') := fun W hW => psave_quad hW (by omega) x cx l HX.out E hE s3 hs3
        have HQ2 : Hid (∀ W, Quad w W b g v r A N s3 t2' → Calls Try.prog 16 #[.pointer (some ⟨v, 0, none⟩), .slice x l.length cx] W fun e w' => e = .returned (.int .i64 (E : Int)) ∧ Quad w w' b g v r A N s3 t3') := fun W hW => rsave_quad hW (by have := hsim2.n; omega) x cx l HX.out E (by rw [hE, hsv.1]) t3' ht3
        have HS3 : Hid (Sim s3 t3' ∧ s3.n ≤ 3 * (k + 1) + 1) := ⟨by rw [hs3, ht3]; exact hsv.2, by rw [hs3]; have := save_n s2 A N l; omega⟩
        clear hl hzk hzm ck cm cl hx hq hsim hsn hs2 ht2 hsim2 hn2 hE hs3 ht3 hsv hK3 HX HWK HWM H0 H4 H5 H6
        go_wp2
        refine wp_region_noPanic ?_
        refine wp_region_held (S := fun W => W.cell? ⟨kb, ko + k, none⟩ = some (.int .i64 zk) ∧ W.cell? ⟨mb, mo + k, none⟩ = some (.int .i64 zm)) (by kernel_rfl) ?_
        have hS := (show (fun W => W.cell? ⟨kb, ko + k, none⟩ = some (.int .i64 zk) ∧ W.cell? ⟨mb, mo + k, none⟩ = some (.int .i64 zm)) wr.drew from ⟨(HSK.out _ HQU.out.low.drew).1, (HSK.out _ HQU.out.low.drew).2.1⟩)
        refine any_take 0 ?vran1 rfl (by kernel_rfl) (by kernel_rfl) (by kernel_rfl) (fun _ _ _ h => h) (by rfl) ?hran1 hS ?_
        case hran1 => (intro w hSw; (try dsimp only at hSw); go_split_ands; go_simp; (try with_reducible rfl))
        (try simp only [Act.put, List.setIfInBounds_toArray, List.set_cons_zero, List.set_cons_succ])
        refine any_take 1 ?vran2 rfl (by kernel_rfl) (by kernel_rfl) (by kernel_rfl) (fun _ _ _ h => h) (by rfl) ?hran2 hS ?_
        case hran2 => (intro w hSw; (try dsimp only at hSw); go_split_ands; go_simp; (try with_reducible rfl))
        (try simp only [Act.put, List.setIfInBounds_toArray, List.set_cons_zero, List.set_cons_succ])
        refine any_take 2 ?vran3 rfl (by kernel_rfl) (by kernel_rfl) (by kernel_rfl) (fun _ _ _ h => h) (by rfl) ?hran3 hS ?_
        case hran3 => (intro w hSw; (try dsimp only at hSw); go_split_ands; go_simp; (try with_reducible rfl))
        (try simp only [Act.put, List.setIfInBounds_toArray, List.set_cons_zero, List.set_cons_succ])
        refine any_take 3 ?vran4 rfl (by kernel_rfl) (by kernel_rfl) (by kernel_rfl) (fun _ _ _ h => h) (by rfl) ?hran4 hS ?_
        case hran4 => (intro w hSw; (try dsimp only at hSw); go_split_ands; go_simp; (try with_reducible rfl))
        (try simp only [Act.put, List.setIfInBounds_toArray, List.set_cons_zero, List.set_cons_succ])
        refine any_take 4 ?vran5 rfl (by kernel_rfl) (by kernel_rfl) (by kernel_rfl) (fun _ _ _ h => h) (by rfl) ?hran5 hS ?_
        case hran5 => (intro w hSw; (try dsimp only at hSw); go_split_ands; go_simp; (try with_reducible rfl))
        (try simp only [Act.put, List.setIfInBounds_toArray, List.set_cons_zero, List.set_cons_succ])
        refine any_take 5 ?vran6 rfl (by kernel_rfl) (by kernel_rfl) (by kernel_rfl) (fun _ _ _ h => h) (by rfl) ?hran6 hS ?_
        case hran6 => (intro w hSw; (try dsimp only at hSw); go_split_ands; go_simp; (try with_reducible rfl))
        (try simp only [Act.put, List.setIfInBounds_toArray, List.set_cons_zero, List.set_cons_succ])
        refine any_take 6 ?vran7 rfl (by kernel_rfl) (by kernel_rfl) (by kernel_rfl) (fun _ _ _ h => h) (by rfl) ?hran7 hS ?_
        case hran7 => (intro w hSw; (try dsimp only at hSw); go_split_ands; go_simp; (try with_reducible rfl))
        (try simp only [Act.put, List.setIfInBounds_toArray, List.set_cons_zero, List.set_cons_succ])
        refine any_take 7 ?vran8 rfl (by kernel_rfl) (by kernel_rfl) (by kernel_rfl) (fun _ _ _ h => h) (by rfl) ?hran8 hS ?_
        case hran8 => (intro w hSw; (try dsimp only at hSw); go_split_ands; go_simp; (try with_reducible rfl))
        (try simp only [Act.put, List.setIfInBounds_toArray, List.set_cons_zero, List.set_cons_succ])
        refine any_take 8 ?vran9 rfl (by kernel_rfl) (by kernel_rfl) (by kernel_rfl) (fun _ _ _ h => h) (by rfl) ?hran9 hS ?_
        case hran9 => (intro w hSw; (try dsimp only at hSw); go_split_ands; go_simp; (try with_reducible rfl))
        (try simp only [Act.put, List.setIfInBounds_toArray, List.set_cons_zero, List.set_cons_succ])
        refine any_one 9 rfl (by kernel_rfl) (by rfl) (fun K hK => ?_)
        clear hS
        go_simp
        refine HP.out.mono ?_
        rintro e wa ⟨⟨va, rfl⟩, hqa⟩
        clear HP
        refine hK.out _ _ (⟨(HSK.out _ hqa.low).1, (HSK.out _ hqa.low).2.1⟩) (fun hS => ?_)
        clear hK
        (try simp only [Act.put, List.setIfInBounds_toArray, List.set_cons_zero, List.set_cons_succ])
        refine wpAnyH_done (by kernel_rfl) ?_ _
        refine NoPanic.normal ?_
        have HQA : Hid (Quad w wa b g v r A N s2 t) := hqa
        clear hS hqa HQU
        go_wp2
        refine wp_region_noPanic ?_
        refine wp_region_held (S := fun W => W.cell? ⟨kb, ko + k, none⟩ = some (.int .i64 zk) ∧ W.cell? ⟨mb, mo + k, none⟩ = some (.int .i64 zm)) (by kernel_rfl) ?_
        have hS := (show (fun W => W.cell? ⟨kb, ko + k, none⟩ = some (.int .i64 zk) ∧ W.cell? ⟨mb, mo + k, none⟩ = some (.int .i64 zm)) wa.drew from ⟨(HSK.out _ HQA.out.low.drew).1, (HSK.out _ HQA.out.low.drew).2.1⟩)
        refine any_take 0 ?vrbn1 rfl (by kernel_rfl) (by kernel_rfl) (by kernel_rfl) (fun _ _ _ h => h) (by rfl) ?hrbn1 hS ?_
        case hrbn1 => (intro w hSw; (try dsimp only at hSw); go_split_ands; go_simp; (try with_reducible rfl))
        (try simp only [Act.put, List.setIfInBounds_toArray, List.set_cons_zero, List.set_cons_succ])
        refine any_take 1 ?vrbn2 rfl (by kernel_rfl) (by kernel_rfl) (by kernel_rfl) (fun _ _ _ h => h) (by rfl) ?hrbn2 hS ?_
        case hrbn2 => (intro w hSw; (try dsimp only at hSw); go_split_ands; go_simp; (try with_reducible rfl))
        (try simp only [Act.put, List.setIfInBounds_toArray, List.set_cons_zero, List.set_cons_succ])
        refine any_take 2 ?vrbn3 rfl (by kernel_rfl) (by kernel_rfl) (by kernel_rfl) (fun _ _ _ h => h) (by rfl) ?hrbn3 hS ?_
        case hrbn3 => (intro w hSw; (try dsimp only at hSw); go_split_ands; go_simp; (try with_reducible rfl))
        (try simp only [Act.put, List.setIfInBounds_toArray, List.set_cons_zero, List.set_cons_succ])
        refine any_take 3 ?vrbn4 rfl (by kernel_rfl) (by kernel_rfl) (by kernel_rfl) (fun _ _ _ h => h) (by rfl) ?hrbn4 hS ?_
        case hrbn4 => (intro w hSw; (try dsimp only at hSw); go_split_ands; go_simp; (try with_reducible rfl))
        (try simp only [Act.put, List.setIfInBounds_toArray, List.set_cons_zero, List.set_cons_succ])
        refine any_take 4 ?vrbn5 rfl (by kernel_rfl) (by kernel_rfl) (by kernel_rfl) (fun _ _ _ h => h) (by rfl) ?hrbn5 hS ?_
        case hrbn5 => (intro w hSw; (try dsimp only at hSw); go_split_ands; go_simp; (try with_reducible rfl))
        (try simp only [Act.put, List.setIfInBounds_toArray, List.set_cons_zero, List.set_cons_succ])
        refine any_take 5 ?vrbn6 rfl (by kernel_rfl) (by kernel_rfl) (by kernel_rfl) (fun _ _ _ h => h) (by rfl) ?hrbn6 hS ?_
        case hrbn6 => (intro w hSw; (try dsimp only at hSw); go_split_ands; go_simp; (try with_reducible rfl))
        (try simp only [Act.put, List.setIfInBounds_toArray, List.set_cons_zero, List.set_cons_succ])
        refine any_take 6 ?vrbn7 rfl (by kernel_rfl) (by kernel_rfl) (by kernel_rfl) (fun _ _ _ h => h) (by rfl) ?hrbn7 hS ?_
        case hrbn7 => (intro w hSw; (try dsimp only at hSw); go_split_ands; go_simp; (try with_reducible rfl))
        (try simp only [Act.put, List.setIfInBounds_toArray, List.set_cons_zero, List.set_cons_succ])
        refine any_take 7 ?vrbn8 rfl (by kernel_rfl) (by kernel_rfl) (by kernel_rfl) (fun _ _ _ h => h) (by rfl) ?hrbn8 hS ?_
        case hrbn8 => (intro w hSw; (try dsimp only at hSw); go_split_ands; go_simp; (try with_reducible rfl))
        (try simp only [Act.put, List.setIfInBounds_toArray, List.set_cons_zero, List.set_cons_succ])
        refine any_take 8 ?vrbn9 rfl (by kernel_rfl) (by kernel_rfl) (by kernel_rfl) (fun _ _ _ h => h) (by rfl) ?hrbn9 hS ?_
        case hrbn9 => (intro w hSw; (try dsimp only at hSw); go_split_ands; go_simp; (try with_reducible rfl))
        (try simp only [Act.put, List.setIfInBounds_toArray, List.set_cons_zero, List.set_cons_succ])
        refine any_one 9 rfl (by kernel_rfl) (by rfl) (fun K hK => ?_)
        clear hS
        go_simp
        refine (HQ.out _ HQA.out.drew).mono ?_
        rintro e wb ⟨⟨vb, rfl⟩, hqb⟩
        clear HQ
        refine hK.out _ _ (⟨(HSK.out _ hqb.low).1, (HSK.out _ hqb.low).2.1⟩) (fun hS => ?_)
        clear hK
        (try simp only [Act.put, List.setIfInBounds_toArray, List.set_cons_zero, List.set_cons_succ])
        refine wpAnyH_done (by kernel_rfl) ?_ _
        refine NoPanic.normal ?_
        have HQB : Hid (Quad w wb b g v r A N s2 t2') := hqb
        clear hS hqb HQA
        go_wp2
        refine wp_region_noPanic ?_
        refine wp_region_held (S := fun W => W.cell? ⟨lb, lo + k, none⟩ = some (.slice x l.length cx)) (by kernel_rfl) ?_
        have hS := (show (fun W => W.cell? ⟨lb, lo + k, none⟩ = some (.slice x l.length cx)) wb.drew from (HSK.out _ HQB.out.low.drew).2.2)
        refine any_take 0 ?vrcn1 rfl (by kernel_rfl) (by kernel_rfl) (by kernel_rfl) (fun _ _ _ h => h) (by rfl) ?hrcn1 hS ?_
        case hrcn1 => (intro w hSw; (try dsimp only at hSw); go_split_ands; go_simp; (try with_reducible rfl))
        (try simp only [Act.put, List.setIfInBounds_toArray, List.set_cons_zero, List.set_cons_succ])
        refine any_take 1 ?vrcn2 rfl (by kernel_rfl) (by kernel_rfl) (by kernel_rfl) (fun _ _ _ h => h) (by rfl) ?hrcn2 hS ?_
        case hrcn2 => (intro w hSw; (try dsimp only at hSw); go_split_ands; go_simp; (try with_reducible rfl))
        (try simp only [Act.put, List.setIfInBounds_toArray, List.set_cons_zero, List.set_cons_succ])
        refine any_take 2 ?vrcn3 rfl (by kernel_rfl) (by kernel_rfl) (by kernel_rfl) (fun _ _ _ h => h) (by rfl) ?hrcn3 hS ?_
        case hrcn3 => (intro w hSw; (try dsimp only at hSw); go_split_ands; go_simp; (try with_reducible rfl))
        (try simp only [Act.put, List.setIfInBounds_toArray, List.set_cons_zero, List.set_cons_succ])
        refine any_take 3 ?vrcn4 rfl (by kernel_rfl) (by kernel_rfl) (by kernel_rfl) (fun _ _ _ h => h) (by rfl) ?hrcn4 hS ?_
        case hrcn4 => (intro w hSw; (try dsimp only at hSw); go_split_ands; go_simp; (try with_reducible rfl))
        (try simp only [Act.put, List.setIfInBounds_toArray, List.set_cons_zero, List.set_cons_succ])
        refine any_take 4 ?vrcn5 rfl (by kernel_rfl) (by kernel_rfl) (by kernel_rfl) (fun _ _ _ h => h) (by rfl) ?hrcn5 hS ?_
        case hrcn5 => (intro w hSw; (try dsimp only at hSw); go_split_ands; go_simp; (try with_reducible rfl))
        (try simp only [Act.put, List.setIfInBounds_toArray, List.set_cons_zero, List.set_cons_succ])
        refine any_take 6 ?vrcn6 rfl (by kernel_rfl) (by kernel_rfl) (by kernel_rfl) (fun _ _ _ h => h) (by rfl) ?hrcn6 hS ?_
        case hrcn6 => (intro w hSw; (try dsimp only at hSw); go_split_ands; go_simp; (try with_reducible rfl))
        (try simp only [Act.put, List.setIfInBounds_toArray, List.set_cons_zero, List.set_cons_succ])
        refine any_take 7 ?vrcn7 rfl (by kernel_rfl) (by kernel_rfl) (by kernel_rfl) (fun _ _ _ h => h) (by rfl) ?hrcn7 hS ?_
        case hrcn7 => (intro w hSw; (try dsimp only at hSw); go_split_ands; go_simp; (try with_reducible rfl))
        (try simp only [Act.put, List.setIfInBounds_toArray, List.set_cons_zero, List.set_cons_succ])
        refine any_take 8 ?vrcn8 rfl (by kernel_rfl) (by kernel_rfl) (by kernel_rfl) (fun _ _ _ h => h) (by rfl) ?hrcn8 hS ?_
        case hrcn8 => (intro w hSw; (try dsimp only at hSw); go_split_ands; go_simp; (try with_reducible rfl))
        (try simp only [Act.put, List.setIfInBounds_toArray, List.set_cons_zero, List.set_cons_succ])
        refine any_take 9 ?vrcn9 rfl (by kernel_rfl) (by kernel_rfl) (by kernel_rfl) (fun _ _ _ h => h) (by rfl) ?hrcn9 hS ?_
        case hrcn9 => (intro w hSw; (try dsimp only at hSw); go_split_ands; go_simp; (try with_reducible rfl))
        (try simp only [Act.put, List.setIfInBounds_toArray, List.set_cons_zero, List.set_cons_succ])
        refine any_take 10 ?vrcn10 rfl (by kernel_rfl) (by kernel_rfl) (by kernel_rfl) (fun _ _ _ h => h) (by rfl) ?hrcn10 hS ?_
        case hrcn10 => (intro w hSw; (try dsimp only at hSw); go_split_ands; go_simp; (try with_reducible rfl))
        (try simp only [Act.put, List.setIfInBounds_toArray, List.set_cons_zero, List.set_cons_succ])
        refine any_one 5 rfl (by kernel_rfl) (by rfl) (fun K hK => ?_)
        clear hS
        go_simp
        refine (HP2.out _ HQB.out.drew).mono ?_
        rintro e wc ⟨rfl, hqc⟩
        clear HP2
        refine hK.out _ _ ((HSK.out _ hqc.low).2.2) (fun hS => ?_)
        clear hK
        (try simp only [Act.put, List.setIfInBounds_toArray, List.set_cons_zero, List.set_cons_succ])
        refine any_one 11 rfl (by kernel_rfl) (by rfl) (fun K hK => ?_)
        clear hS
        go_simp
        refine (HQ2.out _ hqc).mono ?_
        rintro e wd ⟨rfl, hqd⟩
        clear HQ2
        refine hK.out _ _ ((HSK.out _ hqd.low).2.2) (fun hS => ?_)
        clear hK
        (try simp only [Act.put, List.setIfInBounds_toArray, List.set_cons_zero, List.set_cons_succ])
        refine any_take 12 ?vrcn11 rfl (by kernel_rfl) (by kernel_rfl) (by kernel_rfl) (fun _ _ _ h => h) (by rfl) ?hrcn11 hS ?_
        case hrcn11 => (intro w hSw; (try dsimp only at hSw); go_split_ands; go_simp; (try with_reducible rfl))
        (try simp only [Act.put, List.setIfInBounds_toArray, List.set_cons_zero, List.set_cons_succ])
        refine wpAnyH_done (by kernel_rfl) ?_ _
        refine NoPanic.normal ?_
        have HQD : Hid (Quad w wd b g v r A N s3 t3') := hqd
        clear hS hqd hqc HQB HSK
        by_cases h3 : K3 = 2
        · as_aux_lemma =>
            subst h3
            go_wp2_with fail
            obtain ⟨we, hwe⟩ : ∃ we, we = wd := ⟨_, rfl⟩
            rw [← hwe] at HQD
            subst hwe
            obtain ⟨s4, hs4⟩ : ∃ s4, s4 = s3 := ⟨_, rfl⟩
            obtain ⟨t4', ht4⟩ : ∃ t4', t4' = t3' := ⟨_, rfl⟩
            have HQE : Hid (Quad w we b g v r A N s4 t4' ∧ Sim s4 t4' ∧ s4.n ≤ 3 * (k + 1) + 1) := by rw [hs4, ht4]; exact ⟨HQD.out, HS3.out.1, HS3.out.2⟩
            clear hs4 ht4 HQD HS3
            obtain ⟨R, hR⟩ : ∃ R, R = loadL s4 A N := ⟨_, rfl⟩
            obtain ⟨E4, hE4⟩ : ∃ E4, E4 = loadE s4 A N := ⟨_, rfl⟩
            obtain ⟨z, hz⟩ : ∃ z, z = numN s4 A N := ⟨_, rfl⟩
            obtain ⟨f, hf⟩ : ∃ f, f = freshB s4 A N := ⟨_, rfl⟩
            have kl1 := pload_quad HQE.out.1 R E4 hR hE4
            have KL2 : Hid (∀ W, Quad w W b g v r A N s4 t4' → Calls Try.prog 20 #[.pointer (some ⟨v, 0, none⟩)] W fun e w' => ∃ d cd, e = .returned (.tuple #[.slice d R.length cd, .int .i64 (E4 : Int)]) ∧ Sees w' d cd R ∧ Below W.heap.size W w') := fun W hW => rload_quad hW HQE.out.2.1 R E4 hR hE4
            have KN1 : Hid (∀ W, Quad w W b g v r A N s4 t4' → Calls Try.prog 21 #[.pointer (some ⟨b, 0, none⟩)] W fun e w' => e = .returned (.int .u32 (z : Int)) ∧ Below W.heap.size W w') := fun W hW => pnum_quad hW z hz
            have KN2 : Hid (∀ W, Quad w W b g v r A N s4 t4' → Calls Try.prog 22 #[.pointer (some ⟨v, 0, none⟩)] W fun e w' => e = .returned (.int .u32 (z : Int)) ∧ Below W.heap.size W w') := fun W hW => rnum_quad hW HQE.out.2.1 z hz
            have KF1 : Hid (∀ W, Quad w W b g v r A N s4 t4' → Calls Try.prog 23 #[.pointer (some ⟨b, 0, none⟩)] W fun e w' => e = .returned (.bool f) ∧ Below W.heap.size W w') := fun W hW => pfresh_quad hW f hf
            have KF2 : Hid (∀ W, Quad w W b g v r A N s4 t4' → Calls Try.prog 24 #[.pointer (some ⟨v, 0, none⟩)] W fun e w' => e = .returned (.bool f) ∧ Below W.heap.size W w') := fun W hW => rfresh_quad hW HQE.out.2.1 f hf
            clear hR hE4 hz hf
            refine kl1.mono ?_
            rintro e wf ⟨d1, cd1, rfl, hs1, hb1⟩
            have hqf := HQE.out.1.next hb1
            have kl2 := KL2.out wf hqf
            clear kl1 KL2 hb1
            go_wp2_with fail
            refine kl2.mono ?_
            rintro e wg ⟨d2, cd2, rfl, hs2, hb2⟩
            have hqg := hqf.next hb2
            have cv1 := (hs1.below hb2).convert (P := Try.prog) 22 5 9 Try.underlying22 Try.underlying5 Try.underlying9
            have cv2 := hs2.convert (P := Try.prog) 22 5 9 Try.underlying22 Try.underlying5 Try.underlying9
            have kn1 := KN1.out wg hqg
            have HQG : Hid (Quad w wg b g v r A N s4 t4') := hqg
            clear kl2 KN1 hb2 hs1 hs2 hqf hqg
            go_wp2_with fail
            refine kn1.mono ?_
            rintro e wh ⟨rfl, hb3⟩
            have hqh := HQG.out.next hb3
            have kn2 := KN2.out wh hqh
            clear kn1 KN2 hb3 HQG cv1 cv2
            go_wp2_with fail
            refine kn2.mono ?_
            rintro e wi ⟨rfl, hb4⟩
            have hqi := hqh.next hb4
            have kf1 := KF1.out wi hqi
            clear kn2 KF1 hb4 hqh
            go_wp2_with fail
            refine kf1.mono ?_
            rintro e wj ⟨rfl, hb5⟩
            have hqj := hqi.next hb5
            have kf2 := KF2.out wj hqj
            clear kf1 KF2 hb5 hqi
            go_wp2_with fail
            refine kf2.mono ?_
            rintro e wk ⟨rfl, hb6⟩
            have hqk := hqj.next hb6
            have ks := psize_quad hqk
            have HQK : Hid (Quad w wk b g v r A N s4 t4') := hqk
            clear kf2 hb6 hqj hqk
            go_wp2_with fail
            refine ks.mono ?_
            rintro e wl ⟨rfl, rfl⟩
            clear ks
            go_wp2
            go_roundw
            case rel => exact ⟨k + 1, s4, t4', by omega, by go_num, HQE.out.2.1, HQE.out.2.2, HQK.out⟩
            case measure => simp [intOf]; omega
        · as_aux_lemma =>
            have d3 : ((K3 : Int) == 2) = false := by simp; omega
            have d3' : ¬ (K3 : Int) = 2 := by omega
            have kp := pwake_quad HQD.out
            clear HQD
            go_wp2_with fail
            refine kp.mono ?_
            rintro e we1 ⟨⟨ve1, rfl⟩, hqe1⟩
            clear kp
            have kr := rwake_quad hqe1
            clear hqe1
            go_wp2_with fail
            refine kr.mono ?_
            rintro e we ⟨⟨ve, rfl⟩, hqe⟩
            clear kr
            obtain ⟨s4, hs4⟩ : ∃ s4, s4 = wakeS s3 := ⟨_, rfl⟩
            obtain ⟨t4', ht4⟩ : ∃ t4', t4' = rwakeT t3' := ⟨_, rfl⟩
            have HQE : Hid (Quad w we b g v r A N s4 t4' ∧ Sim s4 t4' ∧ s4.n ≤ 3 * (k + 1) + 1) := by rw [hs4, ht4]; exact ⟨hqe, HS3.out.1.wake, by rw [wake_n]; exact HS3.out.2⟩
            clear hs4 ht4 hqe HS3
            go_wp2_with fail
            obtain ⟨R, hR⟩ : ∃ R, R = loadL s4 A N := ⟨_, rfl⟩
            obtain ⟨E4, hE4⟩ : ∃ E4, E4 = loadE s4 A N := ⟨_, rfl⟩
            obtain ⟨z, hz⟩ : ∃ z, z = numN s4 A N := ⟨_, rfl⟩
            obtain ⟨f, hf⟩ : ∃ f, f = freshB s4 A N := ⟨_, rfl⟩
            have kl1 := pload_quad HQE.out.1 R E4 hR hE4
            have KL2 : Hid (∀ W, Quad w W b g v r A N s4 t4' → Calls Try.prog 20 #[.pointer (some ⟨v, 0, none⟩)] W fun e w' => ∃ d cd, e = .returned (.tuple #[.slice d R.length cd, .int .i64 (E4 : Int)]) ∧ Sees w' d cd R ∧ Below W.heap.size W w') := fun W hW => rload_quad hW HQE.out.2.1 R E4 hR hE4
            have KN1 : Hid (∀ W, Quad w W b g v r A N s4 t4' → Calls Try.prog 21 #[.pointer (some ⟨b, 0, none⟩)] W fun e w' => e = .returned (.int .u32 (z : Int)) ∧ Below W.heap.size W w') := fun W hW => pnum_quad hW z hz
            have KN2 : Hid (∀ W, Quad w W b g v r A N s4 t4' → Calls Try.prog 22 #[.pointer (some ⟨v, 0, none⟩)] W fun e w' => e = .returned (.int .u32 (z : Int)) ∧ Below W.heap.size W w') := fun W hW => rnum_quad hW HQE.out.2.1 z hz
            have KF1 : Hid (∀ W, Quad w W b g v r A N s4 t4' → Calls Try.prog 23 #[.pointer (some ⟨b, 0, none⟩)] W fun e w' => e = .returned (.bool f) ∧ Below W.heap.size W w') := fun W hW => pfresh_quad hW f hf
            have KF2 : Hid (∀ W, Quad w W b g v r A N s4 t4' → Calls Try.prog 24 #[.pointer (some ⟨v, 0, none⟩)] W fun e w' => e = .returned (.bool f) ∧ Below W.heap.size W w') := fun W hW => rfresh_quad hW HQE.out.2.1 f hf
            clear hR hE4 hz hf
            refine kl1.mono ?_
            rintro e wf ⟨d1, cd1, rfl, hs1, hb1⟩
            have hqf := HQE.out.1.next hb1
            have kl2 := KL2.out wf hqf
            clear kl1 KL2 hb1
            go_wp2_with fail
            refine kl2.mono ?_
            rintro e wg ⟨d2, cd2, rfl, hs2, hb2⟩
            have hqg := hqf.next hb2
            have cv1 := (hs1.below hb2).convert (P := Try.prog) 22 5 9 Try.underlying22 Try.underlying5 Try.underlying9
            have cv2 := hs2.convert (P := Try.prog) 22 5 9 Try.underlying22 Try.underlying5 Try.underlying9
            have kn1 := KN1.out wg hqg
            have HQG : Hid (Quad w wg b g v r A N s4 t4') := hqg
            clear kl2 KN1 hb2 hs1 hs2 hqf hqg
            go_wp2_with fail
            refine kn1.mono ?_
            rintro e wh ⟨rfl, hb3⟩
            have hqh := HQG.out.next hb3
            have kn2 := KN2.out wh hqh
            clear kn1 KN2 hb3 HQG cv1 cv2
            go_wp2_with fail
            refine kn2.mono ?_
            rintro e wi ⟨rfl, hb4⟩
            have hqi := hqh.next hb4
            have kf1 := KF1.out wi hqi
            clear kn2 KF1 hb4 hqh
            go_wp2_with fail
            refine kf1.mono ?_
            rintro e wj ⟨rfl, hb5⟩
            have hqj := hqi.next hb5
            have kf2 := KF2.out wj hqj
            clear kf1 KF2 hb5 hqi
            go_wp2_with fail
            refine kf2.mono ?_
            rintro e wk ⟨rfl, hb6⟩
            have hqk := hqj.next hb6
            have ks := psize_quad hqk
            have HQK : Hid (Quad w wk b g v r A N s4 t4') := hqk
            clear kf2 hb6 hqj hqk
            go_wp2_with fail
            refine ks.mono ?_
            rintro e wl ⟨rfl, rfl⟩
            clear ks
            go_wp2
            go_roundw
            case rel => exact ⟨k + 1, s4, t4', by omega, by go_num, HQE.out.2.1, HQE.out.2.2, HQK.out⟩
            case measure => simp [intOf]; omega
      · skip
        have HQU : Hid (Quad w wr b g v r A N s t) := hq
        have ks := psize_quad hq
        clear hq hsim hsn H0 H4 H5 H6
        by_cases b0 : ¬ (k < LL.length)
        · as_aux_lemma =>
            have f0 : decide ((k : Int) < (LL.length : Int)) = false := by simp; omega
            clear hall
            go_wp2_with fail
            refine ks.mono ?_
            rintro e wx ⟨rfl, rfl⟩
            clear ks
            go_wp2_with fail
            refine (awake_ok _).mono ?_
            rintro e wy ⟨rfl, hby⟩
            have HE : Hid (Below w.heap.size w wy) := HQU.out.low.trans (hby.mono HQU.out.low.size)
            clear hby HQU
            go_wp2
            go_ret
            exact ⟨rfl, HE.out⟩
        have f0 : decide ((k : Int) < (LL.length : Int)) = true := by simp; omega
        by_cases b1 : ¬ (k < kl.length)
        · as_aux_lemma =>
            have f1 : decide ((k : Int) < (kl.length : Int)) = false := by simp; omega
            clear hall
            go_wp2_with fail
            refine ks.mono ?_
            rintro e wx ⟨rfl, rfl⟩
            clear ks
            go_wp2_with fail
            refine (awake_ok _).mono ?_
            rintro e wy ⟨rfl, hby⟩
            have HE : Hid (Below w.heap.size w wy) := HQU.out.low.trans (hby.mono HQU.out.low.size)
            clear hby HQU
            go_wp2
            go_ret
            exact ⟨rfl, HE.out⟩
        have f1 : decide ((k : Int) < (kl.length : Int)) = true := by simp; omega
        by_cases b2 : ¬ (k < ml.length)
        · as_aux_lemma =>
            have f2 : decide ((k : Int) < (ml.length : Int)) = false := by simp; omega
            clear hall
            go_wp2_with fail
            refine ks.mono ?_
            rintro e wx ⟨rfl, rfl⟩
            clear ks
            go_wp2_with fail
            refine (awake_ok _).mono ?_
            rintro e wy ⟨rfl, hby⟩
            have HE : Hid (Below w.heap.size w wy) := HQU.out.low.trans (hby.mono HQU.out.low.size)
            clear hby HQU
            go_wp2
            go_ret
            exact ⟨rfl, HE.out⟩
        have f2 : decide ((k : Int) < (ml.length : Int)) = true := by simp; omega
        have f3 : decide ((k : Int) < 20) = false := by simp; omega
        clear hall
        as_aux_lemma =>
          go_wp2_with fail
          refine ks.mono ?_
          rintro e wx ⟨rfl, rfl⟩
          clear ks
          go_wp2_with fail
          refine (awake_ok _).mono ?_
          rintro e wy ⟨rfl, hby⟩
          have HE : Hid (Below w.heap.size w wy) := HQU.out.low.trans (hby.mono HQU.out.low.size)
          clear hby HQU
          go_wp2
          go_ret
          exact ⟨rfl, HE.out⟩
  · have kb := bnew_no_duo h4 x2 x3 W2.out W3.out hm
    have HM : Hid (¬ mayB s1.b.length x2 x3) := hm
    clear h4 hm
    go_wp2_with fail
    refine kb.mono ?_
    rintro e w5 ⟨rfl, h5⟩
    clear kb
    have kb := rbnew_no_duo h5 HS1.out.1 x2 x3 W2.out W3.out HM.out
    have HB : Hid (Below w.heap.size w w5) := h5.2
    clear h5 HM
    go_wp2_with fail
    refine kb.mono ?_
    rintro e w6 ⟨rfl, rfl⟩
    clear kb
    go_wp2_with fail
    refine (awake_ok _).mono ?_
    rintro e w7 ⟨rfl, hb7⟩
    have HE : Hid (Below w.heap.size w w7) := HB.out.trans (hb7.mono HB.out.size)
    clear hb7
    go_wp2
    go_ret
    exact ⟨rfl, HE.out⟩
end Go.Proofs.Ytgnllmcgebonpaa
