/-
  The walk of ReservePlays.
-/
import Derived.Test.YtjmbioedpghopaaResX
namespace Go.Proofs.Ytjmbioedpghopaa
open Go.ChangeShapes Go.WideShapes Go.ChangeAt Go.RowKit

set_option maxHeartbeats 32000000 in
set_option maxRecDepth 20000 in
theorem plays_walk (a0 : Option Addr) (c0 : Nat) (fl : List UInt8) (x1 : Int) (a2 : Option Addr) (c2 : Nat) (kl : List UInt8) (a3 : Option Addr) (c3 : Nat) (nl : List Int) (a4 : Option Addr) (c4 : Nat) (sl : List Int) (a5 : Option Addr) (c5 : Nat) (tl : List Int) (w : World)
    (s0 : Sees w a0 c0 fl) (_m0 : c0 ≤ 140737488351232) (w1 : (Lit.int .i64 x1).wf = true) (s2 : Sees w a2 c2 kl) (_m2 : c2 ≤ 140737488351232) (s3 : Nums .i64 w a3 c3 nl) (s4 : Nums .i64 w a4 c4 sl) (s5 : Nums .i64 w a5 c5 tl) :
    Calls Try.prog 3 #[.slice a0 fl.length c0, .int .i64 x1, .slice a2 kl.length c2, .slice a3 nl.length c3, .slice a4 sl.length c4, .slice a5 tl.length c5] w fun e w' => e = .returned (.bool true) ∧ Below w.heap.size w w' := by
  have H0 : Hid (Sees w a0 c0 fl) := s0
  have H2 : Hid (Sees w a2 c2 kl) := s2
  have H3 : Hid (Nums .i64 w a3 c3 nl) := s3
  have H4 : Hid (Nums .i64 w a4 c4 sl) := s4
  have H5 : Hid (Nums .i64 w a5 c5 tl) := s5
  have l0 : fl.length ≤ 9223372036854775807 := by have := s0.fits; have := s0.room; unfold maxLen at this; omega
  have l2 : kl.length ≤ 9223372036854775807 := by have := s2.fits; have := s2.room; unfold maxLen at this; omega
  have l3 := s3.len
  have l4 := s4.len
  have l5 := s5.len
  have W1 : Hid ((Lit.int .i64 x1).wf = true) := w1
  have hn : Calls Try.prog 7 #[.int .i64 64] w _ := new_held w 64 (by omega)
  clear s0 s2 s3 s4 s5 _m0 _m2 w1
  go_enter Try.func3, Try.ntmps3
  go_wp2_with fail
  refine hn.mono ?_
  rintro e w1 ⟨g, rfl, h1⟩
  clear hn
  have hr : Calls Try.prog 8 #[.int .i64 64] w1 _ := rnew_duo h1 64 (by omega)
  clear h1
  go_wp2_with fail
  refine hr.mono ?_
  rintro e w2 ⟨r, rfl, h2⟩
  clear hr
  obtain ⟨s1, hs1⟩ : ∃ s1, s1 = writeS (newS 64) 0 fl := ⟨_, rfl⟩
  obtain ⟨t1, ht1⟩ : ∃ t1, t1 = rwriteT (rnewT 64) 0 fl := ⟨_, rfl⟩
  obtain ⟨E1, hE1⟩ : ∃ E1, E1 = writeE (newS 64) 0 fl := ⟨_, rfl⟩
  obtain ⟨E2, hE2⟩ : ∃ E2, E2 = rwriteE (rnewT 64) 0 fl := ⟨_, rfl⟩
  have HS1 : Hid (Sim s1 t1 ∧ s1.n ≤ 1 ∧ s1.b.length = 64) := by
    rw [hs1, ht1]
    exact ⟨(sim_write (sim_new 64) 0 fl).2, by have := write_n (newS 64) 0 fl; simpa [newS] using this, by rw [write_len]; simp [newS]⟩
  have kw : Calls Try.prog 9 #[.pointer (some ⟨g, 0, none⟩), .int .i64 0, .slice a0 fl.length c0] w2 _ := pwrite_duo h2 (by simp [newS]) 0 (by decide) a0 c0 fl H0.out
  rw [← hE1, ← hs1] at kw
  clear hs1 hE1 h2
  go_wp2_with fail
  refine kw.mono ?_
  rintro e w3 ⟨rfl, h3⟩
  clear kw
  have kw : Calls Try.prog 10 #[.pointer (some ⟨r, 0, none⟩), .int .i64 0, .slice a0 fl.length c0] w3 _ := rwrite_duo h3 (by simp [rnewT]) 0 a0 c0 fl H0.out
  rw [← hE2, ← ht1] at kw
  clear ht1 hE2 h3
  go_wp2_with fail
  refine kw.mono ?_
  rintro e w4 ⟨rfl, h4⟩
  clear kw H0
  have kb := rbnew_half h4 (by rw [← HS1.out.1.b]; exact HS1.out.2.2)
  clear h4
  go_wp2_with fail
  refine kb.mono ?_
  rintro e w5 ⟨bv, rfl, h5⟩
  clear kb
  obtain ⟨E0, hE0⟩ : ∃ E0, E0 = opE s1 0 x1 := ⟨_, rfl⟩
  by_cases hz : E0 = 0
  · subst hz
    obtain ⟨v1, hv1⟩ : ∃ v1, v1 = opV s1 0 x1 := ⟨_, rfl⟩
    have HV1 : Hid v1.ok := by show v1.ok; rw [hv1]; exact opV_ok hE0.symm
    have ko := popen_half h5 HS1.out.2.2 x1 hE0.symm v1 hv1
    have KR : Hid (∀ W R, Most w W g R s1 v1 bv r t1 → Calls Try.prog 13 #[.pointer (some ⟨bv, 0, none⟩), .int .i64 x1] W fun e w' => ∃ V, e = .returned (.tuple #[.pointer (some ⟨V, 0, none⟩), .int .i64 0]) ∧ Twin w w' g R s1 v1 bv r V t1 v1) := fun W R hW => ropen_most hW HS1.out.1 x1 hE0.symm v1 hv1
    clear h5 hE0 hv1
    go_wp2_with fail
    refine ko.mono ?_
    rintro e w6 ⟨R0, rfl, h6⟩
    clear ko
    have kr := KR.out w6 R0 h6
    clear h6 KR
    go_wp2_with fail
    refine kr.mono ?_
    rintro e w7 ⟨V0, rfl, h7⟩
    clear kr
    have HT0 : Hid (Twin w w7 g R0 s1 v1 bv r V0 t1 v1) := h7
    clear h7
    go_wp2
    go_loopw [19, 21, 23] (fun ur uv ui wr => ∃ (k R V : Nat) (s : PS) (v : VS) (t : RS), k ≤ 40 ∧ ui = .int .i64 (k : Int) ∧ ur = .pointer (some ⟨R, 0, none⟩) ∧ uv = .pointer (some ⟨V, 0, none⟩) ∧ Sim s t ∧ v.ok ∧ s.n ≤ 3 * k + 1 ∧ s.b.length = 64 ∧ Twin w wr g R s v bv r V t v) (fun _ _ ui _ => 40 - (intOf ui).toNat)
    case atStart => exact ⟨0, R0, V0, s1, v1, t1, by omega, rfl, rfl, rfl, HS1.out.1, HV1.out, by have := HS1.out.2.1; omega, HS1.out.2.2, HT0.out⟩
    case round =>
      obtain ⟨k, R, V, s, v, t, hk, rfl, rfl, rfl, hsim, hvo, hsn, hsl, hq⟩ := hrel
      clear HT0 HV1 HS1
      have g0 : (0 : Int) ≤ (k : Int) := Int.natCast_nonneg _
      by_cases hall : k < kl.length ∧ k < nl.length ∧ k < sl.length ∧ k < tl.length ∧ k < 40
      · obtain ⟨k1, k2, k3, k4, k5⟩ := hall
        obtain ⟨xk, hxk⟩ : ∃ z, kl[k]? = some z := ⟨kl[k], by simp [k1]⟩
        obtain ⟨zn, hzn⟩ : ∃ z, nl[k]? = some z := ⟨nl[k], by simp [k2]⟩
        obtain ⟨zs, hzs⟩ : ∃ z, sl[k]? = some z := ⟨sl[k], by simp [k3]⟩
        obtain ⟨zt, hzt⟩ : ∃ z, tl[k]? = some z := ⟨tl[k], by simp [k4]⟩
        obtain ⟨kb, kof, rfl, ck⟩ := H2.out.at' (by rintro rfl; simp at hxk)
        obtain ⟨nb, no, rfl, cn⟩ := H3.out.get hzn
        obtain ⟨sb, so, rfl, cs⟩ := H4.out.get hzs
        obtain ⟨tb, tof, rfl, ct⟩ := H5.out.get hzt
        replace ck := ck k xk hxk
        have HWN : Hid ((Lit.int .i64 zn).wf = true) := H3.out.wf zn (List.mem_of_getElem? hzn)
        have hws := H4.out.wf zs (List.mem_of_getElem? hzs)
        have hwt := H5.out.wf zt (List.mem_of_getElem? hzt)
        obtain ⟨kk, hkk⟩ : ∃ kk, kk = xk.toNat := ⟨_, rfl⟩
        have bk : kk < 256 := by rw [hkk]; exact xk.toNat_lt
        have ck' : w.cell? ⟨kb, kof + k, none⟩ = some (.int .u8 (kk : Int)) := by rw [hkk]; exact ck
        have HSK : Hid (∀ W, Below w.heap.size w W → W.cell? ⟨sb, so + k, none⟩ = some (.int .i64 zs) ∧ W.cell? ⟨tb, tof + k, none⟩ = some (.int .i64 zt) ∧ W.cell? ⟨kb, kof + k, none⟩ = some (.int .u8 (kk : Int)) ∧ W.cell? ⟨nb, no + k, none⟩ = some (.int .i64 zn)) := fun W hW =>
          ⟨by rw [hW.cell (p := ⟨sb, so + k, none⟩) (World.block_lt_of_cell? w _ cs)]; exact cs, by rw [hW.cell (p := ⟨tb, tof + k, none⟩) (World.block_lt_of_cell? w _ ct)]; exact ct, by rw [hW.cell (p := ⟨kb, kof + k, none⟩) (World.block_lt_of_cell? w _ ck')]; exact ck', by rw [hW.cell (p := ⟨nb, no + k, none⟩) (World.block_lt_of_cell? w _ cn)]; exact cn⟩
        have t1 : decide ((k : Int) < (kl.length : Int)) = true := by simp; omega
        have t2 : decide ((k : Int) < (nl.length : Int)) = true := by simp; omega
        have t3 : decide ((k : Int) < (sl.length : Int)) = true := by simp; omega
        have t4 : decide ((k : Int) < (tl.length : Int)) = true := by simp; omega
        have t5 : decide ((k : Int) < 40) = true := by simp; omega
        have i1 : (k : Int) < (kl.length : Int) := by omega
        have i2 : (k : Int) < (nl.length : Int) := by omega
        have i3 : (k : Int) < (sl.length : Int) := by omega
        have i4 : (k : Int) < (tl.length : Int) := by omega
        obtain ⟨KD, hKD⟩ : ∃ KD, KD = kk % 4 := ⟨_, rfl⟩
        have hK4 : KD < 4 := by omega
        have m1 : ((kk : Int)).tmod 4 = (KD : Int) := by rw [Int.tmod_eq_emod_of_nonneg (by omega)]; omega
        have m2 : ((kk : Int)) % 4 = (KD : Int) := by omega
        obtain ⟨s2, hs2⟩ : ∃ s2, s2 = tearS s zs zt := ⟨_, rfl⟩
        obtain ⟨t2', ht2⟩ : ∃ t2', t2' = rtearT t zs zt := ⟨_, rfl⟩
        have hsim2 : Sim s2 t2' := by rw [hs2, ht2]; exact hsim.torn zs zt
        have hn2 : s2.n = s.n := by rw [hs2, tear_n]
        have hl2 : s2.b.length = 64 := by rw [hs2, tear_len]; exact hsl
        have HP : Hid (Calls Try.prog 14 #[.pointer (some ⟨g, 0, none⟩), .int .i64 zs, .int .i64 zt] wr.drew fun e w' => (∃ z, e = .returned z) ∧ Twin w w' g R s2 v bv r V t v) := ptear_twin hq.drew zs zt hws hwt s2 hs2
        have HQ : Hid (∀ W, Twin w W g R s2 v bv r V t v → Calls Try.prog 15 #[.pointer (some ⟨r, 0, none⟩), .int .i64 zs, .int .i64 zt] W fun e w' => (∃ z, e = .returned z) ∧ Twin w w' g R s2 v bv r V t2' v) := fun W hW => rtear_twin hW zs zt hws hwt t2' ht2
        have HQU : Hid (Twin w wr g R s v bv r V t v) := hq
        have HIN : Hid (Sim s2 t2' ∧ v.ok ∧ s2.n ≤ 3 * k + 1 ∧ s2.b.length = 64) := ⟨hsim2, hvo, by omega, hl2⟩
        clear hxk hzn hzs hzt ck cn cs ct hws hwt hkk ck' hKD hsim hvo hsn hsl hq hs2 ht2 hsim2 hn2 hl2 H2 H3 H4 H5
        go_wp2
        refine wp_region_noPanic ?_
        refine wp_region_held (S := fun W => W.cell? ⟨sb, so + k, none⟩ = some (.int .i64 zs) ∧ W.cell? ⟨tb, tof + k, none⟩ = some (.int .i64 zt)) (by kernel_rfl) ?_
        have hS := (show (fun W => W.cell? ⟨sb, so + k, none⟩ = some (.int .i64 zs) ∧ W.cell? ⟨tb, tof + k, none⟩ = some (.int .i64 zt)) wr.drew from ⟨(HSK.out _ HQU.out.low.drew).1, (HSK.out _ HQU.out.low.drew).2.1⟩)
        refine any_take 0 ?vran1 rfl (by kernel_rfl) (by kernel_rfl) (by kernel_rfl) (fun _ _ _ h => h) (by rfl) ?hran1 hS ?_
        case hran1 => (intro w hSw; (try dsimp only at hSw); go_split_ands; go_simp; (try with_reducible rfl))
        (try simp only [Act.put, List.setIfInBounds_toArray, List.set_cons_zero, List.set_cons_succ])
        refine any_take 1 ?vran2 rfl (by kernel_rfl) (by kernel_rfl) (by kernel_rfl) (fun _ _ _ h => h) (by rfl) ?hran2 hS ?_
        case hran2 => (intro w hSw; (try dsimp only at hSw); go_split_ands; go_simp; (try with_reducible rfl))
        (try simp only [Act.put, List.setIfInBounds_toArray, List.set_cons_zero, List.set_cons_succ])
        refine any_take 2 ?vran3 rfl (by kernel_rfl) (by kernel_rfl) (by kernel_rfl) (fun _ _ _ h => h) (by rfl) ?hran3 hS ?_
        case hran3 => (intro w hSw; (try dsimp only at hSw); go_split_ands; go_simp; (try with_reducible rfl))
        (try simp only [Act.put, List.setIfInBounds_toArray, List.set_cons_zero, List.set_cons_succ])
        refine any_take 3 ?vran4 rfl (by kernel_rfl) (by kernel_rfl) (by kernel_rfl) (fun _ _ _ h => h) (by rfl) ?hran4 hS ?_
        case hran4 => (intro w hSw; (try dsimp only at hSw); go_split_ands; go_simp; (try with_reducible rfl))
        (try simp only [Act.put, List.setIfInBounds_toArray, List.set_cons_zero, List.set_cons_succ])
        refine any_take 4 ?vran5 rfl (by kernel_rfl) (by kernel_rfl) (by kernel_rfl) (fun _ _ _ h => h) (by rfl) ?hran5 hS ?_
        case hran5 => (intro w hSw; (try dsimp only at hSw); go_split_ands; go_simp; (try with_reducible rfl))
        (try simp only [Act.put, List.setIfInBounds_toArray, List.set_cons_zero, List.set_cons_succ])
        refine any_take 5 ?vran6 rfl (by kernel_rfl) (by kernel_rfl) (by kernel_rfl) (fun _ _ _ h => h) (by rfl) ?hran6 hS ?_
        case hran6 => (intro w hSw; (try dsimp only at hSw); go_split_ands; go_simp; (try with_reducible rfl))
        (try simp only [Act.put, List.setIfInBounds_toArray, List.set_cons_zero, List.set_cons_succ])
        refine any_take 6 ?vran7 rfl (by kernel_rfl) (by kernel_rfl) (by kernel_rfl) (fun _ _ _ h => h) (by rfl) ?hran7 hS ?_
        case hran7 => (intro w hSw; (try dsimp only at hSw); go_split_ands; go_simp; (try with_reducible rfl))
        (try simp only [Act.put, List.setIfInBounds_toArray, List.set_cons_zero, List.set_cons_succ])
        refine any_take 7 ?vran8 rfl (by kernel_rfl) (by kernel_rfl) (by kernel_rfl) (fun _ _ _ h => h) (by rfl) ?hran8 hS ?_
        case hran8 => (intro w hSw; (try dsimp only at hSw); go_split_ands; go_simp; (try with_reducible rfl))
        (try simp only [Act.put, List.setIfInBounds_toArray, List.set_cons_zero, List.set_cons_succ])
        refine any_take 8 ?vran9 rfl (by kernel_rfl) (by kernel_rfl) (by kernel_rfl) (fun _ _ _ h => h) (by rfl) ?hran9 hS ?_
        case hran9 => (intro w hSw; (try dsimp only at hSw); go_split_ands; go_simp; (try with_reducible rfl))
        (try simp only [Act.put, List.setIfInBounds_toArray, List.set_cons_zero, List.set_cons_succ])
        refine any_one 9 rfl (by kernel_rfl) (by rfl) (fun K hK => ?_)
        clear hS
        go_simp
        refine HP.out.mono ?_
        rintro e wa ⟨⟨va, rfl⟩, hqa⟩
        clear HP
        refine hK.out _ _ (⟨(HSK.out _ hqa.low).1, (HSK.out _ hqa.low).2.1⟩) (fun hS => ?_)
        clear hK
        (try simp only [Act.put, List.setIfInBounds_toArray, List.set_cons_zero, List.set_cons_succ])
        refine wpAnyH_done (by kernel_rfl) ?_ _
        refine NoPanic.normal ?_
        have HQA : Hid (Twin w wa g R s2 v bv r V t v) := hqa
        clear hS hqa HQU
        go_wp2
        refine wp_region_noPanic ?_
        refine wp_region_held (S := fun W => W.cell? ⟨sb, so + k, none⟩ = some (.int .i64 zs) ∧ W.cell? ⟨tb, tof + k, none⟩ = some (.int .i64 zt)) (by kernel_rfl) ?_
        have hS := (show (fun W => W.cell? ⟨sb, so + k, none⟩ = some (.int .i64 zs) ∧ W.cell? ⟨tb, tof + k, none⟩ = some (.int .i64 zt)) wa.drew from ⟨(HSK.out _ HQA.out.low.drew).1, (HSK.out _ HQA.out.low.drew).2.1⟩)
        refine any_take 0 ?vrbn1 rfl (by kernel_rfl) (by kernel_rfl) (by kernel_rfl) (fun _ _ _ h => h) (by rfl) ?hrbn1 hS ?_
        case hrbn1 => (intro w hSw; (try dsimp only at hSw); go_split_ands; go_simp; (try with_reducible rfl))
        (try simp only [Act.put, List.setIfInBounds_toArray, List.set_cons_zero, List.set_cons_succ])
        refine any_take 1 ?vrbn2 rfl (by kernel_rfl) (by kernel_rfl) (by kernel_rfl) (fun _ _ _ h => h) (by rfl) ?hrbn2 hS ?_
        case hrbn2 => (intro w hSw; (try dsimp only at hSw); go_split_ands; go_simp; (try with_reducible rfl))
        (try simp only [Act.put, List.setIfInBounds_toArray, List.set_cons_zero, List.set_cons_succ])
        refine any_take 2 ?vrbn3 rfl (by kernel_rfl) (by kernel_rfl) (by kernel_rfl) (fun _ _ _ h => h) (by rfl) ?hrbn3 hS ?_
        case hrbn3 => (intro w hSw; (try dsimp only at hSw); go_split_ands; go_simp; (try with_reducible rfl))
        (try simp only [Act.put, List.setIfInBounds_toArray, List.set_cons_zero, List.set_cons_succ])
        refine any_take 3 ?vrbn4 rfl (by kernel_rfl) (by kernel_rfl) (by kernel_rfl) (fun _ _ _ h => h) (by rfl) ?hrbn4 hS ?_
        case hrbn4 => (intro w hSw; (try dsimp only at hSw); go_split_ands; go_simp; (try with_reducible rfl))
        (try simp only [Act.put, List.setIfInBounds_toArray, List.set_cons_zero, List.set_cons_succ])
        refine any_take 4 ?vrbn5 rfl (by kernel_rfl) (by kernel_rfl) (by kernel_rfl) (fun _ _ _ h => h) (by rfl) ?hrbn5 hS ?_
        case hrbn5 => (intro w hSw; (try dsimp only at hSw); go_split_ands; go_simp; (try with_reducible rfl))
        (try simp only [Act.put, List.setIfInBounds_toArray, List.set_cons_zero, List.set_cons_succ])
        refine any_take 5 ?vrbn6 rfl (by kernel_rfl) (by kernel_rfl) (by kernel_rfl) (fun _ _ _ h => h) (by rfl) ?hrbn6 hS ?_
        case hrbn6 => (intro w hSw; (try dsimp only at hSw); go_split_ands; go_simp; (try with_reducible rfl))
        (try simp only [Act.put, List.setIfInBounds_toArray, List.set_cons_zero, List.set_cons_succ])
        refine any_take 6 ?vrbn7 rfl (by kernel_rfl) (by kernel_rfl) (by kernel_rfl) (fun _ _ _ h => h) (by rfl) ?hrbn7 hS ?_
        case hrbn7 => (intro w hSw; (try dsimp only at hSw); go_split_ands; go_simp; (try with_reducible rfl))
        (try simp only [Act.put, List.setIfInBounds_toArray, List.set_cons_zero, List.set_cons_succ])
        refine any_take 7 ?vrbn8 rfl (by kernel_rfl) (by kernel_rfl) (by kernel_rfl) (fun _ _ _ h => h) (by rfl) ?hrbn8 hS ?_
        case hrbn8 => (intro w hSw; (try dsimp only at hSw); go_split_ands; go_simp; (try with_reducible rfl))
        (try simp only [Act.put, List.setIfInBounds_toArray, List.set_cons_zero, List.set_cons_succ])
        refine any_take 8 ?vrbn9 rfl (by kernel_rfl) (by kernel_rfl) (by kernel_rfl) (fun _ _ _ h => h) (by rfl) ?hrbn9 hS ?_
        case hrbn9 => (intro w hSw; (try dsimp only at hSw); go_split_ands; go_simp; (try with_reducible rfl))
        (try simp only [Act.put, List.setIfInBounds_toArray, List.set_cons_zero, List.set_cons_succ])
        refine any_one 9 rfl (by kernel_rfl) (by rfl) (fun K hK => ?_)
        clear hS
        go_simp
        refine (HQ.out _ HQA.out.drew).mono ?_
        rintro e wb ⟨⟨vb, rfl⟩, hqb⟩
        clear HQ
        refine hK.out _ _ (⟨(HSK.out _ hqb.low).1, (HSK.out _ hqb.low).2.1⟩) (fun hS => ?_)
        clear hK
        (try simp only [Act.put, List.setIfInBounds_toArray, List.set_cons_zero, List.set_cons_succ])
        refine wpAnyH_done (by kernel_rfl) ?_ _
        refine NoPanic.normal ?_
        have HQB : Hid (Twin w wb g R s2 v bv r V t2' v) := hqb
        clear hS hqb HQA
        obtain ⟨_, _, ck, cn⟩ := HSK.out wb HQB.out.low
        have HCN : Hid (∀ W, Below w.heap.size w W → W.cell? ⟨nb, no + k, none⟩ = some (.int .i64 zn)) := fun W hW => (HSK.out W hW).2.2.2
        clear HSK
        have hcase : KD = 0 ∨ KD = 1 ∨ KD = 2 ∨ KD = 3 := by omega
        clear hK4
        rcases hcase with rfl | rfl | rfl | rfl
        · obtain ⟨hsim2, hvo, hsn, hsl⟩ := HIN.out
          obtain ⟨e0, he0⟩ : ∃ e0, e0 = saveE s2 0 12 (recL v.inc (newM v zn.toNat)) := ⟨_, rfl⟩
          obtain ⟨s0, hs0⟩ : ∃ s0, s0 = saveS s2 0 12 (recL v.inc (newM v zn.toNat)) := ⟨_, rfl⟩
          obtain ⟨t0, ht0⟩ : ∃ t0, t0 = rsaveT t2' 0 12 (recL v.inc (newM v zn.toNat)) := ⟨_, rfl⟩
          have hsv := hsim2.save 0 12 (recL v.inc (newM v zn.toNat))
          obtain ⟨E, hE⟩ : ∃ E, E = tkE v zn e0 := ⟨_, rfl⟩
          obtain ⟨s3, hs3⟩ : ∃ s3, s3 = tkS v zn s2 s0 := ⟨_, rfl⟩
          obtain ⟨t3', ht3⟩ : ∃ t3', t3' = tkS v zn t2' t0 := ⟨_, rfl⟩
          obtain ⟨v3, hv3⟩ : ∃ v3, v3 = tkV v zn e0 := ⟨_, rfl⟩
          have HP5 : Hid (Calls Try.prog 16 #[.pointer (some ⟨R, 0, none⟩), .int .i64 zn] wb.drew fun e w' => e = .returned (.int .i64 (E : Int)) ∧ Twin w w' g R s3 v3 bv r V t2' v) := ptake_twin HQB.out.drew hvo (by omega) zn HWN.out e0 he0 s0 hs0 E hE s3 hs3 v3 hv3
          have HQ5 : Hid (∀ W, Twin w W g R s3 v3 bv r V t2' v → Calls Try.prog 17 #[.pointer (some ⟨V, 0, none⟩), .int .i64 zn] W fun e w' => e = .returned (.int .i64 (E : Int)) ∧ Twin w w' g R s3 v3 bv r V t3' v3) := fun W hW => rtake_twin hW hvo (by have := hsim2.n; omega) zn HWN.out e0 (by rw [he0, hsv.1]) t0 ht0 E hE t3' ht3 v3 hv3
          have HIN3 : Hid (Sim s3 t3' ∧ v3.ok ∧ s3.n ≤ 3 * k + 4 ∧ s3.b.length = 64) := ⟨by rw [hs3, ht3]; exact Sim.took v zn hsim2 (by rw [hs0, ht0]; exact hsv.2), by rw [hv3]; exact tkV_ok v zn e0 hvo, by rw [hs3, hs0]; have := tkS_n v zn s2 (recL v.inc (newM v zn.toNat)); omega, by rw [hs3, hs0, tkS_len]; exact hsl⟩
          rw [show (((0 : Nat) : Int)) = 0 from rfl] at m1 m2
          clear he0 hs0 ht0 hsv hE hs3 ht3 hv3 hsim2 hvo hsn hsl HIN
          go_upto_region 26 with fail
          refine wp_region_noPanic ?_
          refine wp_region_held (S := fun W => W.cell? ⟨nb, no + k, none⟩ = some (.int .i64 zn)) (by kernel_rfl) ?_
          have hS := (show (fun W => W.cell? ⟨nb, no + k, none⟩ = some (.int .i64 zn)) wb.drew from cn)
          refine any_take 0 ?vrc0n1 rfl (by kernel_rfl) (by kernel_rfl) (by kernel_rfl) (fun _ _ _ h => h) (by rfl) ?hrc0n1 hS ?_
          case hrc0n1 => (intro w hSw; (try dsimp only at hSw); go_split_ands; go_simp; (try with_reducible rfl))
          (try simp only [Act.put, List.setIfInBounds_toArray, List.set_cons_zero, List.set_cons_succ])
          refine any_take 1 ?vrc0n2 rfl (by kernel_rfl) (by kernel_rfl) (by kernel_rfl) (fun _ _ _ h => h) (by rfl) ?hrc0n2 hS ?_
          case hrc0n2 => (intro w hSw; (try dsimp only at hSw); go_split_ands; go_simp; (try with_reducible rfl))
          (try simp only [Act.put, List.setIfInBounds_toArray, List.set_cons_zero, List.set_cons_succ])
          refine any_take 2 ?vrc0n3 rfl (by kernel_rfl) (by kernel_rfl) (by kernel_rfl) (fun _ _ _ h => h) (by rfl) ?hrc0n3 hS ?_
          case hrc0n3 => (intro w hSw; (try dsimp only at hSw); go_split_ands; go_simp; (try with_reducible rfl))
          (try simp only [Act.put, List.setIfInBounds_toArray, List.set_cons_zero, List.set_cons_succ])
          refine any_take 3 ?vrc0n4 rfl (by kernel_rfl) (by kernel_rfl) (by kernel_rfl) (fun _ _ _ h => h) (by rfl) ?hrc0n4 hS ?_
          case hrc0n4 => (intro w hSw; (try dsimp only at hSw); go_split_ands; go_simp; (try with_reducible rfl))
          (try simp only [Act.put, List.setIfInBounds_toArray, List.set_cons_zero, List.set_cons_succ])
          refine any_take 4 ?vrc0n5 rfl (by kernel_rfl) (by kernel_rfl) (by kernel_rfl) (fun _ _ _ h => h) (by rfl) ?hrc0n5 hS ?_
          case hrc0n5 => (intro w hSw; (try dsimp only at hSw); go_split_ands; go_simp; (try with_reducible rfl))
          (try simp only [Act.put, List.setIfInBounds_toArray, List.set_cons_zero, List.set_cons_succ])
          refine any_take 6 ?vrc0n6 rfl (by kernel_rfl) (by kernel_rfl) (by kernel_rfl) (fun _ _ _ h => h) (by rfl) ?hrc0n6 hS ?_
          case hrc0n6 => (intro w hSw; (try dsimp only at hSw); go_split_ands; go_simp; (try with_reducible rfl))
          (try simp only [Act.put, List.setIfInBounds_toArray, List.set_cons_zero, List.set_cons_succ])
          refine any_take 7 ?vrc0n7 rfl (by kernel_rfl) (by kernel_rfl) (by kernel_rfl) (fun _ _ _ h => h) (by rfl) ?hrc0n7 hS ?_
          case hrc0n7 => (intro w hSw; (try dsimp only at hSw); go_split_ands; go_simp; (try with_reducible rfl))
          (try simp only [Act.put, List.setIfInBounds_toArray, List.set_cons_zero, List.set_cons_succ])
          refine any_take 8 ?vrc0n8 rfl (by kernel_rfl) (by kernel_rfl) (by kernel_rfl) (fun _ _ _ h => h) (by rfl) ?hrc0n8 hS ?_
          case hrc0n8 => (intro w hSw; (try dsimp only at hSw); go_split_ands; go_simp; (try with_reducible rfl))
          (try simp only [Act.put, List.setIfInBounds_toArray, List.set_cons_zero, List.set_cons_succ])
          refine any_take 9 ?vrc0n9 rfl (by kernel_rfl) (by kernel_rfl) (by kernel_rfl) (fun _ _ _ h => h) (by rfl) ?hrc0n9 hS ?_
          case hrc0n9 => (intro w hSw; (try dsimp only at hSw); go_split_ands; go_simp; (try with_reducible rfl))
          (try simp only [Act.put, List.setIfInBounds_toArray, List.set_cons_zero, List.set_cons_succ])
          refine any_take 10 ?vrc0n10 rfl (by kernel_rfl) (by kernel_rfl) (by kernel_rfl) (fun _ _ _ h => h) (by rfl) ?hrc0n10 hS ?_
          case hrc0n10 => (intro w hSw; (try dsimp only at hSw); go_split_ands; go_simp; (try with_reducible rfl))
          (try simp only [Act.put, List.setIfInBounds_toArray, List.set_cons_zero, List.set_cons_succ])
          refine any_one 5 rfl (by kernel_rfl) (by rfl) (fun K hK => ?_)
          clear hS
          go_simp
          refine HP5.out.mono ?_
          rintro e wc ⟨rfl, hqc⟩
          clear HP5
          refine hK.out _ _ (HCN.out _ hqc.low) (fun hS => ?_)
          clear hK
          (try simp only [Act.put, List.setIfInBounds_toArray, List.set_cons_zero, List.set_cons_succ])
          refine any_one 11 rfl (by kernel_rfl) (by rfl) (fun K hK => ?_)
          clear hS
          go_simp
          refine (HQ5.out _ hqc).mono ?_
          rintro e wd ⟨rfl, hqd⟩
          clear HQ5
          refine hK.out _ _ (HCN.out _ hqd.low) (fun hS => ?_)
          clear hK
          (try simp only [Act.put, List.setIfInBounds_toArray, List.set_cons_zero, List.set_cons_succ])
          refine any_take 12 ?vrc0n11 rfl (by kernel_rfl) (by kernel_rfl) (by kernel_rfl) (fun _ _ _ h => h) (by rfl) ?hrc0n11 hS ?_
          case hrc0n11 => (intro w hSw; (try dsimp only at hSw); go_split_ands; go_simp; (try with_reducible rfl))
          (try simp only [Act.put, List.setIfInBounds_toArray, List.set_cons_zero, List.set_cons_succ])
          refine wpAnyH_done (by kernel_rfl) ?_ _
          refine NoPanic.normal ?_
          have HQ3 : Hid (Twin w wd g R s3 v3 bv r V t3' v3) := hqd
          clear hS hqd hqc HQB
          obtain ⟨M, hM⟩ : ∃ M, M = v3.mark := ⟨_, rfl⟩
          obtain ⟨I, hI⟩ : ∃ I, I = v3.inc := ⟨_, rfl⟩
          obtain ⟨L, hL⟩ : ∃ L, L = v3.least := ⟨_, rfl⟩
          have HK : Hid (∀ W, ((W.cell? ⟨V, 3, none⟩ = some (.int .i64 (M : Int)) ∧ W.cell? ⟨V, 2, none⟩ = some (.int .i64 (I : Int)) ∧ W.cell? ⟨V, 4, none⟩ = some (.int .i64 (L : Int))) ∧ Twin w W g R s3 v3 bv r V t3' v3) → (Calls Try.prog 23 #[.pointer (some ⟨R, 0, none⟩)] W fun e w' => e = .returned (.int .i64 (M : Int)) ∧ w' = W) ∧ (Calls Try.prog 24 #[.pointer (some ⟨R, 0, none⟩)] W fun e w' => e = .returned (.int .i64 (I : Int)) ∧ w' = W) ∧ (Calls Try.prog 25 #[.pointer (some ⟨R, 0, none⟩)] W fun e w' => e = .returned (.int .i64 (L : Int)) ∧ w' = W)) := fun W hW => by rw [hM, hI, hL]; exact hW.2.tells HIN3.out.2.1
          have H0 : Hid ((wd.cell? ⟨V, 3, none⟩ = some (.int .i64 (M : Int)) ∧ wd.cell? ⟨V, 2, none⟩ = some (.int .i64 (I : Int)) ∧ wd.cell? ⟨V, 4, none⟩ = some (.int .i64 (L : Int))) ∧ Twin w wd g R s3 v3 bv r V t3' v3) := by rw [hM, hI, hL]; exact ⟨HQ3.out.cells, HQ3.out⟩
          have HD : Hid (∀ W, ((W.cell? ⟨V, 3, none⟩ = some (.int .i64 (M : Int)) ∧ W.cell? ⟨V, 2, none⟩ = some (.int .i64 (I : Int)) ∧ W.cell? ⟨V, 4, none⟩ = some (.int .i64 (L : Int))) ∧ Twin w W g R s3 v3 bv r V t3' v3) → ((W.drew.cell? ⟨V, 3, none⟩ = some (.int .i64 (M : Int)) ∧ W.drew.cell? ⟨V, 2, none⟩ = some (.int .i64 (I : Int)) ∧ W.drew.cell? ⟨V, 4, none⟩ = some (.int .i64 (L : Int))) ∧ Twin w W.drew g R s3 v3 bv r V t3' v3)) := fun W hW => ⟨hW.1, hW.2.drew⟩
          clear hM hI hL ck cn HCN
          go_upto_region 31 with fail
          go_region_held3 (fun W => (W.cell? ⟨V, 3, none⟩ = some (.int .i64 (M : Int)) ∧ W.cell? ⟨V, 2, none⟩ = some (.int .i64 (I : Int)) ∧ W.cell? ⟨V, 4, none⟩ = some (.int .i64 (L : Int))) ∧ Twin w W g R s3 v3 bv r V t3' v3)
            (first | exact H0.out | assumption | exact HD.out _ H0.out | exact HD.out _ (by assumption))
            (first | (go_at_call 23; (with_reducible refine (HK.out _ ?_).1.mono ?_); (focus (first | exact H0.out | assumption | exact HD.out _ H0.out | exact HD.out _ (by assumption))); rintro e w9 ⟨rfl, rfl⟩) | (go_at_call 24; (with_reducible refine (HK.out _ ?_).2.1.mono ?_); (focus (first | exact H0.out | assumption | exact HD.out _ H0.out | exact HD.out _ (by assumption))); rintro e w9 ⟨rfl, rfl⟩) | (go_at_call 25; (with_reducible refine (HK.out _ ?_).2.2.mono ?_); (focus (first | exact H0.out | assumption | exact HD.out _ H0.out | exact HD.out _ (by assumption))); rintro e w9 ⟨rfl, rfl⟩))
          have HE : Hid (Twin w wd.drew g R s3 v3 bv r V t3' v3) := HQ3.out.drew
          clear HK H0 HD HQ3
          go_wp2
          go_roundw
          case rel => exact ⟨k + 1, R, V, s3, v3, t3', by omega, by go_num, rfl, rfl, HIN3.out.1, HIN3.out.2.1, by have := HIN3.out.2.2.1; omega, HIN3.out.2.2.2, HE.out⟩
          case measure => simp [intOf]; omega
        · obtain ⟨hsim2, hvo, hsn, hsl⟩ := HIN.out
          obtain ⟨e0, he0⟩ : ∃ e0, e0 = saveE s2 0 12 (recL v.inc (newM v zn.toNat)) := ⟨_, rfl⟩
          obtain ⟨s0, hs0⟩ : ∃ s0, s0 = saveS s2 0 12 (recL v.inc (newM v zn.toNat)) := ⟨_, rfl⟩
          obtain ⟨t0, ht0⟩ : ∃ t0, t0 = rsaveT t2' 0 12 (recL v.inc (newM v zn.toNat)) := ⟨_, rfl⟩
          have hsv := hsim2.save 0 12 (recL v.inc (newM v zn.toNat))
          obtain ⟨E, hE⟩ : ∃ E, E = tkE v zn e0 := ⟨_, rfl⟩
          obtain ⟨s3, hs3⟩ : ∃ s3, s3 = tkS v zn s2 s0 := ⟨_, rfl⟩
          obtain ⟨t3', ht3⟩ : ∃ t3', t3' = tkS v zn t2' t0 := ⟨_, rfl⟩
          obtain ⟨v3, hv3⟩ : ∃ v3, v3 = tkV v zn e0 := ⟨_, rfl⟩
          have HP5 : Hid (Calls Try.prog 16 #[.pointer (some ⟨R, 0, none⟩), .int .i64 zn] wb.drew fun e w' => e = .returned (.int .i64 (E : Int)) ∧ Twin w w' g R s3 v3 bv r V t2' v) := ptake_twin HQB.out.drew hvo (by omega) zn HWN.out e0 he0 s0 hs0 E hE s3 hs3 v3 hv3
          have HQ5 : Hid (∀ W, Twin w W g R s3 v3 bv r V t2' v → Calls Try.prog 17 #[.pointer (some ⟨V, 0, none⟩), .int .i64 zn] W fun e w' => e = .returned (.int .i64 (E : Int)) ∧ Twin w w' g R s3 v3 bv r V t3' v3) := fun W hW => rtake_twin hW hvo (by have := hsim2.n; omega) zn HWN.out e0 (by rw [he0, hsv.1]) t0 ht0 E hE t3' ht3 v3 hv3
          have HIN3 : Hid (Sim s3 t3' ∧ v3.ok ∧ s3.n ≤ 3 * k + 4 ∧ s3.b.length = 64) := ⟨by rw [hs3, ht3]; exact Sim.took v zn hsim2 (by rw [hs0, ht0]; exact hsv.2), by rw [hv3]; exact tkV_ok v zn e0 hvo, by rw [hs3, hs0]; have := tkS_n v zn s2 (recL v.inc (newM v zn.toNat)); omega, by rw [hs3, hs0, tkS_len]; exact hsl⟩
          rw [show (((1 : Nat) : Int)) = 1 from rfl] at m1 m2
          clear he0 hs0 ht0 hsv hE hs3 ht3 hv3 hsim2 hvo hsn hsl HIN
          go_upto_region 26 with fail
          refine wp_region_noPanic ?_
          refine wp_region_held (S := fun W => W.cell? ⟨nb, no + k, none⟩ = some (.int .i64 zn)) (by kernel_rfl) ?_
          have hS := (show (fun W => W.cell? ⟨nb, no + k, none⟩ = some (.int .i64 zn)) wb.drew from cn)
          refine any_take 0 ?vrc1n1 rfl (by kernel_rfl) (by kernel_rfl) (by kernel_rfl) (fun _ _ _ h => h) (by rfl) ?hrc1n1 hS ?_
          case hrc1n1 => (intro w hSw; (try dsimp only at hSw); go_split_ands; go_simp; (try with_reducible rfl))
          (try simp only [Act.put, List.setIfInBounds_toArray, List.set_cons_zero, List.set_cons_succ])
          refine any_take 1 ?vrc1n2 rfl (by kernel_rfl) (by kernel_rfl) (by kernel_rfl) (fun _ _ _ h => h) (by rfl) ?hrc1n2 hS ?_
          case hrc1n2 => (intro w hSw; (try dsimp only at hSw); go_split_ands; go_simp; (try with_reducible rfl))
          (try simp only [Act.put, List.setIfInBounds_toArray, List.set_cons_zero, List.set_cons_succ])
          refine any_take 2 ?vrc1n3 rfl (by kernel_rfl) (by kernel_rfl) (by kernel_rfl) (fun _ _ _ h => h) (by rfl) ?hrc1n3 hS ?_
          case hrc1n3 => (intro w hSw; (try dsimp only at hSw); go_split_ands; go_simp; (try with_reducible rfl))
          (try simp only [Act.put, List.setIfInBounds_toArray, List.set_cons_zero, List.set_cons_succ])
          refine any_take 3 ?vrc1n4 rfl (by kernel_rfl) (by kernel_rfl) (by kernel_rfl) (fun _ _ _ h => h) (by rfl) ?hrc1n4 hS ?_
          case hrc1n4 => (intro w hSw; (try dsimp only at hSw); go_split_ands; go_simp; (try with_reducible rfl))
          (try simp only [Act.put, List.setIfInBounds_toArray, List.set_cons_zero, List.set_cons_succ])
          refine any_take 4 ?vrc1n5 rfl (by kernel_rfl) (by kernel_rfl) (by kernel_rfl) (fun _ _ _ h => h) (by rfl) ?hrc1n5 hS ?_
          case hrc1n5 => (intro w hSw; (try dsimp only at hSw); go_split_ands; go_simp; (try with_reducible rfl))
          (try simp only [Act.put, List.setIfInBounds_toArray, List.set_cons_zero, List.set_cons_succ])
          refine any_take 6 ?vrc1n6 rfl (by kernel_rfl) (by kernel_rfl) (by kernel_rfl) (fun _ _ _ h => h) (by rfl) ?hrc1n6 hS ?_
          case hrc1n6 => (intro w hSw; (try dsimp only at hSw); go_split_ands; go_simp; (try with_reducible rfl))
          (try simp only [Act.put, List.setIfInBounds_toArray, List.set_cons_zero, List.set_cons_succ])
          refine any_take 7 ?vrc1n7 rfl (by kernel_rfl) (by kernel_rfl) (by kernel_rfl) (fun _ _ _ h => h) (by rfl) ?hrc1n7 hS ?_
          case hrc1n7 => (intro w hSw; (try dsimp only at hSw); go_split_ands; go_simp; (try with_reducible rfl))
          (try simp only [Act.put, List.setIfInBounds_toArray, List.set_cons_zero, List.set_cons_succ])
          refine any_take 8 ?vrc1n8 rfl (by kernel_rfl) (by kernel_rfl) (by kernel_rfl) (fun _ _ _ h => h) (by rfl) ?hrc1n8 hS ?_
          case hrc1n8 => (intro w hSw; (try dsimp only at hSw); go_split_ands; go_simp; (try with_reducible rfl))
          (try simp only [Act.put, List.setIfInBounds_toArray, List.set_cons_zero, List.set_cons_succ])
          refine any_take 9 ?vrc1n9 rfl (by kernel_rfl) (by kernel_rfl) (by kernel_rfl) (fun _ _ _ h => h) (by rfl) ?hrc1n9 hS ?_
          case hrc1n9 => (intro w hSw; (try dsimp only at hSw); go_split_ands; go_simp; (try with_reducible rfl))
          (try simp only [Act.put, List.setIfInBounds_toArray, List.set_cons_zero, List.set_cons_succ])
          refine any_take 10 ?vrc1n10 rfl (by kernel_rfl) (by kernel_rfl) (by kernel_rfl) (fun _ _ _ h => h) (by rfl) ?hrc1n10 hS ?_
          case hrc1n10 => (intro w hSw; (try dsimp only at hSw); go_split_ands; go_simp; (try with_reducible rfl))
          (try simp only [Act.put, List.setIfInBounds_toArray, List.set_cons_zero, List.set_cons_succ])
          refine any_one 5 rfl (by kernel_rfl) (by rfl) (fun K hK => ?_)
          clear hS
          go_simp
          refine HP5.out.mono ?_
          rintro e wc ⟨rfl, hqc⟩
          clear HP5
          refine hK.out _ _ (HCN.out _ hqc.low) (fun hS => ?_)
          clear hK
          (try simp only [Act.put, List.setIfInBounds_toArray, List.set_cons_zero, List.set_cons_succ])
          refine any_one 11 rfl (by kernel_rfl) (by rfl) (fun K hK => ?_)
          clear hS
          go_simp
          refine (HQ5.out _ hqc).mono ?_
          rintro e wd ⟨rfl, hqd⟩
          clear HQ5
          refine hK.out _ _ (HCN.out _ hqd.low) (fun hS => ?_)
          clear hK
          (try simp only [Act.put, List.setIfInBounds_toArray, List.set_cons_zero, List.set_cons_succ])
          refine any_take 12 ?vrc1n11 rfl (by kernel_rfl) (by kernel_rfl) (by kernel_rfl) (fun _ _ _ h => h) (by rfl) ?hrc1n11 hS ?_
          case hrc1n11 => (intro w hSw; (try dsimp only at hSw); go_split_ands; go_simp; (try with_reducible rfl))
          (try simp only [Act.put, List.setIfInBounds_toArray, List.set_cons_zero, List.set_cons_succ])
          refine wpAnyH_done (by kernel_rfl) ?_ _
          refine NoPanic.normal ?_
          have HQ3 : Hid (Twin w wd g R s3 v3 bv r V t3' v3) := hqd
          clear hS hqd hqc HQB
          obtain ⟨M, hM⟩ : ∃ M, M = v3.mark := ⟨_, rfl⟩
          obtain ⟨I, hI⟩ : ∃ I, I = v3.inc := ⟨_, rfl⟩
          obtain ⟨L, hL⟩ : ∃ L, L = v3.least := ⟨_, rfl⟩
          have HK : Hid (∀ W, ((W.cell? ⟨V, 3, none⟩ = some (.int .i64 (M : Int)) ∧ W.cell? ⟨V, 2, none⟩ = some (.int .i64 (I : Int)) ∧ W.cell? ⟨V, 4, none⟩ = some (.int .i64 (L : Int))) ∧ Twin w W g R s3 v3 bv r V t3' v3) → (Calls Try.prog 23 #[.pointer (some ⟨R, 0, none⟩)] W fun e w' => e = .returned (.int .i64 (M : Int)) ∧ w' = W) ∧ (Calls Try.prog 24 #[.pointer (some ⟨R, 0, none⟩)] W fun e w' => e = .returned (.int .i64 (I : Int)) ∧ w' = W) ∧ (Calls Try.prog 25 #[.pointer (some ⟨R, 0, none⟩)] W fun e w' => e = .returned (.int .i64 (L : Int)) ∧ w' = W)) := fun W hW => by rw [hM, hI, hL]; exact hW.2.tells HIN3.out.2.1
          have H0 : Hid ((wd.cell? ⟨V, 3, none⟩ = some (.int .i64 (M : Int)) ∧ wd.cell? ⟨V, 2, none⟩ = some (.int .i64 (I : Int)) ∧ wd.cell? ⟨V, 4, none⟩ = some (.int .i64 (L : Int))) ∧ Twin w wd g R s3 v3 bv r V t3' v3) := by rw [hM, hI, hL]; exact ⟨HQ3.out.cells, HQ3.out⟩
          have HD : Hid (∀ W, ((W.cell? ⟨V, 3, none⟩ = some (.int .i64 (M : Int)) ∧ W.cell? ⟨V, 2, none⟩ = some (.int .i64 (I : Int)) ∧ W.cell? ⟨V, 4, none⟩ = some (.int .i64 (L : Int))) ∧ Twin w W g R s3 v3 bv r V t3' v3) → ((W.drew.cell? ⟨V, 3, none⟩ = some (.int .i64 (M : Int)) ∧ W.drew.cell? ⟨V, 2, none⟩ = some (.int .i64 (I : Int)) ∧ W.drew.cell? ⟨V, 4, none⟩ = some (.int .i64 (L : Int))) ∧ Twin w W.drew g R s3 v3 bv r V t3' v3)) := fun W hW => ⟨hW.1, hW.2.drew⟩
          clear hM hI hL ck cn HCN
          go_upto_region 31 with fail
          go_region_held3 (fun W => (W.cell? ⟨V, 3, none⟩ = some (.int .i64 (M : Int)) ∧ W.cell? ⟨V, 2, none⟩ = some (.int .i64 (I : Int)) ∧ W.cell? ⟨V, 4, none⟩ = some (.int .i64 (L : Int))) ∧ Twin w W g R s3 v3 bv r V t3' v3)
            (first | exact H0.out | assumption | exact HD.out _ H0.out | exact HD.out _ (by assumption))
            (first | (go_at_call 23; (with_reducible refine (HK.out _ ?_).1.mono ?_); (focus (first | exact H0.out | assumption | exact HD.out _ H0.out | exact HD.out _ (by assumption))); rintro e w9 ⟨rfl, rfl⟩) | (go_at_call 24; (with_reducible refine (HK.out _ ?_).2.1.mono ?_); (focus (first | exact H0.out | assumption | exact HD.out _ H0.out | exact HD.out _ (by assumption))); rintro e w9 ⟨rfl, rfl⟩) | (go_at_call 25; (with_reducible refine (HK.out _ ?_).2.2.mono ?_); (focus (first | exact H0.out | assumption | exact HD.out _ H0.out | exact HD.out _ (by assumption))); rintro e w9 ⟨rfl, rfl⟩))
          have HE : Hid (Twin w wd.drew g R s3 v3 bv r V t3' v3) := HQ3.out.drew
          clear HK H0 HD HQ3
          go_wp2
          go_roundw
          case rel => exact ⟨k + 1, R, V, s3, v3, t3', by omega, by go_num, rfl, rfl, HIN3.out.1, HIN3.out.2.1, by have := HIN3.out.2.2.1; omega, HIN3.out.2.2.2, HE.out⟩
          case measure => simp [intOf]; omega
        · obtain ⟨hsim2, hvo, hsn, hsl⟩ := HIN.out
          obtain ⟨e0, he0⟩ : ∃ e0, e0 = saveE s2 0 12 (recL (v.inc + 1) v.mark) := ⟨_, rfl⟩
          obtain ⟨s0, hs0⟩ : ∃ s0, s0 = saveS s2 0 12 (recL (v.inc + 1) v.mark) := ⟨_, rfl⟩
          obtain ⟨t0, ht0⟩ : ∃ t0, t0 = rsaveT t2' 0 12 (recL (v.inc + 1) v.mark) := ⟨_, rfl⟩
          have hsv := hsim2.save 0 12 (recL (v.inc + 1) v.mark)
          obtain ⟨E, hE⟩ : ∃ E, E = bnE v e0 := ⟨_, rfl⟩
          obtain ⟨s3, hs3⟩ : ∃ s3, s3 = bnS v s2 s0 := ⟨_, rfl⟩
          obtain ⟨t3', ht3⟩ : ∃ t3', t3' = bnS v t2' t0 := ⟨_, rfl⟩
          obtain ⟨v3, hv3⟩ : ∃ v3, v3 = bnV v e0 := ⟨_, rfl⟩
          have kp := pborn_twin HQB.out hvo (by omega) e0 he0 s0 hs0 E hE s3 hs3 v3 hv3
          have HQ5 : Hid (∀ W, Twin w W g R s3 v3 bv r V t2' v → Calls Try.prog 19 #[.pointer (some ⟨V, 0, none⟩)] W fun e w' => e = .returned (.int .i64 (E : Int)) ∧ Twin w w' g R s3 v3 bv r V t3' v3) := fun W hW => rborn_twin hW hvo (by have := hsim2.n; omega) e0 (by rw [he0, hsv.1]) t0 ht0 E hE t3' ht3 v3 hv3
          have HIN3 : Hid (Sim s3 t3' ∧ v3.ok ∧ s3.n ≤ 3 * k + 4 ∧ s3.b.length = 64) := ⟨by rw [hs3, ht3]; exact Sim.bore v hsim2 (by rw [hs0, ht0]; exact hsv.2), by rw [hv3]; exact bnV_ok v e0 hvo, by rw [hs3, hs0]; have := bnS_n v s2 (recL (v.inc + 1) v.mark); omega, by rw [hs3, hs0, bnS_len]; exact hsl⟩
          rw [show (((2 : Nat) : Int)) = 2 from rfl] at m1 m2
          clear he0 hs0 ht0 hsv hE hs3 ht3 hv3 hsim2 hvo hsn hsl HIN
          go_wp2_with fail
          refine kp.mono ?_
          rintro e wc ⟨rfl, hqc⟩
          have kr := HQ5.out wc hqc
          clear kp HQ5 hqc HQB
          go_wp2_with fail
          refine kr.mono ?_
          rintro e wd ⟨rfl, hqd⟩
          have HQ3 : Hid (Twin w wd g R s3 v3 bv r V t3' v3) := hqd
          clear kr hqd
          obtain ⟨M, hM⟩ : ∃ M, M = v3.mark := ⟨_, rfl⟩
          obtain ⟨I, hI⟩ : ∃ I, I = v3.inc := ⟨_, rfl⟩
          obtain ⟨L, hL⟩ : ∃ L, L = v3.least := ⟨_, rfl⟩
          have HK : Hid (∀ W, ((W.cell? ⟨V, 3, none⟩ = some (.int .i64 (M : Int)) ∧ W.cell? ⟨V, 2, none⟩ = some (.int .i64 (I : Int)) ∧ W.cell? ⟨V, 4, none⟩ = some (.int .i64 (L : Int))) ∧ Twin w W g R s3 v3 bv r V t3' v3) → (Calls Try.prog 23 #[.pointer (some ⟨R, 0, none⟩)] W fun e w' => e = .returned (.int .i64 (M : Int)) ∧ w' = W) ∧ (Calls Try.prog 24 #[.pointer (some ⟨R, 0, none⟩)] W fun e w' => e = .returned (.int .i64 (I : Int)) ∧ w' = W) ∧ (Calls Try.prog 25 #[.pointer (some ⟨R, 0, none⟩)] W fun e w' => e = .returned (.int .i64 (L : Int)) ∧ w' = W)) := fun W hW => by rw [hM, hI, hL]; exact hW.2.tells HIN3.out.2.1
          have H0 : Hid ((wd.cell? ⟨V, 3, none⟩ = some (.int .i64 (M : Int)) ∧ wd.cell? ⟨V, 2, none⟩ = some (.int .i64 (I : Int)) ∧ wd.cell? ⟨V, 4, none⟩ = some (.int .i64 (L : Int))) ∧ Twin w wd g R s3 v3 bv r V t3' v3) := by rw [hM, hI, hL]; exact ⟨HQ3.out.cells, HQ3.out⟩
          have HD : Hid (∀ W, ((W.cell? ⟨V, 3, none⟩ = some (.int .i64 (M : Int)) ∧ W.cell? ⟨V, 2, none⟩ = some (.int .i64 (I : Int)) ∧ W.cell? ⟨V, 4, none⟩ = some (.int .i64 (L : Int))) ∧ Twin w W g R s3 v3 bv r V t3' v3) → ((W.drew.cell? ⟨V, 3, none⟩ = some (.int .i64 (M : Int)) ∧ W.drew.cell? ⟨V, 2, none⟩ = some (.int .i64 (I : Int)) ∧ W.drew.cell? ⟨V, 4, none⟩ = some (.int .i64 (L : Int))) ∧ Twin w W.drew g R s3 v3 bv r V t3' v3)) := fun W hW => ⟨hW.1, hW.2.drew⟩
          clear hM hI hL ck cn HCN
          go_upto_region 31 with fail
          go_region_held3 (fun W => (W.cell? ⟨V, 3, none⟩ = some (.int .i64 (M : Int)) ∧ W.cell? ⟨V, 2, none⟩ = some (.int .i64 (I : Int)) ∧ W.cell? ⟨V, 4, none⟩ = some (.int .i64 (L : Int))) ∧ Twin w W g R s3 v3 bv r V t3' v3)
            (first | exact H0.out | assumption | exact HD.out _ H0.out | exact HD.out _ (by assumption))
            (first | (go_at_call 23; (with_reducible refine (HK.out _ ?_).1.mono ?_); (focus (first | exact H0.out | assumption | exact HD.out _ H0.out | exact HD.out _ (by assumption))); rintro e w9 ⟨rfl, rfl⟩) | (go_at_call 24; (with_reducible refine (HK.out _ ?_).2.1.mono ?_); (focus (first | exact H0.out | assumption | exact HD.out _ H0.out | exact HD.out _ (by assumption))); rintro e w9 ⟨rfl, rfl⟩) | (go_at_call 25; (with_reducible refine (HK.out _ ?_).2.2.mono ?_); (focus (first | exact H0.out | assumption | exact HD.out _ H0.out | exact HD.out _ (by assumption))); rintro e w9 ⟨rfl, rfl⟩))
          have HE : Hid (Twin w wd.drew g R s3 v3 bv r V t3' v3) := HQ3.out.drew
          clear HK H0 HD HQ3
          go_wp2
          go_roundw
          case rel => exact ⟨k + 1, R, V, s3, v3, t3', by omega, by go_num, rfl, rfl, HIN3.out.1, HIN3.out.2.1, by have := HIN3.out.2.2.1; omega, HIN3.out.2.2.2, HE.out⟩
          case measure => simp [intOf]; omega
        · obtain ⟨hsim2, hvo, hsn, hsl⟩ := HIN.out
          obtain ⟨s3, hs3⟩ : ∃ s3, s3 = wakeS s2 := ⟨_, rfl⟩
          obtain ⟨t3', ht3⟩ : ∃ t3', t3' = rwakeT t2' := ⟨_, rfl⟩
          have kp := pwake_twin HQB.out s3 hs3
          have KW : Hid (∀ W, Twin w W g R s3 v bv r V t2' v → Calls Try.prog 21 #[.pointer (some ⟨r, 0, none⟩)] W fun e w' => (∃ z, e = .returned z) ∧ Twin w w' g R s3 v bv r V t3' v) := fun W hW => rwake_twin hW t3' ht3
          have HI2 : Hid (Sim s3 t3' ∧ s3.n ≤ 3 * k + 4 ∧ s3.b.length = 64) := ⟨by rw [hs3, ht3]; exact hsim2.wake, by rw [hs3, wake_n]; omega, by rw [hs3]; exact hsl⟩
          rw [show (((3 : Nat) : Int)) = 3 from rfl] at m1 m2
          clear hs3 ht3 hsim2 hvo hsn hsl HIN
          go_wp2_with fail
          refine kp.mono ?_
          rintro e wc ⟨⟨vc, rfl⟩, hqc⟩
          have kr := KW.out wc hqc
          clear kp KW hqc HQB
          go_wp2_with fail
          refine kr.mono ?_
          rintro e wd ⟨⟨vd, rfl⟩, hqd⟩
          clear kr
          have hhalf := hqd.half
          clear hqd
          obtain ⟨E3, hE3⟩ : ∃ E3, E3 = opE s3 0 x1 := ⟨_, rfl⟩
          by_cases hz3 : E3 = 0
          · subst hz3
            obtain ⟨v3, hv3⟩ : ∃ v3, v3 = opV s3 0 x1 := ⟨_, rfl⟩
            have HIN3 : Hid (Sim s3 t3' ∧ v3.ok ∧ s3.n ≤ 3 * k + 4 ∧ s3.b.length = 64) := ⟨HI2.out.1, by rw [hv3]; exact opV_ok hE3.symm, HI2.out.2.1, HI2.out.2.2⟩
            have ko := popen_half hhalf HI2.out.2.2 x1 hE3.symm v3 hv3
            have KR : Hid (∀ W R', Most w W g R' s3 v3 bv r t3' → Calls Try.prog 13 #[.pointer (some ⟨bv, 0, none⟩), .int .i64 x1] W fun e w' => ∃ V', e = .returned (.tuple #[.pointer (some ⟨V', 0, none⟩), .int .i64 0]) ∧ Twin w w' g R' s3 v3 bv r V' t3' v3) := fun W R' hW => ropen_most hW HI2.out.1 x1 hE3.symm v3 hv3
            clear hhalf hE3 hv3 HI2
            go_wp2_with fail
            refine ko.mono ?_
            rintro e we ⟨R', rfl, hqe⟩
            have kr := KR.out we R' hqe
            clear ko KR hqe
            go_wp2_with fail
            refine kr.mono ?_
            rintro e wf ⟨V', rfl, hqf⟩
            have HQ3 : Hid (Twin w wf g R' s3 v3 bv r V' t3' v3) := hqf
            clear kr hqf
            obtain ⟨M, hM⟩ : ∃ M, M = v3.mark := ⟨_, rfl⟩
            obtain ⟨I, hI⟩ : ∃ I, I = v3.inc := ⟨_, rfl⟩
            obtain ⟨L, hL⟩ : ∃ L, L = v3.least := ⟨_, rfl⟩
            have HK : Hid (∀ W, ((W.cell? ⟨V', 3, none⟩ = some (.int .i64 (M : Int)) ∧ W.cell? ⟨V', 2, none⟩ = some (.int .i64 (I : Int)) ∧ W.cell? ⟨V', 4, none⟩ = some (.int .i64 (L : Int))) ∧ Twin w W g R' s3 v3 bv r V' t3' v3) → (Calls Try.prog 23 #[.pointer (some ⟨R', 0, none⟩)] W fun e w' => e = .returned (.int .i64 (M : Int)) ∧ w' = W) ∧ (Calls Try.prog 24 #[.pointer (some ⟨R', 0, none⟩)] W fun e w' => e = .returned (.int .i64 (I : Int)) ∧ w' = W) ∧ (Calls Try.prog 25 #[.pointer (some ⟨R', 0, none⟩)] W fun e w' => e = .returned (.int .i64 (L : Int)) ∧ w' = W)) := fun W hW => by rw [hM, hI, hL]; exact hW.2.tells HIN3.out.2.1
            have H0 : Hid ((wf.cell? ⟨V', 3, none⟩ = some (.int .i64 (M : Int)) ∧ wf.cell? ⟨V', 2, none⟩ = some (.int .i64 (I : Int)) ∧ wf.cell? ⟨V', 4, none⟩ = some (.int .i64 (L : Int))) ∧ Twin w wf g R' s3 v3 bv r V' t3' v3) := by rw [hM, hI, hL]; exact ⟨HQ3.out.cells, HQ3.out⟩
            have HD : Hid (∀ W, ((W.cell? ⟨V', 3, none⟩ = some (.int .i64 (M : Int)) ∧ W.cell? ⟨V', 2, none⟩ = some (.int .i64 (I : Int)) ∧ W.cell? ⟨V', 4, none⟩ = some (.int .i64 (L : Int))) ∧ Twin w W g R' s3 v3 bv r V' t3' v3) → ((W.drew.cell? ⟨V', 3, none⟩ = some (.int .i64 (M : Int)) ∧ W.drew.cell? ⟨V', 2, none⟩ = some (.int .i64 (I : Int)) ∧ W.drew.cell? ⟨V', 4, none⟩ = some (.int .i64 (L : Int))) ∧ Twin w W.drew g R' s3 v3 bv r V' t3' v3)) := fun W hW => ⟨hW.1, hW.2.drew⟩
            clear hM hI hL ck cn HCN
            go_upto_region 31 with fail
            go_region_held3 (fun W => (W.cell? ⟨V', 3, none⟩ = some (.int .i64 (M : Int)) ∧ W.cell? ⟨V', 2, none⟩ = some (.int .i64 (I : Int)) ∧ W.cell? ⟨V', 4, none⟩ = some (.int .i64 (L : Int))) ∧ Twin w W g R' s3 v3 bv r V' t3' v3)
              (first | exact H0.out | assumption | exact HD.out _ H0.out | exact HD.out _ (by assumption))
              (first | (go_at_call 23; (with_reducible refine (HK.out _ ?_).1.mono ?_); (focus (first | exact H0.out | assumption | exact HD.out _ H0.out | exact HD.out _ (by assumption))); rintro e w9 ⟨rfl, rfl⟩) | (go_at_call 24; (with_reducible refine (HK.out _ ?_).2.1.mono ?_); (focus (first | exact H0.out | assumption | exact HD.out _ H0.out | exact HD.out _ (by assumption))); rintro e w9 ⟨rfl, rfl⟩) | (go_at_call 25; (with_reducible refine (HK.out _ ?_).2.2.mono ?_); (focus (first | exact H0.out | assumption | exact HD.out _ H0.out | exact HD.out _ (by assumption))); rintro e w9 ⟨rfl, rfl⟩))
            have HE : Hid (Twin w wf.drew g R' s3 v3 bv r V' t3' v3) := HQ3.out.drew
            clear HK H0 HD HQ3
            go_wp2
            go_roundw
            case rel => exact ⟨k + 1, R', V', s3, v3, t3', by omega, by go_num, rfl, rfl, HIN3.out.1, HIN3.out.2.1, by have := HIN3.out.2.2.1; omega, HIN3.out.2.2.2, HE.out⟩
            case measure => simp [intOf]; omega
          · have ko := popen_half_err hhalf HI2.out.2.2 x1 W1.out E3 hE3 hz3
            have KR : Hid (∀ W, Half w W g s3 bv r t3' → Calls Try.prog 13 #[.pointer (some ⟨bv, 0, none⟩), .int .i64 x1] W fun e w' => e = .returned (.tuple #[.pointer none, .int .i64 (E3 : Int)]) ∧ Half w w' g s3 bv r t3') := fun W hW => ropen_half_err hW HI2.out.1 x1 W1.out E3 hE3 hz3
            clear hhalf hE3 HI2 hz3
            go_wp2_with fail
            refine ko.mono ?_
            rintro e we ⟨rfl, hqe⟩
            have kr := KR.out we hqe
            clear ko KR hqe
            go_wp2_with fail
            refine kr.mono ?_
            rintro e wf ⟨rfl, hqf⟩
            have HBF : Hid (Below w.heap.size w wf) := hqf.2
            clear kr hqf
            go_wp2_with fail
            refine (vawake_ok _).mono ?_
            rintro e wy ⟨rfl, hby⟩
            have HE : Hid (Below w.heap.size w wy) := HBF.out.trans (hby.mono HBF.out.size)
            clear hby HBF
            go_wp2
            go_ret
            exact ⟨rfl, HE.out⟩
      · have HQU : Hid (Twin w wr g R s v bv r V t v) := hq
        clear hq hsim hvo hsn hsl H2 H3 H4 H5
        by_cases b0 : ¬ (k < kl.length)
        · have f0 : decide ((k : Int) < (kl.length : Int)) = false := decide_eq_false (by omega)
          clear hall
          go_wp2_with fail
          refine (vawake_ok _).mono ?_
          rintro e wy ⟨rfl, hby⟩
          have HE : Hid (Below w.heap.size w wy) := HQU.out.low.trans (hby.mono HQU.out.low.size)
          clear hby
          go_wp2
          go_ret
          exact ⟨rfl, HE.out⟩
        have f0 : decide ((k : Int) < (kl.length : Int)) = true := decide_eq_true (by omega)
        by_cases b1 : ¬ (k < nl.length)
        · have f1 : decide ((k : Int) < (nl.length : Int)) = false := decide_eq_false (by omega)
          clear hall
          go_wp2_with fail
          refine (vawake_ok _).mono ?_
          rintro e wy ⟨rfl, hby⟩
          have HE : Hid (Below w.heap.size w wy) := HQU.out.low.trans (hby.mono HQU.out.low.size)
          clear hby
          go_wp2
          go_ret
          exact ⟨rfl, HE.out⟩
        have f1 : decide ((k : Int) < (nl.length : Int)) = true := decide_eq_true (by omega)
        by_cases b2 : ¬ (k < sl.length)
        · have f2 : decide ((k : Int) < (sl.length : Int)) = false := decide_eq_false (by omega)
          clear hall
          go_wp2_with fail
          refine (vawake_ok _).mono ?_
          rintro e wy ⟨rfl, hby⟩
          have HE : Hid (Below w.heap.size w wy) := HQU.out.low.trans (hby.mono HQU.out.low.size)
          clear hby
          go_wp2
          go_ret
          exact ⟨rfl, HE.out⟩
        have f2 : decide ((k : Int) < (sl.length : Int)) = true := decide_eq_true (by omega)
        by_cases b3 : ¬ (k < tl.length)
        · have f3 : decide ((k : Int) < (tl.length : Int)) = false := decide_eq_false (by omega)
          clear hall
          go_wp2_with fail
          refine (vawake_ok _).mono ?_
          rintro e wy ⟨rfl, hby⟩
          have HE : Hid (Below w.heap.size w wy) := HQU.out.low.trans (hby.mono HQU.out.low.size)
          clear hby
          go_wp2
          go_ret
          exact ⟨rfl, HE.out⟩
        have f3 : decide ((k : Int) < (tl.length : Int)) = true := decide_eq_true (by omega)
        have f9 : decide ((k : Int) < 40) = false := by simp; omega
        clear hall
        go_wp2_with fail
        refine (vawake_ok _).mono ?_
        rintro e wy ⟨rfl, hby⟩
        have HE : Hid (Below w.heap.size w wy) := HQU.out.low.trans (hby.mono HQU.out.low.size)
        clear hby
        go_wp2
        go_ret
        exact ⟨rfl, HE.out⟩
  · have ko := popen_half_err h5 HS1.out.2.2 x1 W1.out E0 hE0 hz
    have KR : Hid (∀ W, Half w W g s1 bv r t1 → Calls Try.prog 13 #[.pointer (some ⟨bv, 0, none⟩), .int .i64 x1] W fun e w' => e = .returned (.tuple #[.pointer none, .int .i64 (E0 : Int)]) ∧ Half w w' g s1 bv r t1) := fun W hW => ropen_half_err hW HS1.out.1 x1 W1.out E0 hE0 hz
    clear h5 hE0 hz HS1
    go_wp2_with fail
    refine ko.mono ?_
    rintro e w6 ⟨rfl, h6⟩
    have kr := KR.out w6 h6
    clear ko KR h6
    go_wp2_with fail
    refine kr.mono ?_
    rintro e w7 ⟨rfl, h7⟩
    have HB7 : Hid (Below w.heap.size w w7) := h7.2
    clear kr h7 H2 H3 H4 H5
    go_wp2
    go_loopw [19, 21, 23] (fun _ uv ui wr => ui = .int .i64 0 ∧ uv = .pointer none ∧ w7 = wr) (fun _ _ _ _ => 0)
    case atStart => exact ⟨rfl, rfl, rfl⟩
    case round =>
      obtain ⟨rfl, rfl, rfl⟩ := hrel
      by_cases b0 : ¬ (0 < kl.length)
      · have f0 : decide ((0 : Int) < (kl.length : Int)) = false := decide_eq_false (by omega)
        go_wp2_with fail
        refine (vawake_ok _).mono ?_
        rintro e wy ⟨rfl, hby⟩
        have HE : Hid (Below w.heap.size w wy) := HB7.out.trans (hby.mono HB7.out.size)
        clear hby
        go_wp2
        go_ret
        exact ⟨rfl, HE.out⟩
      have f0 : decide ((0 : Int) < (kl.length : Int)) = true := decide_eq_true (by omega)
      by_cases b1 : ¬ (0 < nl.length)
      · have f1 : decide ((0 : Int) < (nl.length : Int)) = false := decide_eq_false (by omega)
        go_wp2_with fail
        refine (vawake_ok _).mono ?_
        rintro e wy ⟨rfl, hby⟩
        have HE : Hid (Below w.heap.size w wy) := HB7.out.trans (hby.mono HB7.out.size)
        clear hby
        go_wp2
        go_ret
        exact ⟨rfl, HE.out⟩
      have f1 : decide ((0 : Int) < (nl.length : Int)) = true := decide_eq_true (by omega)
      by_cases b2 : ¬ (0 < sl.length)
      · have f2 : decide ((0 : Int) < (sl.length : Int)) = false := decide_eq_false (by omega)
        go_wp2_with fail
        refine (vawake_ok _).mono ?_
        rintro e wy ⟨rfl, hby⟩
        have HE : Hid (Below w.heap.size w wy) := HB7.out.trans (hby.mono HB7.out.size)
        clear hby
        go_wp2
        go_ret
        exact ⟨rfl, HE.out⟩
      have f2 : decide ((0 : Int) < (sl.length : Int)) = true := decide_eq_true (by omega)
      by_cases b3 : ¬ (0 < tl.length)
      · have f3 : decide ((0 : Int) < (tl.length : Int)) = false := decide_eq_false (by omega)
        go_wp2_with fail
        refine (vawake_ok _).mono ?_
        rintro e wy ⟨rfl, hby⟩
        have HE : Hid (Below w.heap.size w wy) := HB7.out.trans (hby.mono HB7.out.size)
        clear hby
        go_wp2
        go_ret
        exact ⟨rfl, HE.out⟩
      have f3 : decide ((0 : Int) < (tl.length : Int)) = true := decide_eq_true (by omega)
      go_wp2_with fail
      refine (vawake_ok _).mono ?_
      rintro e wy ⟨rfl, hby⟩
      have HE : Hid (Below w.heap.size w wy) := HB7.out.trans (hby.mono HB7.out.size)
      clear hby
      go_wp2
      go_ret
      exact ⟨rfl, HE.out⟩
end Go.Proofs.Ytjmbioedpghopaa
