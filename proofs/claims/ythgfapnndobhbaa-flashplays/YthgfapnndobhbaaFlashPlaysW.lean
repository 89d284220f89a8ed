/-
  The walk of FlashPlays.
-/
import Derived.Test.YthgfapnndobhbaaFlashSim
import Derived.Test.YthgfapnndobhbaaNums
import Derived.Test.YthgfapnndobhbaaRowArg
import Derived.Deep.Cut
import Derived.Deep.CutBlock
import Derived.Deep.DeepCutAuto
namespace Go.Proofs.Ythgfapnndobhbaa
open Go.ChangeShapes Go.WideShapes Go.ChangeAt Go.RowKit

set_option maxHeartbeats 32000000 in
set_option maxRecDepth 20000 in
theorem plays_walk (x0 : Int) (a1 : Option Addr) (c1 : Nat) (kl : List UInt8) (a2 : Option Addr) (c2 : Nat) (al : List Int) (a3 : Option Addr) (c3 : Nat) (bl : List Int) (a4 : Option Addr) (c4 : Nat) (LL : List (List UInt8)) (w : World)
    (w0 : (Lit.int .i64 x0).wf = true) (s1 : Sees w a1 c1 kl) (_m1 : c1 ≤ 140737488351232) (s2 : Nums .i64 w a2 c2 al) (s3 : Nums .i64 w a3 c3 bl) (s4 : Rowss w a4 c4 LL) :
    Calls Try.prog 3 #[.int .i64 x0, .slice a1 kl.length c1, .slice a2 al.length c2, .slice a3 bl.length c3, .slice a4 LL.length c4] w fun e w' => e = .returned (.bool true) ∧ Below w.heap.size w w' := by
  have H1 : Hid (Sees w a1 c1 kl) := s1
  have H2 : Hid (Nums .i64 w a2 c2 al) := s2
  have H3 : Hid (Nums .i64 w a3 c3 bl) := s3
  have H4 : Hid (Rowss w a4 c4 LL) := s4
  have l1 : kl.length ≤ 9223372036854775807 := by have := s1.fits; omega
  have l2 := s2.len
  have l3 := s3.len
  have l4 := s4.len
  have w0 := bounds_i64 w0
  clear s1 s2 s3 s4 _m1
  by_cases hbad : x0 < 0 ∨ 4096 < x0
  · have hn := new_refused w x0 hbad
    have hr := rnew_refused w x0 hbad
    clear hbad
    go_enter Try.func3, Try.ntmps3
    go_wp2_with fail
    refine hn.mono ?_
    rintro e w1 ⟨rfl, rfl⟩
    clear hn
    go_wp2_with fail
    refine hr.mono ?_
    rintro e w2 ⟨rfl, rfl⟩
    clear hr
    go_wp2_with fail
    refine (awake_ok _).mono ?_
    rintro e w3 ⟨rfl, hb3⟩
    have HE : Hid (Below w2.heap.size w2 w3) := hb3
    clear hb3
    go_wp2
    go_ret
    exact ⟨rfl, HE.out⟩
  obtain ⟨n, rfl⟩ : ∃ n : Nat, x0 = (n : Int) := ⟨x0.toNat, by omega⟩
  have hn := new_duo w n (by omega)
  have hnn : n ≤ 4096 := by omega
  clear hbad w0
  go_enter Try.func3, Try.ntmps3
  go_wp2_with fail
  refine hn.mono ?_
  rintro e w1 ⟨g0, rfl, h1⟩
  clear hn
  have hr := rnew_duo h1 n hnn
  clear h1
  go_wp2_with fail
  refine hr.mono ?_
  rintro e w2 ⟨r, rfl, h2⟩
  clear hr
  have HD0 : Hid (Duo w w2 g0 (newS n) r (rnewT n)) := h2
  clear h2
  go_wp2
  go_loopw [11, 15] (fun f i wr => ∃ (k g : Nat) (s : PS) (t : RS), k ≤ 60 ∧ f = .pointer (some ⟨g, 0, none⟩) ∧ i = .int .i64 (k : Int) ∧ Sim s t ∧ s.n ≤ k ∧ Duo w wr g s r t) (fun _ i _ => 60 - (intOf i).toNat)
  case atStart => exact ⟨0, g0, newS n, rnewT n, by omega, rfl, rfl, sim_new n, by simp [newS], HD0.out⟩
  case round =>
    obtain ⟨k, g, s, t, hk, rfl, rfl, hsim, hsn, hduo⟩ := hrel
    clear HD0
    have g0 : (0 : Int) ≤ (k : Int) := Int.natCast_nonneg _
    by_cases hall : k < kl.length ∧ k < al.length ∧ k < bl.length ∧ k < LL.length ∧ k < 60
    · obtain ⟨k1, k2, k3, k4, k5⟩ := hall
      obtain ⟨kd, hkd⟩ : ∃ z, kl[k]? = some z := ⟨kl[k], by simp [k1]⟩
      obtain ⟨za, hza⟩ : ∃ z, al[k]? = some z := ⟨al[k], by simp [k2]⟩
      obtain ⟨zb, hzb⟩ : ∃ z, bl[k]? = some z := ⟨bl[k], by simp [k3]⟩
      obtain ⟨l, hl⟩ : ∃ l, LL[k]? = some l := ⟨LL[k], by simp [k4]⟩
      obtain ⟨kb, ko, rfl, ck⟩ := H1.out.get hkd
      obtain ⟨ab, ao, rfl, ca⟩ := H2.out.get hza
      obtain ⟨bb, bo, rfl, cb⟩ := H3.out.get hzb
      obtain ⟨lb, lo, rfl, x, cx, cl, hx⟩ := H4.out.at' k l hl
      have wa := H2.out.wf za (List.mem_of_getElem? hza)
      have wb := H3.out.wf zb (List.mem_of_getElem? hzb)
      have HWA : Hid ((Lit.int .i64 za).wf = true) := wa
      have HWB : Hid ((Lit.int .i64 zb).wf = true) := wb
      have HX : Hid (Sees w x cx l) := hx
      have HSK : Hid (∀ W, Below w.heap.size w W → W.cell? ⟨ab, ao + k, none⟩ = some (.int .i64 za) ∧ W.cell? ⟨bb, bo + k, none⟩ = some (.int .i64 zb) ∧ W.cell? ⟨lb, lo + k, none⟩ = some (.slice x l.length cx)) := fun w' hb' =>
        ⟨by rw [hb'.cell (p := ⟨ab, ao + k, none⟩) (World.block_lt_of_cell? w _ ca)]; exact ca, by rw [hb'.cell (p := ⟨bb, bo + k, none⟩) (World.block_lt_of_cell? w _ cb)]; exact cb, by rw [hb'.cell (p := ⟨lb, lo + k, none⟩) (World.block_lt_of_cell? w _ cl)]; exact cl⟩
      have ckr : wr.cell? ⟨kb, ko + k, none⟩ = some (.int .u8 (kd.toNat : Int)) := by rw [hduo.2.cell (p := ⟨kb, ko + k, none⟩) (World.block_lt_of_cell? w _ ck)]; exact ck
      obtain ⟨K, hK⟩ : ∃ K, K = kd.toNat % 5 := ⟨_, rfl⟩
      have m1 : ((kd.toNat : Int)).tmod 5 = (K : Int) := by rw [Int.tmod_eq_emod_of_nonneg (by omega)]; omega
      have m2 : ((kd.toNat : Int)) % 5 = (K : Int) := by omega
      have hK5 : K < 5 := by omega
      have hkd2 : kd.toNat < 256 := kd.toNat_lt
      have t1 : decide ((k : Int) < (kl.length : Int)) = true := by simp; omega
      have t2 : decide ((k : Int) < (al.length : Int)) = true := by simp; omega
      have t3 : decide ((k : Int) < (bl.length : Int)) = true := by simp; omega
      have t4 : decide ((k : Int) < (LL.length : Int)) = true := by simp; omega
      have t5 : decide ((k : Int) < 60) = true := by simp; omega
      have i1 : (k : Int) < (kl.length : Int) := by omega
      have i2 : (k : Int) < (al.length : Int) := by omega
      have i3 : (k : Int) < (bl.length : Int) := by omega
      have i4 : (k : Int) < (LL.length : Int) := by omega
      have HDU : Hid (Duo w wr g s r t) := hduo
      have HSIM : Hid (Sim s t) := hsim
      have HLE : Hid (Sees w x cx l ∧ l.length ≤ 9223372036854775807) := ⟨hx, by have := hx.fits; have := hx.room; unfold maxLen at this; omega⟩
      clear hkd hza hzb hl ck ca cb cl hx wa wb hK hduo hsim
      go_upto_block 2 with fail
      clear ckr m1 m2
      go_cut [11] (fun f wx => ∃ (g' : Nat) (s' : PS) (t' : RS), f = .pointer (some ⟨g', 0, none⟩) ∧ Sim s' t' ∧ s'.n ≤ k + 1 ∧ Duo w wx g' s' r t')
      case first =>
        have h5 : K = 0 ∨ K = 1 ∨ K = 2 ∨ K = 3 ∨ K = 4 := by omega
        clear hK5
        rcases h5 with rfl | rfl | rfl | rfl | rfl
        · as_aux_lemma =>
            obtain ⟨E, hE⟩ : ∃ E, E = writeE s za l := ⟨_, rfl⟩
            obtain ⟨S', hS'⟩ : ∃ S', S' = writeS s za l := ⟨_, rfl⟩
            obtain ⟨T', hT'⟩ : ∃ T', T' = rwriteT t za l := ⟨_, rfl⟩
            have hsw := sim_write HSIM.out za l
            rw [← hE, ← hS', ← hT'] at hsw
            have HP : Hid (Calls Try.prog 10 #[.pointer (some ⟨g, 0, none⟩), .int .i64 za, .slice x l.length cx] wr.drew fun e w' => e = .returned (.int .i64 (E : Int)) ∧ Duo w w' g S' r t) := by
              rw [hE, hS']; exact pwrite_duo HDU.out.drew (by omega) za HWA.out x cx l HX.out
            have HQ : Hid (∀ W, Duo w W g S' r t → Calls Try.prog 11 #[.pointer (some ⟨r, 0, none⟩), .int .i64 za, .slice x l.length cx] W fun e w' => e = .returned (.int .i64 (E : Int)) ∧ Duo w w' g S' r T') := fun W hW => by
              have h := rwrite_duo hW (by have := HSIM.out.n; omega) za x cx l HX.out
              rw [← hsw.1, ← hT'] at h; exact h
            have HSM : Hid (Sim S' T' ∧ S'.n ≤ k + 1) := ⟨hsw.2, by rw [hS']; have := write_n s za l; omega⟩
            clear hsw hE hS' hT'
            go_wp2
            refine wp_region_noPanic ?_
            refine wp_region_held (S := fun W => W.cell? ⟨ab, ao + k, none⟩ = some (.int .i64 za) ∧ W.cell? ⟨lb, lo + k, none⟩ = some (.slice x l.length cx)) (by kernel_rfl) ?_
            have hS := (show (fun W => W.cell? ⟨ab, ao + k, none⟩ = some (.int .i64 za) ∧ W.cell? ⟨lb, lo + k, none⟩ = some (.slice x l.length cx)) wr.drew from ⟨(HSK.out _ HDU.out.2.drew).1, (HSK.out _ HDU.out.2.drew).2.2⟩)
            refine any_take 0 ?vwan1 rfl (by kernel_rfl) (by kernel_rfl) (by kernel_rfl) (fun _ _ _ h => h) (by rfl) ?hwan1 hS ?_
            case hwan1 => (intro w hSw; (try dsimp only at hSw); go_split_ands; go_simp; (try with_reducible rfl))
            (try simp only [Act.put, List.setIfInBounds_toArray, List.set_cons_zero, List.set_cons_succ])
            refine any_take 1 ?vwan2 rfl (by kernel_rfl) (by kernel_rfl) (by kernel_rfl) (fun _ _ _ h => h) (by rfl) ?hwan2 hS ?_
            case hwan2 => (intro w hSw; (try dsimp only at hSw); go_split_ands; go_simp; (try with_reducible rfl))
            (try simp only [Act.put, List.setIfInBounds_toArray, List.set_cons_zero, List.set_cons_succ])
            refine any_take 2 ?vwan3 rfl (by kernel_rfl) (by kernel_rfl) (by kernel_rfl) (fun _ _ _ h => h) (by rfl) ?hwan3 hS ?_
            case hwan3 => (intro w hSw; (try dsimp only at hSw); go_split_ands; go_simp; (try with_reducible rfl))
            (try simp only [Act.put, List.setIfInBounds_toArray, List.set_cons_zero, List.set_cons_succ])
            refine any_take 3 ?vwan4 rfl (by kernel_rfl) (by kernel_rfl) (by kernel_rfl) (fun _ _ _ h => h) (by rfl) ?hwan4 hS ?_
            case hwan4 => (intro w hSw; (try dsimp only at hSw); go_split_ands; go_simp; (try with_reducible rfl))
            (try simp only [Act.put, List.setIfInBounds_toArray, List.set_cons_zero, List.set_cons_succ])
            refine any_take 4 ?vwan5 rfl (by kernel_rfl) (by kernel_rfl) (by kernel_rfl) (fun _ _ _ h => h) (by rfl) ?hwan5 hS ?_
            case hwan5 => (intro w hSw; (try dsimp only at hSw); go_split_ands; go_simp; (try with_reducible rfl))
            (try simp only [Act.put, List.setIfInBounds_toArray, List.set_cons_zero, List.set_cons_succ])
            refine any_take 5 ?vwan6 rfl (by kernel_rfl) (by kernel_rfl) (by kernel_rfl) (fun _ _ _ h => h) (by rfl) ?hwan6 hS ?_
            case hwan6 => (intro w hSw; (try dsimp only at hSw); go_split_ands; go_simp; (try with_reducible rfl))
            (try simp only [Act.put, List.setIfInBounds_toArray, List.set_cons_zero, List.set_cons_succ])
            refine any_take 6 ?vwan7 rfl (by kernel_rfl) (by kernel_rfl) (by kernel_rfl) (fun _ _ _ h => h) (by rfl) ?hwan7 hS ?_
            case hwan7 => (intro w hSw; (try dsimp only at hSw); go_split_ands; go_simp; (try with_reducible rfl))
            (try simp only [Act.put, List.setIfInBounds_toArray, List.set_cons_zero, List.set_cons_succ])
            refine any_take 7 ?vwan8 rfl (by kernel_rfl) (by kernel_rfl) (by kernel_rfl) (fun _ _ _ h => h) (by rfl) ?hwan8 hS ?_
            case hwan8 => (intro w hSw; (try dsimp only at hSw); go_split_ands; go_simp; (try with_reducible rfl))
            (try simp only [Act.put, List.setIfInBounds_toArray, List.set_cons_zero, List.set_cons_succ])
            refine any_take 8 ?vwan9 rfl (by kernel_rfl) (by kernel_rfl) (by kernel_rfl) (fun _ _ _ h => h) (by rfl) ?hwan9 hS ?_
            case hwan9 => (intro w hSw; (try dsimp only at hSw); go_split_ands; go_simp; (try with_reducible rfl))
            (try simp only [Act.put, List.setIfInBounds_toArray, List.set_cons_zero, List.set_cons_succ])
            refine any_take 10 ?vwan10 rfl (by kernel_rfl) (by kernel_rfl) (by kernel_rfl) (fun _ _ _ h => h) (by rfl) ?hwan10 hS ?_
            case hwan10 => (intro w hSw; (try dsimp only at hSw); go_split_ands; go_simp; (try with_reducible rfl))
            (try simp only [Act.put, List.setIfInBounds_toArray, List.set_cons_zero, List.set_cons_succ])
            refine any_take 11 ?vwan11 rfl (by kernel_rfl) (by kernel_rfl) (by kernel_rfl) (fun _ _ _ h => h) (by rfl) ?hwan11 hS ?_
            case hwan11 => (intro w hSw; (try dsimp only at hSw); go_split_ands; go_simp; (try with_reducible rfl))
            (try simp only [Act.put, List.setIfInBounds_toArray, List.set_cons_zero, List.set_cons_succ])
            refine any_take 12 ?vwan12 rfl (by kernel_rfl) (by kernel_rfl) (by kernel_rfl) (fun _ _ _ h => h) (by rfl) ?hwan12 hS ?_
            case hwan12 => (intro w hSw; (try dsimp only at hSw); go_split_ands; go_simp; (try with_reducible rfl))
            (try simp only [Act.put, List.setIfInBounds_toArray, List.set_cons_zero, List.set_cons_succ])
            refine any_take 13 ?vwan13 rfl (by kernel_rfl) (by kernel_rfl) (by kernel_rfl) (fun _ _ _ h => h) (by rfl) ?hwan13 hS ?_
            case hwan13 => (intro w hSw; (try dsimp only at hSw); go_split_ands; go_simp; (try with_reducible rfl))
            (try simp only [Act.put, List.setIfInBounds_toArray, List.set_cons_zero, List.set_cons_succ])
            refine any_take 14 ?vwan14 rfl (by kernel_rfl) (by kernel_rfl) (by kernel_rfl) (fun _ _ _ h => h) (by rfl) ?hwan14 hS ?_
            case hwan14 => (intro w hSw; (try dsimp only at hSw); go_split_ands; go_simp; (try with_reducible rfl))
            (try simp only [Act.put, List.setIfInBounds_toArray, List.set_cons_zero, List.set_cons_succ])
            refine any_take 15 ?vwan15 rfl (by kernel_rfl) (by kernel_rfl) (by kernel_rfl) (fun _ _ _ h => h) (by rfl) ?hwan15 hS ?_
            case hwan15 => (intro w hSw; (try dsimp only at hSw); go_split_ands; go_simp; (try with_reducible rfl))
            (try simp only [Act.put, List.setIfInBounds_toArray, List.set_cons_zero, List.set_cons_succ])
            refine any_take 16 ?vwan16 rfl (by kernel_rfl) (by kernel_rfl) (by kernel_rfl) (fun _ _ _ h => h) (by rfl) ?hwan16 hS ?_
            case hwan16 => (intro w hSw; (try dsimp only at hSw); go_split_ands; go_simp; (try with_reducible rfl))
            (try simp only [Act.put, List.setIfInBounds_toArray, List.set_cons_zero, List.set_cons_succ])
            refine any_take 17 ?vwan17 rfl (by kernel_rfl) (by kernel_rfl) (by kernel_rfl) (fun _ _ _ h => h) (by rfl) ?hwan17 hS ?_
            case hwan17 => (intro w hSw; (try dsimp only at hSw); go_split_ands; go_simp; (try with_reducible rfl))
            (try simp only [Act.put, List.setIfInBounds_toArray, List.set_cons_zero, List.set_cons_succ])
            refine any_take 18 ?vwan18 rfl (by kernel_rfl) (by kernel_rfl) (by kernel_rfl) (fun _ _ _ h => h) (by rfl) ?hwan18 hS ?_
            case hwan18 => (intro w hSw; (try dsimp only at hSw); go_split_ands; go_simp; (try with_reducible rfl))
            (try simp only [Act.put, List.setIfInBounds_toArray, List.set_cons_zero, List.set_cons_succ])
            refine any_one 9 rfl (by kernel_rfl) (by rfl) (fun K hK => ?_)
            clear hS
            go_simp
            refine HP.out.mono ?_
            rintro e w3 ⟨rfl, hd3⟩
            clear HP
            refine hK.out _ _ (⟨(HSK.out _ hd3.2).1, (HSK.out _ hd3.2).2.2⟩) (fun hS => ?_)
            clear hK
            (try simp only [Act.put, List.setIfInBounds_toArray, List.set_cons_zero, List.set_cons_succ])
            refine any_one 19 rfl (by kernel_rfl) (by rfl) (fun K hK => ?_)
            clear hS
            go_simp
            refine (HQ.out _ hd3).mono ?_
            rintro e w4 ⟨rfl, hd4⟩
            clear HQ
            refine hK.out _ _ (⟨(HSK.out _ hd4.2).1, (HSK.out _ hd4.2).2.2⟩) (fun hS => ?_)
            clear hK
            (try simp only [Act.put, List.setIfInBounds_toArray, List.set_cons_zero, List.set_cons_succ])
            refine any_take 20 ?vwan19 rfl (by kernel_rfl) (by kernel_rfl) (by kernel_rfl) (fun _ _ _ h => h) (by rfl) ?hwan19 hS ?_
            case hwan19 => (intro w hSw; (try dsimp only at hSw); go_split_ands; go_simp; (try with_reducible rfl))
            (try simp only [Act.put, List.setIfInBounds_toArray, List.set_cons_zero, List.set_cons_succ])
            refine wpAnyH_done (by kernel_rfl) ?_ _
            refine NoPanic.normal ?_
            go_wp2_with fail
            go_meet
            exact ⟨g, S', T', rfl, HSM.out.1, HSM.out.2, hd4⟩
        · as_aux_lemma =>
            obtain ⟨E, hE⟩ : ∃ E, E = writeE s za l := ⟨_, rfl⟩
            obtain ⟨S', hS'⟩ : ∃ S', S' = writeS s za l := ⟨_, rfl⟩
            obtain ⟨T', hT'⟩ : ∃ T', T' = rwriteT t za l := ⟨_, rfl⟩
            have hsw := sim_write HSIM.out za l
            rw [← hE, ← hS', ← hT'] at hsw
            have HP : Hid (Calls Try.prog 10 #[.pointer (some ⟨g, 0, none⟩), .int .i64 za, .slice x l.length cx] wr.drew fun e w' => e = .returned (.int .i64 (E : Int)) ∧ Duo w w' g S' r t) := by
              rw [hE, hS']; exact pwrite_duo HDU.out.drew (by omega) za HWA.out x cx l HX.out
            have HQ : Hid (∀ W, Duo w W g S' r t → Calls Try.prog 11 #[.pointer (some ⟨r, 0, none⟩), .int .i64 za, .slice x l.length cx] W fun e w' => e = .returned (.int .i64 (E : Int)) ∧ Duo w w' g S' r T') := fun W hW => by
              have h := rwrite_duo hW (by have := HSIM.out.n; omega) za x cx l HX.out
              rw [← hsw.1, ← hT'] at h; exact h
            have HSM : Hid (Sim S' T' ∧ S'.n ≤ k + 1) := ⟨hsw.2, by rw [hS']; have := write_n s za l; omega⟩
            clear hsw hE hS' hT'
            go_wp2
            refine wp_region_noPanic ?_
            refine wp_region_held (S := fun W => W.cell? ⟨ab, ao + k, none⟩ = some (.int .i64 za) ∧ W.cell? ⟨lb, lo + k, none⟩ = some (.slice x l.length cx)) (by kernel_rfl) ?_
            have hS := (show (fun W => W.cell? ⟨ab, ao + k, none⟩ = some (.int .i64 za) ∧ W.cell? ⟨lb, lo + k, none⟩ = some (.slice x l.length cx)) wr.drew from ⟨(HSK.out _ HDU.out.2.drew).1, (HSK.out _ HDU.out.2.drew).2.2⟩)
            refine any_take 0 ?vwbn1 rfl (by kernel_rfl) (by kernel_rfl) (by kernel_rfl) (fun _ _ _ h => h) (by rfl) ?hwbn1 hS ?_
            case hwbn1 => (intro w hSw; (try dsimp only at hSw); go_split_ands; go_simp; (try with_reducible rfl))
            (try simp only [Act.put, List.setIfInBounds_toArray, List.set_cons_zero, List.set_cons_succ])
            refine any_take 1 ?vwbn2 rfl (by kernel_rfl) (by kernel_rfl) (by kernel_rfl) (fun _ _ _ h => h) (by rfl) ?hwbn2 hS ?_
            case hwbn2 => (intro w hSw; (try dsimp only at hSw); go_split_ands; go_simp; (try with_reducible rfl))
            (try simp only [Act.put, List.setIfInBounds_toArray, List.set_cons_zero, List.set_cons_succ])
            refine any_take 2 ?vwbn3 rfl (by kernel_rfl) (by kernel_rfl) (by kernel_rfl) (fun _ _ _ h => h) (by rfl) ?hwbn3 hS ?_
            case hwbn3 => (intro w hSw; (try dsimp only at hSw); go_split_ands; go_simp; (try with_reducible rfl))
            (try simp only [Act.put, List.setIfInBounds_toArray, List.set_cons_zero, List.set_cons_succ])
            refine any_take 3 ?vwbn4 rfl (by kernel_rfl) (by kernel_rfl) (by kernel_rfl) (fun _ _ _ h => h) (by rfl) ?hwbn4 hS ?_
            case hwbn4 => (intro w hSw; (try dsimp only at hSw); go_split_ands; go_simp; (try with_reducible rfl))
            (try simp only [Act.put, List.setIfInBounds_toArray, List.set_cons_zero, List.set_cons_succ])
            refine any_take 4 ?vwbn5 rfl (by kernel_rfl) (by kernel_rfl) (by kernel_rfl) (fun _ _ _ h => h) (by rfl) ?hwbn5 hS ?_
            case hwbn5 => (intro w hSw; (try dsimp only at hSw); go_split_ands; go_simp; (try with_reducible rfl))
            (try simp only [Act.put, List.setIfInBounds_toArray, List.set_cons_zero, List.set_cons_succ])
            refine any_take 5 ?vwbn6 rfl (by kernel_rfl) (by kernel_rfl) (by kernel_rfl) (fun _ _ _ h => h) (by rfl) ?hwbn6 hS ?_
            case hwbn6 => (intro w hSw; (try dsimp only at hSw); go_split_ands; go_simp; (try with_reducible rfl))
            (try simp only [Act.put, List.setIfInBounds_toArray, List.set_cons_zero, List.set_cons_succ])
            refine any_take 6 ?vwbn7 rfl (by kernel_rfl) (by kernel_rfl) (by kernel_rfl) (fun _ _ _ h => h) (by rfl) ?hwbn7 hS ?_
            case hwbn7 => (intro w hSw; (try dsimp only at hSw); go_split_ands; go_simp; (try with_reducible rfl))
            (try simp only [Act.put, List.setIfInBounds_toArray, List.set_cons_zero, List.set_cons_succ])
            refine any_take 7 ?vwbn8 rfl (by kernel_rfl) (by kernel_rfl) (by kernel_rfl) (fun _ _ _ h => h) (by rfl) ?hwbn8 hS ?_
            case hwbn8 => (intro w hSw; (try dsimp only at hSw); go_split_ands; go_simp; (try with_reducible rfl))
            (try simp only [Act.put, List.setIfInBounds_toArray, List.set_cons_zero, List.set_cons_succ])
            refine any_take 8 ?vwbn9 rfl (by kernel_rfl) (by kernel_rfl) (by kernel_rfl) (fun _ _ _ h => h) (by rfl) ?hwbn9 hS ?_
            case hwbn9 => (intro w hSw; (try dsimp only at hSw); go_split_ands; go_simp; (try with_reducible rfl))
            (try simp only [Act.put, List.setIfInBounds_toArray, List.set_cons_zero, List.set_cons_succ])
            refine any_take 10 ?vwbn10 rfl (by kernel_rfl) (by kernel_rfl) (by kernel_rfl) (fun _ _ _ h => h) (by rfl) ?hwbn10 hS ?_
            case hwbn10 => (intro w hSw; (try dsimp only at hSw); go_split_ands; go_simp; (try with_reducible rfl))
            (try simp only [Act.put, List.setIfInBounds_toArray, List.set_cons_zero, List.set_cons_succ])
            refine any_take 11 ?vwbn11 rfl (by kernel_rfl) (by kernel_rfl) (by kernel_rfl) (fun _ _ _ h => h) (by rfl) ?hwbn11 hS ?_
            case hwbn11 => (intro w hSw; (try dsimp only at hSw); go_split_ands; go_simp; (try with_reducible rfl))
            (try simp only [Act.put, List.setIfInBounds_toArray, List.set_cons_zero, List.set_cons_succ])
            refine any_take 12 ?vwbn12 rfl (by kernel_rfl) (by kernel_rfl) (by kernel_rfl) (fun _ _ _ h => h) (by rfl) ?hwbn12 hS ?_
            case hwbn12 => (intro w hSw; (try dsimp only at hSw); go_split_ands; go_simp; (try with_reducible rfl))
            (try simp only [Act.put, List.setIfInBounds_toArray, List.set_cons_zero, List.set_cons_succ])
            refine any_take 13 ?vwbn13 rfl (by kernel_rfl) (by kernel_rfl) (by kernel_rfl) (fun _ _ _ h => h) (by rfl) ?hwbn13 hS ?_
            case hwbn13 => (intro w hSw; (try dsimp only at hSw); go_split_ands; go_simp; (try with_reducible rfl))
            (try simp only [Act.put, List.setIfInBounds_toArray, List.set_cons_zero, List.set_cons_succ])
            refine any_take 14 ?vwbn14 rfl (by kernel_rfl) (by kernel_rfl) (by kernel_rfl) (fun _ _ _ h => h) (by rfl) ?hwbn14 hS ?_
            case hwbn14 => (intro w hSw; (try dsimp only at hSw); go_split_ands; go_simp; (try with_reducible rfl))
            (try simp only [Act.put, List.setIfInBounds_toArray, List.set_cons_zero, List.set_cons_succ])
            refine any_take 15 ?vwbn15 rfl (by kernel_rfl) (by kernel_rfl) (by kernel_rfl) (fun _ _ _ h => h) (by rfl) ?hwbn15 hS ?_
            case hwbn15 => (intro w hSw; (try dsimp only at hSw); go_split_ands; go_simp; (try with_reducible rfl))
            (try simp only [Act.put, List.setIfInBounds_toArray, List.set_cons_zero, List.set_cons_succ])
            refine any_take 16 ?vwbn16 rfl (by kernel_rfl) (by kernel_rfl) (by kernel_rfl) (fun _ _ _ h => h) (by rfl) ?hwbn16 hS ?_
            case hwbn16 => (intro w hSw; (try dsimp only at hSw); go_split_ands; go_simp; (try with_reducible rfl))
            (try simp only [Act.put, List.setIfInBounds_toArray, List.set_cons_zero, List.set_cons_succ])
            refine any_take 17 ?vwbn17 rfl (by kernel_rfl) (by kernel_rfl) (by kernel_rfl) (fun _ _ _ h => h) (by rfl) ?hwbn17 hS ?_
            case hwbn17 => (intro w hSw; (try dsimp only at hSw); go_split_ands; go_simp; (try with_reducible rfl))
            (try simp only [Act.put, List.setIfInBounds_toArray, List.set_cons_zero, List.set_cons_succ])
            refine any_take 18 ?vwbn18 rfl (by kernel_rfl) (by kernel_rfl) (by kernel_rfl) (fun _ _ _ h => h) (by rfl) ?hwbn18 hS ?_
            case hwbn18 => (intro w hSw; (try dsimp only at hSw); go_split_ands; go_simp; (try with_reducible rfl))
            (try simp only [Act.put, List.setIfInBounds_toArray, List.set_cons_zero, List.set_cons_succ])
            refine any_one 9 rfl (by kernel_rfl) (by rfl) (fun K hK => ?_)
            clear hS
            go_simp
            refine HP.out.mono ?_
            rintro e w3 ⟨rfl, hd3⟩
            clear HP
            refine hK.out _ _ (⟨(HSK.out _ hd3.2).1, (HSK.out _ hd3.2).2.2⟩) (fun hS => ?_)
            clear hK
            (try simp only [Act.put, List.setIfInBounds_toArray, List.set_cons_zero, List.set_cons_succ])
            refine any_one 19 rfl (by kernel_rfl) (by rfl) (fun K hK => ?_)
            clear hS
            go_simp
            refine (HQ.out _ hd3).mono ?_
            rintro e w4 ⟨rfl, hd4⟩
            clear HQ
            refine hK.out _ _ (⟨(HSK.out _ hd4.2).1, (HSK.out _ hd4.2).2.2⟩) (fun hS => ?_)
            clear hK
            (try simp only [Act.put, List.setIfInBounds_toArray, List.set_cons_zero, List.set_cons_succ])
            refine any_take 20 ?vwbn19 rfl (by kernel_rfl) (by kernel_rfl) (by kernel_rfl) (fun _ _ _ h => h) (by rfl) ?hwbn19 hS ?_
            case hwbn19 => (intro w hSw; (try dsimp only at hSw); go_split_ands; go_simp; (try with_reducible rfl))
            (try simp only [Act.put, List.setIfInBounds_toArray, List.set_cons_zero, List.set_cons_succ])
            refine wpAnyH_done (by kernel_rfl) ?_ _
            refine NoPanic.normal ?_
            go_wp2_with fail
            go_meet
            exact ⟨g, S', T', rfl, HSM.out.1, HSM.out.2, hd4⟩
        · as_aux_lemma =>
            have HP : Hid (Calls Try.prog 12 #[.pointer (some ⟨g, 0, none⟩), .int .i64 za, .int .i64 zb] wr.drew fun e w' => (∃ v, e = .returned v) ∧ Duo w w' g (tearS s za zb) r t) := ptear_duo HDU.out.drew za zb HWA.out HWB.out
            have HQ : Hid (∀ W, Duo w W g (tearS s za zb) r t → Calls Try.prog 13 #[.pointer (some ⟨r, 0, none⟩), .int .i64 za, .int .i64 zb] W fun e w' => (∃ v, e = .returned v) ∧ Duo w w' g (tearS s za zb) r (rtearT t za zb)) := fun W hW => rtear_duo hW za zb HWA.out HWB.out
            have HSM : Hid (Sim (tearS s za zb) (rtearT t za zb) ∧ (tearS s za zb).n ≤ k + 1) := ⟨HSIM.out.torn za zb, by rw [tear_n]; omega⟩
            go_wp2
            refine wp_region_noPanic ?_
            refine wp_region_held (S := fun W => W.cell? ⟨ab, ao + k, none⟩ = some (.int .i64 za) ∧ W.cell? ⟨bb, bo + k, none⟩ = some (.int .i64 zb)) (by kernel_rfl) ?_
            have hS := (show (fun W => W.cell? ⟨ab, ao + k, none⟩ = some (.int .i64 za) ∧ W.cell? ⟨bb, bo + k, none⟩ = some (.int .i64 zb)) wr.drew from ⟨(HSK.out _ HDU.out.2.drew).1, (HSK.out _ HDU.out.2.drew).2.1⟩)
            refine any_take 0 ?vtan1 rfl (by kernel_rfl) (by kernel_rfl) (by kernel_rfl) (fun _ _ _ h => h) (by rfl) ?htan1 hS ?_
            case htan1 => (intro w hSw; (try dsimp only at hSw); go_split_ands; go_simp; (try with_reducible rfl))
            (try simp only [Act.put, List.setIfInBounds_toArray, List.set_cons_zero, List.set_cons_succ])
            refine any_take 1 ?vtan2 rfl (by kernel_rfl) (by kernel_rfl) (by kernel_rfl) (fun _ _ _ h => h) (by rfl) ?htan2 hS ?_
            case htan2 => (intro w hSw; (try dsimp only at hSw); go_split_ands; go_simp; (try with_reducible rfl))
            (try simp only [Act.put, List.setIfInBounds_toArray, List.set_cons_zero, List.set_cons_succ])
            refine any_take 2 ?vtan3 rfl (by kernel_rfl) (by kernel_rfl) (by kernel_rfl) (fun _ _ _ h => h) (by rfl) ?htan3 hS ?_
            case htan3 => (intro w hSw; (try dsimp only at hSw); go_split_ands; go_simp; (try with_reducible rfl))
            (try simp only [Act.put, List.setIfInBounds_toArray, List.set_cons_zero, List.set_cons_succ])
            refine any_take 3 ?vtan4 rfl (by kernel_rfl) (by kernel_rfl) (by kernel_rfl) (fun _ _ _ h => h) (by rfl) ?htan4 hS ?_
            case htan4 => (intro w hSw; (try dsimp only at hSw); go_split_ands; go_simp; (try with_reducible rfl))
            (try simp only [Act.put, List.setIfInBounds_toArray, List.set_cons_zero, List.set_cons_succ])
            refine any_take 4 ?vtan5 rfl (by kernel_rfl) (by kernel_rfl) (by kernel_rfl) (fun _ _ _ h => h) (by rfl) ?htan5 hS ?_
            case htan5 => (intro w hSw; (try dsimp only at hSw); go_split_ands; go_simp; (try with_reducible rfl))
            (try simp only [Act.put, List.setIfInBounds_toArray, List.set_cons_zero, List.set_cons_succ])
            refine any_take 5 ?vtan6 rfl (by kernel_rfl) (by kernel_rfl) (by kernel_rfl) (fun _ _ _ h => h) (by rfl) ?htan6 hS ?_
            case htan6 => (intro w hSw; (try dsimp only at hSw); go_split_ands; go_simp; (try with_reducible rfl))
            (try simp only [Act.put, List.setIfInBounds_toArray, List.set_cons_zero, List.set_cons_succ])
            refine any_take 6 ?vtan7 rfl (by kernel_rfl) (by kernel_rfl) (by kernel_rfl) (fun _ _ _ h => h) (by rfl) ?htan7 hS ?_
            case htan7 => (intro w hSw; (try dsimp only at hSw); go_split_ands; go_simp; (try with_reducible rfl))
            (try simp only [Act.put, List.setIfInBounds_toArray, List.set_cons_zero, List.set_cons_succ])
            refine any_take 7 ?vtan8 rfl (by kernel_rfl) (by kernel_rfl) (by kernel_rfl) (fun _ _ _ h => h) (by rfl) ?htan8 hS ?_
            case htan8 => (intro w hSw; (try dsimp only at hSw); go_split_ands; go_simp; (try with_reducible rfl))
            (try simp only [Act.put, List.setIfInBounds_toArray, List.set_cons_zero, List.set_cons_succ])
            refine any_take 8 ?vtan9 rfl (by kernel_rfl) (by kernel_rfl) (by kernel_rfl) (fun _ _ _ h => h) (by rfl) ?htan9 hS ?_
            case htan9 => (intro w hSw; (try dsimp only at hSw); go_split_ands; go_simp; (try with_reducible rfl))
            (try simp only [Act.put, List.setIfInBounds_toArray, List.set_cons_zero, List.set_cons_succ])
            refine any_one 9 rfl (by kernel_rfl) (by rfl) (fun K hK => ?_)
            clear hS
            go_simp
            refine HP.out.mono ?_
            rintro e w3 ⟨⟨v3, rfl⟩, hd3⟩
            clear HP
            refine hK.out _ _ (⟨(HSK.out _ hd3.2).1, (HSK.out _ hd3.2).2.1⟩) (fun hS => ?_)
            clear hK
            (try simp only [Act.put, List.setIfInBounds_toArray, List.set_cons_zero, List.set_cons_succ])
            refine wpAnyH_done (by kernel_rfl) ?_ _
            refine NoPanic.normal ?_
            clear hS
            go_wp2
            refine wp_region_noPanic ?_
            refine wp_region_held (S := fun W => W.cell? ⟨ab, ao + k, none⟩ = some (.int .i64 za) ∧ W.cell? ⟨bb, bo + k, none⟩ = some (.int .i64 zb)) (by kernel_rfl) ?_
            have hS := (show (fun W => W.cell? ⟨ab, ao + k, none⟩ = some (.int .i64 za) ∧ W.cell? ⟨bb, bo + k, none⟩ = some (.int .i64 zb)) w3.drew from ⟨(HSK.out _ hd3.2.drew).1, (HSK.out _ hd3.2.drew).2.1⟩)
            refine any_take 0 ?vtbn1 rfl (by kernel_rfl) (by kernel_rfl) (by kernel_rfl) (fun _ _ _ h => h) (by rfl) ?htbn1 hS ?_
            case htbn1 => (intro w hSw; (try dsimp only at hSw); go_split_ands; go_simp; (try with_reducible rfl))
            (try simp only [Act.put, List.setIfInBounds_toArray, List.set_cons_zero, List.set_cons_succ])
            refine any_take 1 ?vtbn2 rfl (by kernel_rfl) (by kernel_rfl) (by kernel_rfl) (fun _ _ _ h => h) (by rfl) ?htbn2 hS ?_
            case htbn2 => (intro w hSw; (try dsimp only at hSw); go_split_ands; go_simp; (try with_reducible rfl))
            (try simp only [Act.put, List.setIfInBounds_toArray, List.set_cons_zero, List.set_cons_succ])
            refine any_take 2 ?vtbn3 rfl (by kernel_rfl) (by kernel_rfl) (by kernel_rfl) (fun _ _ _ h => h) (by rfl) ?htbn3 hS ?_
            case htbn3 => (intro w hSw; (try dsimp only at hSw); go_split_ands; go_simp; (try with_reducible rfl))
            (try simp only [Act.put, List.setIfInBounds_toArray, List.set_cons_zero, List.set_cons_succ])
            refine any_take 3 ?vtbn4 rfl (by kernel_rfl) (by kernel_rfl) (by kernel_rfl) (fun _ _ _ h => h) (by rfl) ?htbn4 hS ?_
            case htbn4 => (intro w hSw; (try dsimp only at hSw); go_split_ands; go_simp; (try with_reducible rfl))
            (try simp only [Act.put, List.setIfInBounds_toArray, List.set_cons_zero, List.set_cons_succ])
            refine any_take 4 ?vtbn5 rfl (by kernel_rfl) (by kernel_rfl) (by kernel_rfl) (fun _ _ _ h => h) (by rfl) ?htbn5 hS ?_
            case htbn5 => (intro w hSw; (try dsimp only at hSw); go_split_ands; go_simp; (try with_reducible rfl))
            (try simp only [Act.put, List.setIfInBounds_toArray, List.set_cons_zero, List.set_cons_succ])
            refine any_take 5 ?vtbn6 rfl (by kernel_rfl) (by kernel_rfl) (by kernel_rfl) (fun _ _ _ h => h) (by rfl) ?htbn6 hS ?_
            case htbn6 => (intro w hSw; (try dsimp only at hSw); go_split_ands; go_simp; (try with_reducible rfl))
            (try simp only [Act.put, List.setIfInBounds_toArray, List.set_cons_zero, List.set_cons_succ])
            refine any_take 6 ?vtbn7 rfl (by kernel_rfl) (by kernel_rfl) (by kernel_rfl) (fun _ _ _ h => h) (by rfl) ?htbn7 hS ?_
            case htbn7 => (intro w hSw; (try dsimp only at hSw); go_split_ands; go_simp; (try with_reducible rfl))
            (try simp only [Act.put, List.setIfInBounds_toArray, List.set_cons_zero, List.set_cons_succ])
            refine any_take 7 ?vtbn8 rfl (by kernel_rfl) (by kernel_rfl) (by kernel_rfl) (fun _ _ _ h => h) (by rfl) ?htbn8 hS ?_
            case htbn8 => (intro w hSw; (try dsimp only at hSw); go_split_ands; go_simp; (try with_reducible rfl))
            (try simp only [Act.put, List.setIfInBounds_toArray, List.set_cons_zero, List.set_cons_succ])
            refine any_take 8 ?vtbn9 rfl (by kernel_rfl) (by kernel_rfl) (by kernel_rfl) (fun _ _ _ h => h) (by rfl) ?htbn9 hS ?_
            case htbn9 => (intro w hSw; (try dsimp only at hSw); go_split_ands; go_simp; (try with_reducible rfl))
            (try simp only [Act.put, List.setIfInBounds_toArray, List.set_cons_zero, List.set_cons_succ])
            refine any_one 9 rfl (by kernel_rfl) (by rfl) (fun K hK => ?_)
            clear hS
            go_simp
            refine (HQ.out _ hd3.drew).mono ?_
            rintro e w4 ⟨⟨v4, rfl⟩, hd4⟩
            clear HQ
            refine hK.out _ _ (⟨(HSK.out _ hd4.2).1, (HSK.out _ hd4.2).2.1⟩) (fun hS => ?_)
            clear hK
            (try simp only [Act.put, List.setIfInBounds_toArray, List.set_cons_zero, List.set_cons_succ])
            refine wpAnyH_done (by kernel_rfl) ?_ _
            refine NoPanic.normal ?_
            go_wp2_with fail
            go_meet
            exact ⟨g, _, _, rfl, HSM.out.1, HSM.out.2, hd4⟩
        · as_aux_lemma =>
            have HP := pwake_duo HDU.out
            go_wp2_with fail
            refine HP.mono ?_
            rintro e w3 ⟨⟨v3, rfl⟩, hd3⟩
            clear HP
            have HQ := rwake_duo hd3
            clear hd3
            go_wp2_with fail
            refine HQ.mono ?_
            rintro e w4 ⟨⟨v4, rfl⟩, hd4⟩
            clear HQ
            have HD4 : Hid (Duo w w4 g (wakeS s) r (rwakeT t)) := hd4
            clear hd4
            go_wp2_with fail
            go_meet
            exact ⟨g, _, _, rfl, HSIM.out.wake, by rw [wake_n]; omega, HD4.out⟩
        · as_aux_lemma =>
            have HP := copy_duo HDU.out
            go_wp2_with fail
            refine HP.mono ?_
            rintro e w3 ⟨g3, rfl, hd3⟩
            clear HP
            have HD3 : Hid (Duo w w3 g3 s r t) := hd3
            clear hd3
            go_wp2_with fail
            go_meet
            exact ⟨g3, s, t, rfl, HSIM.out, by omega, HD3.out⟩
      case rest =>
        obtain ⟨g', s', t', rfl, hsim', hsn', hduo'⟩ := hcut
        have HDU' : Hid (Duo w wc g' s' r t') := hduo'
        have HSIM' : Hid (Sim s' t') := hsim'
        obtain ⟨R, hR⟩ : ∃ R, R = readL s' za zb := ⟨_, rfl⟩
        obtain ⟨E, hE⟩ : ∃ E, E = checkE s' za zb := ⟨_, rfl⟩
        have HP : Hid (Calls Try.prog 17 #[.pointer (some ⟨g', 0, none⟩), .int .i64 za, .int .i64 zb] wc.drew fun e w' => ∃ d cd, e = .returned (.tuple #[.slice d R.length cd, .int .i64 (E : Int)]) ∧ Sees w' d cd R ∧ Below wc.drew.heap.size wc.drew w') := pread_duo hduo'.drew za zb HWA.out R E hR hE
        have HQ : Hid (∀ W, Duo w W g' s' r t' → Calls Try.prog 18 #[.pointer (some ⟨r, 0, none⟩), .int .i64 za, .int .i64 zb] W fun e w' => ∃ d cd, e = .returned (.tuple #[.slice d R.length cd, .int .i64 (E : Int)]) ∧ Sees w' d cd R ∧ Below W.heap.size W w') := fun W hW => rread_duo hW za zb R E (by rw [hR, hsim'.read]) (by rw [hE, hsim'.chk])
        clear hduo' hsim' hR hE HDU HSIM
        go_wp2
        refine wp_region_noPanic ?_
        refine wp_region_held (S := fun W => W.cell? ⟨ab, ao + k, none⟩ = some (.int .i64 za) ∧ W.cell? ⟨bb, bo + k, none⟩ = some (.int .i64 zb)) (by kernel_rfl) ?_
        have hS := (show (fun W => W.cell? ⟨ab, ao + k, none⟩ = some (.int .i64 za) ∧ W.cell? ⟨bb, bo + k, none⟩ = some (.int .i64 zb)) wc.drew from ⟨(HSK.out _ HDU'.out.2.drew).1, (HSK.out _ HDU'.out.2.drew).2.1⟩)
        refine any_take 0 ?vran1 rfl (by kernel_rfl) (by kernel_rfl) (by kernel_rfl) (fun _ _ _ h => h) (by rfl) ?hran1 hS ?_
        case hran1 => (intro w hSw; (try dsimp only at hSw); go_split_ands; go_simp; (try with_reducible rfl))
        (try simp only [Act.put, List.setIfInBounds_toArray, List.set_cons_zero, List.set_cons_succ])
        refine any_take 1 ?vran2 rfl (by kernel_rfl) (by kernel_rfl) (by kernel_rfl) (fun _ _ _ h => h) (by rfl) ?hran2 hS ?_
        case hran2 => (intro w hSw; (try dsimp only at hSw); go_split_ands; go_simp; (try with_reducible rfl))
        (try simp only [Act.put, List.setIfInBounds_toArray, List.set_cons_zero, List.set_cons_succ])
        refine any_take 2 ?vran3 rfl (by kernel_rfl) (by kernel_rfl) (by kernel_rfl) (fun _ _ _ h => h) (by rfl) ?hran3 hS ?_
        case hran3 => (intro w hSw; (try dsimp only at hSw); go_split_ands; go_simp; (try with_reducible rfl))
        (try simp only [Act.put, List.setIfInBounds_toArray, List.set_cons_zero, List.set_cons_succ])
        refine any_take 3 ?vran4 rfl (by kernel_rfl) (by kernel_rfl) (by kernel_rfl) (fun _ _ _ h => h) (by rfl) ?hran4 hS ?_
        case hran4 => (intro w hSw; (try dsimp only at hSw); go_split_ands; go_simp; (try with_reducible rfl))
        (try simp only [Act.put, List.setIfInBounds_toArray, List.set_cons_zero, List.set_cons_succ])
        refine any_take 4 ?vran5 rfl (by kernel_rfl) (by kernel_rfl) (by kernel_rfl) (fun _ _ _ h => h) (by rfl) ?hran5 hS ?_
        case hran5 => (intro w hSw; (try dsimp only at hSw); go_split_ands; go_simp; (try with_reducible rfl))
        (try simp only [Act.put, List.setIfInBounds_toArray, List.set_cons_zero, List.set_cons_succ])
        refine any_take 5 ?vran6 rfl (by kernel_rfl) (by kernel_rfl) (by kernel_rfl) (fun _ _ _ h => h) (by rfl) ?hran6 hS ?_
        case hran6 => (intro w hSw; (try dsimp only at hSw); go_split_ands; go_simp; (try with_reducible rfl))
        (try simp only [Act.put, List.setIfInBounds_toArray, List.set_cons_zero, List.set_cons_succ])
        refine any_take 6 ?vran7 rfl (by kernel_rfl) (by kernel_rfl) (by kernel_rfl) (fun _ _ _ h => h) (by rfl) ?hran7 hS ?_
        case hran7 => (intro w hSw; (try dsimp only at hSw); go_split_ands; go_simp; (try with_reducible rfl))
        (try simp only [Act.put, List.setIfInBounds_toArray, List.set_cons_zero, List.set_cons_succ])
        refine any_take 7 ?vran8 rfl (by kernel_rfl) (by kernel_rfl) (by kernel_rfl) (fun _ _ _ h => h) (by rfl) ?hran8 hS ?_
        case hran8 => (intro w hSw; (try dsimp only at hSw); go_split_ands; go_simp; (try with_reducible rfl))
        (try simp only [Act.put, List.setIfInBounds_toArray, List.set_cons_zero, List.set_cons_succ])
        refine any_take 8 ?vran9 rfl (by kernel_rfl) (by kernel_rfl) (by kernel_rfl) (fun _ _ _ h => h) (by rfl) ?hran9 hS ?_
        case hran9 => (intro w hSw; (try dsimp only at hSw); go_split_ands; go_simp; (try with_reducible rfl))
        (try simp only [Act.put, List.setIfInBounds_toArray, List.set_cons_zero, List.set_cons_succ])
        refine any_one 9 rfl (by kernel_rfl) (by rfl) (fun K hK => ?_)
        clear hS
        go_simp
        refine HP.out.mono ?_
        rintro e w3 ⟨d1, cd1, rfl, hs1, hb3⟩
        have hd3 : Duo w w3 g' s' r t' := HDU'.out.drew.next hb3
        clear HP hb3
        refine hK.out _ _ (⟨(HSK.out _ hd3.2).1, (HSK.out _ hd3.2).2.1⟩) (fun hS => ?_)
        clear hK
        (try simp only [Act.put, List.setIfInBounds_toArray, List.set_cons_zero, List.set_cons_succ])
        refine any_take 10 ?vran10 rfl (by kernel_rfl) (by kernel_rfl) (by kernel_rfl) (fun _ _ _ h => h) (by rfl) ?hran10 hS ?_
        case hran10 => (intro w hSw; (try dsimp only at hSw); go_split_ands; go_simp; (try with_reducible rfl))
        (try simp only [Act.put, List.setIfInBounds_toArray, List.set_cons_zero, List.set_cons_succ])
        refine any_take 11 ?vran11 rfl (by kernel_rfl) (by kernel_rfl) (by kernel_rfl) (fun _ _ _ h => h) (by rfl) ?hran11 hS ?_
        case hran11 => (intro w hSw; (try dsimp only at hSw); go_split_ands; go_simp; (try with_reducible rfl))
        (try simp only [Act.put, List.setIfInBounds_toArray, List.set_cons_zero, List.set_cons_succ])
        refine any_take 12 ?vran12 rfl (by kernel_rfl) (by kernel_rfl) (by kernel_rfl) (fun _ _ _ h => h) (by rfl) ?hran12 hS ?_
        case hran12 => (intro w hSw; (try dsimp only at hSw); go_split_ands; go_simp; (try with_reducible rfl))
        (try simp only [Act.put, List.setIfInBounds_toArray, List.set_cons_zero, List.set_cons_succ])
        refine any_take 13 ?vran13 rfl (by kernel_rfl) (by kernel_rfl) (by kernel_rfl) (fun _ _ _ h => h) (by rfl) ?hran13 hS ?_
        case hran13 => (intro w hSw; (try dsimp only at hSw); go_split_ands; go_simp; (try with_reducible rfl))
        (try simp only [Act.put, List.setIfInBounds_toArray, List.set_cons_zero, List.set_cons_succ])
        refine any_take 14 ?vran14 rfl (by kernel_rfl) (by kernel_rfl) (by kernel_rfl) (fun _ _ _ h => h) (by rfl) ?hran14 hS ?_
        case hran14 => (intro w hSw; (try dsimp only at hSw); go_split_ands; go_simp; (try with_reducible rfl))
        (try simp only [Act.put, List.setIfInBounds_toArray, List.set_cons_zero, List.set_cons_succ])
        refine wpAnyH_done (by kernel_rfl) ?_ _
        refine NoPanic.normal ?_
        clear hS
        have H3' : Hid (Sees w3 d1 cd1 R ∧ Duo w w3 g' s' r t') := ⟨hs1, hd3⟩
        clear hs1 hd3
        go_wp2
        refine wp_region_noPanic ?_
        refine wp_region_held (S := fun W => W.cell? ⟨ab, ao + k, none⟩ = some (.int .i64 za) ∧ W.cell? ⟨bb, bo + k, none⟩ = some (.int .i64 zb)) (by kernel_rfl) ?_
        have hS := (show (fun W => W.cell? ⟨ab, ao + k, none⟩ = some (.int .i64 za) ∧ W.cell? ⟨bb, bo + k, none⟩ = some (.int .i64 zb)) w3.drew from ⟨(HSK.out _ H3'.out.2.2.drew).1, (HSK.out _ H3'.out.2.2.drew).2.1⟩)
        refine any_take 0 ?vrbn1 rfl (by kernel_rfl) (by kernel_rfl) (by kernel_rfl) (fun _ _ _ h => h) (by rfl) ?hrbn1 hS ?_
        case hrbn1 => (intro w hSw; (try dsimp only at hSw); go_split_ands; go_simp; (try with_reducible rfl))
        (try simp only [Act.put, List.setIfInBounds_toArray, List.set_cons_zero, List.set_cons_succ])
        refine any_take 1 ?vrbn2 rfl (by kernel_rfl) (by kernel_rfl) (by kernel_rfl) (fun _ _ _ h => h) (by rfl) ?hrbn2 hS ?_
        case hrbn2 => (intro w hSw; (try dsimp only at hSw); go_split_ands; go_simp; (try with_reducible rfl))
        (try simp only [Act.put, List.setIfInBounds_toArray, List.set_cons_zero, List.set_cons_succ])
        refine any_take 2 ?vrbn3 rfl (by kernel_rfl) (by kernel_rfl) (by kernel_rfl) (fun _ _ _ h => h) (by rfl) ?hrbn3 hS ?_
        case hrbn3 => (intro w hSw; (try dsimp only at hSw); go_split_ands; go_simp; (try with_reducible rfl))
        (try simp only [Act.put, List.setIfInBounds_toArray, List.set_cons_zero, List.set_cons_succ])
        refine any_take 3 ?vrbn4 rfl (by kernel_rfl) (by kernel_rfl) (by kernel_rfl) (fun _ _ _ h => h) (by rfl) ?hrbn4 hS ?_
        case hrbn4 => (intro w hSw; (try dsimp only at hSw); go_split_ands; go_simp; (try with_reducible rfl))
        (try simp only [Act.put, List.setIfInBounds_toArray, List.set_cons_zero, List.set_cons_succ])
        refine any_take 4 ?vrbn5 rfl (by kernel_rfl) (by kernel_rfl) (by kernel_rfl) (fun _ _ _ h => h) (by rfl) ?hrbn5 hS ?_
        case hrbn5 => (intro w hSw; (try dsimp only at hSw); go_split_ands; go_simp; (try with_reducible rfl))
        (try simp only [Act.put, List.setIfInBounds_toArray, List.set_cons_zero, List.set_cons_succ])
        refine any_take 5 ?vrbn6 rfl (by kernel_rfl) (by kernel_rfl) (by kernel_rfl) (fun _ _ _ h => h) (by rfl) ?hrbn6 hS ?_
        case hrbn6 => (intro w hSw; (try dsimp only at hSw); go_split_ands; go_simp; (try with_reducible rfl))
        (try simp only [Act.put, List.setIfInBounds_toArray, List.set_cons_zero, List.set_cons_succ])
        refine any_take 6 ?vrbn7 rfl (by kernel_rfl) (by kernel_rfl) (by kernel_rfl) (fun _ _ _ h => h) (by rfl) ?hrbn7 hS ?_
        case hrbn7 => (intro w hSw; (try dsimp only at hSw); go_split_ands; go_simp; (try with_reducible rfl))
        (try simp only [Act.put, List.setIfInBounds_toArray, List.set_cons_zero, List.set_cons_succ])
        refine any_take 7 ?vrbn8 rfl (by kernel_rfl) (by kernel_rfl) (by kernel_rfl) (fun _ _ _ h => h) (by rfl) ?hrbn8 hS ?_
        case hrbn8 => (intro w hSw; (try dsimp only at hSw); go_split_ands; go_simp; (try with_reducible rfl))
        (try simp only [Act.put, List.setIfInBounds_toArray, List.set_cons_zero, List.set_cons_succ])
        refine any_take 8 ?vrbn9 rfl (by kernel_rfl) (by kernel_rfl) (by kernel_rfl) (fun _ _ _ h => h) (by rfl) ?hrbn9 hS ?_
        case hrbn9 => (intro w hSw; (try dsimp only at hSw); go_split_ands; go_simp; (try with_reducible rfl))
        (try simp only [Act.put, List.setIfInBounds_toArray, List.set_cons_zero, List.set_cons_succ])
        refine any_one 9 rfl (by kernel_rfl) (by rfl) (fun K hK => ?_)
        clear hS
        go_simp
        refine (HQ.out _ H3'.out.2.drew).mono ?_
        rintro e w4 ⟨d2, cd2, rfl, hs2, hb4⟩
        have hd4 : Duo w w4 g' s' r t' := H3'.out.2.drew.next hb4
        clear HQ
        refine hK.out _ _ (⟨(HSK.out _ hd4.2).1, (HSK.out _ hd4.2).2.1⟩) (fun hS => ?_)
        clear hK
        (try simp only [Act.put, List.setIfInBounds_toArray, List.set_cons_zero, List.set_cons_succ])
        refine any_take 10 ?vrbn10 rfl (by kernel_rfl) (by kernel_rfl) (by kernel_rfl) (fun _ _ _ h => h) (by rfl) ?hrbn10 hS ?_
        case hrbn10 => (intro w hSw; (try dsimp only at hSw); go_split_ands; go_simp; (try with_reducible rfl))
        (try simp only [Act.put, List.setIfInBounds_toArray, List.set_cons_zero, List.set_cons_succ])
        refine any_take 11 ?vrbn11 rfl (by kernel_rfl) (by kernel_rfl) (by kernel_rfl) (fun _ _ _ h => h) (by rfl) ?hrbn11 hS ?_
        case hrbn11 => (intro w hSw; (try dsimp only at hSw); go_split_ands; go_simp; (try with_reducible rfl))
        (try simp only [Act.put, List.setIfInBounds_toArray, List.set_cons_zero, List.set_cons_succ])
        refine any_take 12 ?vrbn12 rfl (by kernel_rfl) (by kernel_rfl) (by kernel_rfl) (fun _ _ _ h => h) (by rfl) ?hrbn12 hS ?_
        case hrbn12 => (intro w hSw; (try dsimp only at hSw); go_split_ands; go_simp; (try with_reducible rfl))
        (try simp only [Act.put, List.setIfInBounds_toArray, List.set_cons_zero, List.set_cons_succ])
        refine any_take 13 ?vrbn13 rfl (by kernel_rfl) (by kernel_rfl) (by kernel_rfl) (fun _ _ _ h => h) (by rfl) ?hrbn13 hS ?_
        case hrbn13 => (intro w hSw; (try dsimp only at hSw); go_split_ands; go_simp; (try with_reducible rfl))
        (try simp only [Act.put, List.setIfInBounds_toArray, List.set_cons_zero, List.set_cons_succ])
        refine any_take 14 ?vrbn14 rfl (by kernel_rfl) (by kernel_rfl) (by kernel_rfl) (fun _ _ _ h => h) (by rfl) ?hrbn14 hS ?_
        case hrbn14 => (intro w hSw; (try dsimp only at hSw); go_split_ands; go_simp; (try with_reducible rfl))
        (try simp only [Act.put, List.setIfInBounds_toArray, List.set_cons_zero, List.set_cons_succ])
        refine wpAnyH_done (by kernel_rfl) ?_ _
        refine NoPanic.normal ?_
        clear hS
        have H4' : Hid (Sees w4 d1 cd1 R ∧ Sees w4 d2 cd2 R ∧ Duo w w4 g' s' r t') := ⟨(H3'.out.1.drewN 1).below hb4, hs2, hd4⟩
        have hln := len_duo hd4
        clear hs2 hd4 hb4 H3' HSK
        go_wp2_with fail
        refine hln.mono ?_
        rintro e w5 ⟨rfl, rfl⟩
        clear hln
        obtain ⟨R2, hR2⟩ : ∃ R2, R2 = readL s' 0 (s'.b.length : Int) := ⟨_, rfl⟩
        have HR2 : Hid (R2 = readL s' 0 (s'.b.length : Int)) := hR2
        have hrd := pread_duo H4'.out.2.2 0 (s'.b.length : Int) (by decide) R2 _ hR2 rfl
        clear hR2
        go_wp2_with fail
        refine hrd.mono ?_
        rintro e w6 ⟨d3, cd3, rfl, hs3, hb6⟩
        clear hrd
        have hd6 := H4'.out.2.2.next hb6
        obtain ⟨av, cv, r0, rs, r3, r4, rl⟩ := hd6.ref
        rw [← HSIM'.out.b] at r0 rs rl
        rw [← HSIM'.out.dead] at r3
        rw [← HSIM'.out.n] at r4
        have q1 := H4'.out.1.below hb6
        have q2 := H4'.out.2.1.below hb6
        have HDD : Hid (∀ W, Below w6.heap.size w6 W → Calls Try.prog 20 #[.pointer (some ⟨g', 0, none⟩)] W fun e w' => e = .returned (.bool s'.dead) ∧ w' = W) := fun W hW => dead_duo (hd6.next hW)
        have HNN : Hid (∀ W, Below w6.heap.size w6 W → Calls Try.prog 21 #[.pointer (some ⟨g', 0, none⟩)] W fun e w' => e = .returned (.int .i64 (s'.n : Int)) ∧ w' = W) := fun W hW => writes_duo (hd6.next hW)
        have HLN : Hid (∀ W, Below w6.heap.size w6 W → Calls Try.prog 19 #[.pointer (some ⟨g', 0, none⟩)] W fun e w' => e = .returned (.int .i64 (s'.b.length : Int)) ∧ w' = W) := fun W hW => len_duo (hd6.next hW)
        have H6 : Hid (Duo w w6.drew g' s' r t') := hd6.drew
        have HS6 : Hid (∀ W, Below w6.heap.size w6 W → Below w6.heap.size w6 W ∧ W.cell? ⟨r, 0, none⟩ = some (.slice av s'.b.length cv) ∧ W.cell? ⟨r, 3, none⟩ = some (.bool s'.dead) ∧ W.cell? ⟨r, 4, none⟩ = some (.int .i64 (s'.n : Int)) ∧ (Go.convert 22 9 (.slice d1 R.length cd1)).run Try.prog W = .ok (.string ⟨R.toArray⟩) W ∧ (Go.convert 22 9 (.slice d2 R.length cd2)).run Try.prog W = .ok (.string ⟨R.toArray⟩) W ∧ (Go.convert 22 9 (.slice d3 R2.length cd3)).run Try.prog W = .ok (.string ⟨R2.toArray⟩) W ∧ (Go.convert 22 9 (.slice av s'.b.length cv)).run Try.prog W = .ok (.string ⟨s'.b.toArray⟩) W) := fun W hW =>
          ⟨hW, by rw [hW.cell (p := ⟨r, 0, none⟩) (World.block_lt_of_cell? w6 _ r0)]; exact r0, by rw [hW.cell (p := ⟨r, 3, none⟩) (World.block_lt_of_cell? w6 _ r3)]; exact r3, by rw [hW.cell (p := ⟨r, 4, none⟩) (World.block_lt_of_cell? w6 _ r4)]; exact r4,
           (q1.below hW).convert (P := Try.prog) 22 5 9 Try.underlying22 Try.underlying5 Try.underlying9, (q2.below hW).convert (P := Try.prog) 22 5 9 Try.underlying22 Try.underlying5 Try.underlying9,
           (hs3.below hW).convert (P := Try.prog) 22 5 9 Try.underlying22 Try.underlying5 Try.underlying9, (rs.below hW).convert (P := Try.prog) 22 5 9 Try.underlying22 Try.underlying5 Try.underlying9⟩
        clear hs3 hb6 hd6 r0 rs r3 r4 q1 q2 H4' HDU'
        cases hD : s'.dead
        · as_aux_lemma =>
            rw [hD] at HDD
            rw [hD] at HS6
            have e2 : R2 = s'.b := by
              rw [HR2.out]; unfold readL
              have hz : checkE s' 0 (s'.b.length : Int) = 0 := by unfold checkE; rw [hD, if_neg (by simp), if_neg (by omega)]
              rw [if_neg (by simp [hz])]
              show (s'.b.drop 0).take s'.b.length = s'.b
              rw [List.drop_zero, List.take_length]
            subst e2
            clear hD HR2
            go_wp2
            refine wp_region_noPanic ?_
            refine wp_region_held (S := fun W => Below w6.heap.size w6 W ∧ W.cell? ⟨r, 0, none⟩ = some (.slice av s'.b.length cv) ∧ W.cell? ⟨r, 3, none⟩ = some (.bool false) ∧ W.cell? ⟨r, 4, none⟩ = some (.int .i64 (s'.n : Int)) ∧ (Go.convert 22 9 (.slice d1 R.length cd1)).run Try.prog W = .ok (.string ⟨R.toArray⟩) W ∧ (Go.convert 22 9 (.slice d2 R.length cd2)).run Try.prog W = .ok (.string ⟨R.toArray⟩) W ∧ (Go.convert 22 9 (.slice d3 s'.b.length cd3)).run Try.prog W = .ok (.string ⟨s'.b.toArray⟩) W ∧ (Go.convert 22 9 (.slice av s'.b.length cv)).run Try.prog W = .ok (.string ⟨s'.b.toArray⟩) W) (by kernel_rfl) ?_
            have hS := (show (fun W : World => Below w6.heap.size w6 W ∧ W.cell? ⟨r, 0, none⟩ = some (.slice av s'.b.length cv) ∧ W.cell? ⟨r, 3, none⟩ = some (.bool false) ∧ W.cell? ⟨r, 4, none⟩ = some (.int .i64 (s'.n : Int)) ∧ (Go.convert 22 9 (.slice d1 R.length cd1)).run Try.prog W = .ok (.string ⟨R.toArray⟩) W ∧ (Go.convert 22 9 (.slice d2 R.length cd2)).run Try.prog W = .ok (.string ⟨R.toArray⟩) W ∧ (Go.convert 22 9 (.slice d3 s'.b.length cd3)).run Try.prog W = .ok (.string ⟨s'.b.toArray⟩) W ∧ (Go.convert 22 9 (.slice av s'.b.length cv)).run Try.prog W = .ok (.string ⟨s'.b.toArray⟩) W) w6.drew from HS6.out _ (Below.refl _ _).drew)
            refine any_take 0 ?vrcn1 rfl (by kernel_rfl) (by kernel_rfl) (by kernel_rfl) (fun _ _ _ h => h) (by rfl) ?hrcn1 hS ?_
            case hrcn1 => (intro w hSw; (try dsimp only at hSw); go_split_ands; go_simp; (try with_reducible rfl))
            (try simp only [Act.put, List.setIfInBounds_toArray, List.set_cons_zero, List.set_cons_succ])
            refine any_take 1 ?vrcn2 rfl (by kernel_rfl) (by kernel_rfl) (by kernel_rfl) (fun _ _ _ h => h) (by rfl) ?hrcn2 hS ?_
            case hrcn2 => (intro w hSw; (try dsimp only at hSw); go_split_ands; go_simp; (try with_reducible rfl))
            (try simp only [Act.put, List.setIfInBounds_toArray, List.set_cons_zero, List.set_cons_succ])
            refine any_take 2 ?vrcn3 rfl (by kernel_rfl) (by kernel_rfl) (by kernel_rfl) (fun _ _ _ h => h) (by rfl) ?hrcn3 hS ?_
            case hrcn3 => (intro w hSw; (try dsimp only at hSw); go_split_ands; go_simp; (try with_reducible rfl))
            (try simp only [Act.put, List.setIfInBounds_toArray, List.set_cons_zero, List.set_cons_succ])
            refine any_take 3 ?vrcn4 rfl (by kernel_rfl) (by kernel_rfl) (by kernel_rfl) (fun _ _ _ h => h) (by rfl) ?hrcn4 hS ?_
            case hrcn4 => (intro w hSw; (try dsimp only at hSw); go_split_ands; go_simp; (try with_reducible rfl))
            (try simp only [Act.put, List.setIfInBounds_toArray, List.set_cons_zero, List.set_cons_succ])
            refine any_take 4 ?vrcn5 rfl (by kernel_rfl) (by kernel_rfl) (by kernel_rfl) (fun _ _ _ h => h) (by rfl) ?hrcn5 hS ?_
            case hrcn5 => (intro w hSw; (try dsimp only at hSw); go_split_ands; go_simp; (try with_reducible rfl))
            (try simp only [Act.put, List.setIfInBounds_toArray, List.set_cons_zero, List.set_cons_succ])
            refine any_take 5 ?vrcn6 rfl (by kernel_rfl) (by kernel_rfl) (by kernel_rfl) (fun _ _ _ h => h) (by rfl) ?hrcn6 hS ?_
            case hrcn6 => (intro w hSw; (try dsimp only at hSw); go_split_ands; go_simp; (try with_reducible rfl))
            (try simp only [Act.put, List.setIfInBounds_toArray, List.set_cons_zero, List.set_cons_succ])
            refine any_take 6 ?vrcn7 rfl (by kernel_rfl) (by kernel_rfl) (by kernel_rfl) (fun _ _ _ h => h) (by rfl) ?hrcn7 hS ?_
            case hrcn7 => (intro w hSw; (try dsimp only at hSw); go_split_ands; go_simp; (try with_reducible rfl))
            (try simp only [Act.put, List.setIfInBounds_toArray, List.set_cons_zero, List.set_cons_succ])
            refine any_take 7 ?vrcn8 rfl (by kernel_rfl) (by kernel_rfl) (by kernel_rfl) (fun _ _ _ h => h) (by rfl) ?hrcn8 hS ?_
            case hrcn8 => (intro w hSw; (try dsimp only at hSw); go_split_ands; go_simp; (try with_reducible rfl))
            (try simp only [Act.put, List.setIfInBounds_toArray, List.set_cons_zero, List.set_cons_succ])
            refine any_take 8 ?vrcn9 rfl (by kernel_rfl) (by kernel_rfl) (by kernel_rfl) (fun _ _ _ h => h) (by rfl) ?hrcn9 hS ?_
            case hrcn9 => (intro w hSw; (try dsimp only at hSw); go_split_ands; go_simp; (try with_reducible rfl))
            (try simp only [Act.put, List.setIfInBounds_toArray, List.set_cons_zero, List.set_cons_succ])
            refine any_take 9 ?vrcn10 rfl (by kernel_rfl) (by kernel_rfl) (by kernel_rfl) (fun _ _ _ h => h) (by rfl) ?hrcn10 hS ?_
            case hrcn10 => (intro w hSw; (try dsimp only at hSw); go_split_ands; go_simp; (try with_reducible rfl))
            (try simp only [Act.put, List.setIfInBounds_toArray, List.set_cons_zero, List.set_cons_succ])
            refine any_take 10 ?vrcn11 rfl (by kernel_rfl) (by kernel_rfl) (by kernel_rfl) (fun _ _ _ h => h) (by rfl) ?hrcn11 hS ?_
            case hrcn11 => (intro w hSw; (try dsimp only at hSw); go_split_ands; go_simp; (try with_reducible rfl))
            (try simp only [Act.put, List.setIfInBounds_toArray, List.set_cons_zero, List.set_cons_succ])
            refine any_take 11 ?vrcn12 rfl (by kernel_rfl) (by kernel_rfl) (by kernel_rfl) (fun _ _ _ h => h) (by rfl) ?hrcn12 hS ?_
            case hrcn12 => (intro w hSw; (try dsimp only at hSw); go_split_ands; go_simp; (try with_reducible rfl))
            (try simp only [Act.put, List.setIfInBounds_toArray, List.set_cons_zero, List.set_cons_succ])
            refine any_take 13 ?vrcn13 rfl (by kernel_rfl) (by kernel_rfl) (by kernel_rfl) (fun _ _ _ h => h) (by rfl) ?hrcn13 hS ?_
            case hrcn13 => (intro w hSw; (try dsimp only at hSw); go_split_ands; go_simp; (try with_reducible rfl))
            (try simp only [Act.put, List.setIfInBounds_toArray, List.set_cons_zero, List.set_cons_succ])
            refine any_take 14 ?vrcn14 rfl (by kernel_rfl) (by kernel_rfl) (by kernel_rfl) (fun _ _ _ h => h) (by rfl) ?hrcn14 hS ?_
            case hrcn14 => (intro w hSw; (try dsimp only at hSw); go_split_ands; go_simp; (try with_reducible rfl))
            (try simp only [Act.put, List.setIfInBounds_toArray, List.set_cons_zero, List.set_cons_succ])
            refine any_take 15 ?vrcn15 rfl (by kernel_rfl) (by kernel_rfl) (by kernel_rfl) (fun _ _ _ h => h) (by rfl) ?hrcn15 hS ?_
            case hrcn15 => (intro w hSw; (try dsimp only at hSw); go_split_ands; go_simp; (try with_reducible rfl))
            (try simp only [Act.put, List.setIfInBounds_toArray, List.set_cons_zero, List.set_cons_succ])
            refine any_take 16 ?vrcn16 rfl (by kernel_rfl) (by kernel_rfl) (by kernel_rfl) (fun _ _ _ h => h) (by rfl) ?hrcn16 hS ?_
            case hrcn16 => (intro w hSw; (try dsimp only at hSw); go_split_ands; go_simp; (try with_reducible rfl))
            (try simp only [Act.put, List.setIfInBounds_toArray, List.set_cons_zero, List.set_cons_succ])
            refine any_one 12 rfl (by kernel_rfl) (by rfl) (fun K hK => ?_)
            have hSS : (fun W : World => Below w6.heap.size w6 W ∧ W.cell? ⟨r, 0, none⟩ = some (.slice av s'.b.length cv) ∧ W.cell? ⟨r, 3, none⟩ = some (.bool false) ∧ W.cell? ⟨r, 4, none⟩ = some (.int .i64 (s'.n : Int)) ∧ (Go.convert 22 9 (.slice d1 R.length cd1)).run Try.prog W = .ok (.string ⟨R.toArray⟩) W ∧ (Go.convert 22 9 (.slice d2 R.length cd2)).run Try.prog W = .ok (.string ⟨R.toArray⟩) W ∧ (Go.convert 22 9 (.slice d3 s'.b.length cd3)).run Try.prog W = .ok (.string ⟨s'.b.toArray⟩) W ∧ (Go.convert 22 9 (.slice av s'.b.length cv)).run Try.prog W = .ok (.string ⟨s'.b.toArray⟩) W) _ := hS
            clear hS
            go_simp
            refine (HDD.out _ hSS.1).mono ?_
            rintro e w7 ⟨rfl, rfl⟩
            refine hK.out _ _ (hSS) (fun hS => ?_)
            clear hK
            (try simp only [Act.put, List.setIfInBounds_toArray, List.set_cons_zero, List.set_cons_succ])
            refine any_take 17 ?vrcn17 rfl (by kernel_rfl) (by kernel_rfl) (by kernel_rfl) (fun _ _ _ h => h) (by rfl) ?hrcn17 hS ?_
            case hrcn17 => (intro w hSw; (try dsimp only at hSw); go_split_ands; go_simp; (try with_reducible rfl))
            (try simp only [Act.put, List.setIfInBounds_toArray, List.set_cons_zero, List.set_cons_succ])
            refine any_take 18 ?vrcn18 rfl (by kernel_rfl) (by kernel_rfl) (by kernel_rfl) (fun _ _ _ h => h) (by rfl) ?hrcn18 hS ?_
            case hrcn18 => (intro w hSw; (try dsimp only at hSw); go_split_ands; go_simp; (try with_reducible rfl))
            (try simp only [Act.put, List.setIfInBounds_toArray, List.set_cons_zero, List.set_cons_succ])
            refine any_take 19 ?vrcn19 rfl (by kernel_rfl) (by kernel_rfl) (by kernel_rfl) (fun _ _ _ h => h) (by rfl) ?hrcn19 hS ?_
            case hrcn19 => (intro w hSw; (try dsimp only at hSw); go_split_ands; go_simp; (try with_reducible rfl))
            (try simp only [Act.put, List.setIfInBounds_toArray, List.set_cons_zero, List.set_cons_succ])
            refine any_take 20 ?vrcn20 rfl (by kernel_rfl) (by kernel_rfl) (by kernel_rfl) (fun _ _ _ h => h) (by rfl) ?hrcn20 hS ?_
            case hrcn20 => (intro w hSw; (try dsimp only at hSw); go_split_ands; go_simp; (try with_reducible rfl))
            (try simp only [Act.put, List.setIfInBounds_toArray, List.set_cons_zero, List.set_cons_succ])
            refine any_take 22 ?vrcn21 rfl (by kernel_rfl) (by kernel_rfl) (by kernel_rfl) (fun _ _ _ h => h) (by rfl) ?hrcn21 hS ?_
            case hrcn21 => (intro w hSw; (try dsimp only at hSw); go_split_ands; go_simp; (try with_reducible rfl))
            (try simp only [Act.put, List.setIfInBounds_toArray, List.set_cons_zero, List.set_cons_succ])
            refine any_take 23 ?vrcn22 rfl (by kernel_rfl) (by kernel_rfl) (by kernel_rfl) (fun _ _ _ h => h) (by rfl) ?hrcn22 hS ?_
            case hrcn22 => (intro w hSw; (try dsimp only at hSw); go_split_ands; go_simp; (try with_reducible rfl))
            (try simp only [Act.put, List.setIfInBounds_toArray, List.set_cons_zero, List.set_cons_succ])
            refine any_take 24 ?vrcn23 rfl (by kernel_rfl) (by kernel_rfl) (by kernel_rfl) (fun _ _ _ h => h) (by rfl) ?hrcn23 hS ?_
            case hrcn23 => (intro w hSw; (try dsimp only at hSw); go_split_ands; go_simp; (try with_reducible rfl))
            (try simp only [Act.put, List.setIfInBounds_toArray, List.set_cons_zero, List.set_cons_succ])
            refine any_take 25 ?vrcn24 rfl (by kernel_rfl) (by kernel_rfl) (by kernel_rfl) (fun _ _ _ h => h) (by rfl) ?hrcn24 hS ?_
            case hrcn24 => (intro w hSw; (try dsimp only at hSw); go_split_ands; go_simp; (try with_reducible rfl))
            (try simp only [Act.put, List.setIfInBounds_toArray, List.set_cons_zero, List.set_cons_succ])
            refine any_one 21 rfl (by kernel_rfl) (by rfl) (fun K hK => ?_)
            have hSS : (fun W : World => Below w6.heap.size w6 W ∧ W.cell? ⟨r, 0, none⟩ = some (.slice av s'.b.length cv) ∧ W.cell? ⟨r, 3, none⟩ = some (.bool false) ∧ W.cell? ⟨r, 4, none⟩ = some (.int .i64 (s'.n : Int)) ∧ (Go.convert 22 9 (.slice d1 R.length cd1)).run Try.prog W = .ok (.string ⟨R.toArray⟩) W ∧ (Go.convert 22 9 (.slice d2 R.length cd2)).run Try.prog W = .ok (.string ⟨R.toArray⟩) W ∧ (Go.convert 22 9 (.slice d3 s'.b.length cd3)).run Try.prog W = .ok (.string ⟨s'.b.toArray⟩) W ∧ (Go.convert 22 9 (.slice av s'.b.length cv)).run Try.prog W = .ok (.string ⟨s'.b.toArray⟩) W) _ := hS
            clear hS
            go_simp
            refine (HNN.out _ hSS.1).mono ?_
            rintro e w7 ⟨rfl, rfl⟩
            refine hK.out _ _ (hSS) (fun hS => ?_)
            clear hK
            (try simp only [Act.put, List.setIfInBounds_toArray, List.set_cons_zero, List.set_cons_succ])
            refine any_take 26 ?vrcn25 rfl (by kernel_rfl) (by kernel_rfl) (by kernel_rfl) (fun _ _ _ h => h) (by rfl) ?hrcn25 hS ?_
            case hrcn25 => (intro w hSw; (try dsimp only at hSw); go_split_ands; go_simp; (try with_reducible rfl))
            (try simp only [Act.put, List.setIfInBounds_toArray, List.set_cons_zero, List.set_cons_succ])
            refine any_take 27 ?vrcn26 rfl (by kernel_rfl) (by kernel_rfl) (by kernel_rfl) (fun _ _ _ h => h) (by rfl) ?hrcn26 hS ?_
            case hrcn26 => (intro w hSw; (try dsimp only at hSw); go_split_ands; go_simp; (try with_reducible rfl))
            (try simp only [Act.put, List.setIfInBounds_toArray, List.set_cons_zero, List.set_cons_succ])
            refine any_take 28 ?vrcn27 rfl (by kernel_rfl) (by kernel_rfl) (by kernel_rfl) (fun _ _ _ h => h) (by rfl) ?hrcn27 hS ?_
            case hrcn27 => (intro w hSw; (try dsimp only at hSw); go_split_ands; go_simp; (try with_reducible rfl))
            (try simp only [Act.put, List.setIfInBounds_toArray, List.set_cons_zero, List.set_cons_succ])
            refine any_take 29 ?vrcn28 rfl (by kernel_rfl) (by kernel_rfl) (by kernel_rfl) (fun _ _ _ h => h) (by rfl) ?hrcn28 hS ?_
            case hrcn28 => (intro w hSw; (try dsimp only at hSw); go_split_ands; go_simp; (try with_reducible rfl))
            (try simp only [Act.put, List.setIfInBounds_toArray, List.set_cons_zero, List.set_cons_succ])
            refine any_take 31 ?vrcn29 rfl (by kernel_rfl) (by kernel_rfl) (by kernel_rfl) (fun _ _ _ h => h) (by rfl) ?hrcn29 hS ?_
            case hrcn29 => (intro w hSw; (try dsimp only at hSw); go_split_ands; go_simp; (try with_reducible rfl))
            (try simp only [Act.put, List.setIfInBounds_toArray, List.set_cons_zero, List.set_cons_succ])
            refine any_take 32 ?vrcn30 rfl (by kernel_rfl) (by kernel_rfl) (by kernel_rfl) (fun _ _ _ h => h) (by rfl) ?hrcn30 hS ?_
            case hrcn30 => (intro w hSw; (try dsimp only at hSw); go_split_ands; go_simp; (try with_reducible rfl))
            (try simp only [Act.put, List.setIfInBounds_toArray, List.set_cons_zero, List.set_cons_succ])
            refine any_take 33 ?vrcn31 rfl (by kernel_rfl) (by kernel_rfl) (by kernel_rfl) (fun _ _ _ h => h) (by rfl) ?hrcn31 hS ?_
            case hrcn31 => (intro w hSw; (try dsimp only at hSw); go_split_ands; go_simp; (try with_reducible rfl))
            (try simp only [Act.put, List.setIfInBounds_toArray, List.set_cons_zero, List.set_cons_succ])
            refine any_take 34 ?vrcn32 rfl (by kernel_rfl) (by kernel_rfl) (by kernel_rfl) (fun _ _ _ h => h) (by rfl) ?hrcn32 hS ?_
            case hrcn32 => (intro w hSw; (try dsimp only at hSw); go_split_ands; go_simp; (try with_reducible rfl))
            (try simp only [Act.put, List.setIfInBounds_toArray, List.set_cons_zero, List.set_cons_succ])
            refine any_take 35 ?vrcn33 rfl (by kernel_rfl) (by kernel_rfl) (by kernel_rfl) (fun _ _ _ h => h) (by rfl) ?hrcn33 hS ?_
            case hrcn33 => (intro w hSw; (try dsimp only at hSw); go_split_ands; go_simp; (try with_reducible rfl))
            (try simp only [Act.put, List.setIfInBounds_toArray, List.set_cons_zero, List.set_cons_succ])
            refine any_one 30 rfl (by kernel_rfl) (by rfl) (fun K hK => ?_)
            have hSS : (fun W : World => Below w6.heap.size w6 W ∧ W.cell? ⟨r, 0, none⟩ = some (.slice av s'.b.length cv) ∧ W.cell? ⟨r, 3, none⟩ = some (.bool false) ∧ W.cell? ⟨r, 4, none⟩ = some (.int .i64 (s'.n : Int)) ∧ (Go.convert 22 9 (.slice d1 R.length cd1)).run Try.prog W = .ok (.string ⟨R.toArray⟩) W ∧ (Go.convert 22 9 (.slice d2 R.length cd2)).run Try.prog W = .ok (.string ⟨R.toArray⟩) W ∧ (Go.convert 22 9 (.slice d3 s'.b.length cd3)).run Try.prog W = .ok (.string ⟨s'.b.toArray⟩) W ∧ (Go.convert 22 9 (.slice av s'.b.length cv)).run Try.prog W = .ok (.string ⟨s'.b.toArray⟩) W) _ := hS
            clear hS
            go_simp
            refine (HLN.out _ hSS.1).mono ?_
            rintro e w7 ⟨rfl, rfl⟩
            refine hK.out _ _ (hSS) (fun hS => ?_)
            clear hK
            (try simp only [Act.put, List.setIfInBounds_toArray, List.set_cons_zero, List.set_cons_succ])
            refine any_take 36 ?vrcn34 rfl (by kernel_rfl) (by kernel_rfl) (by kernel_rfl) (fun _ _ _ h => h) (by rfl) ?hrcn34 hS ?_
            case hrcn34 => (intro w hSw; (try dsimp only at hSw); go_split_ands; go_simp; (try with_reducible rfl))
            (try simp only [Act.put, List.setIfInBounds_toArray, List.set_cons_zero, List.set_cons_succ])
            refine any_take 37 ?vrcn35 rfl (by kernel_rfl) (by kernel_rfl) (by kernel_rfl) (fun _ _ _ h => h) (by rfl) ?hrcn35 hS ?_
            case hrcn35 => (intro w hSw; (try dsimp only at hSw); go_split_ands; go_simp; (try with_reducible rfl))
            (try simp only [Act.put, List.setIfInBounds_toArray, List.set_cons_zero, List.set_cons_succ])
            refine any_take 38 ?vrcn36 rfl (by kernel_rfl) (by kernel_rfl) (by kernel_rfl) (fun _ _ _ h => h) (by rfl) ?hrcn36 hS ?_
            case hrcn36 => (intro w hSw; (try dsimp only at hSw); go_split_ands; go_simp; (try with_reducible rfl))
            (try simp only [Act.put, List.setIfInBounds_toArray, List.set_cons_zero, List.set_cons_succ])
            refine any_take 39 ?vrcn37 rfl (by kernel_rfl) (by kernel_rfl) (by kernel_rfl) (fun _ _ _ h => h) (by rfl) ?hrcn37 hS ?_
            case hrcn37 => (intro w hSw; (try dsimp only at hSw); go_split_ands; go_simp; (try with_reducible rfl))
            (try simp only [Act.put, List.setIfInBounds_toArray, List.set_cons_zero, List.set_cons_succ])
            refine any_take 40 ?vrcn38 rfl (by kernel_rfl) (by kernel_rfl) (by kernel_rfl) (fun _ _ _ h => h) (by rfl) ?hrcn38 hS ?_
            case hrcn38 => (intro w hSw; (try dsimp only at hSw); go_split_ands; go_simp; (try with_reducible rfl))
            (try simp only [Act.put, List.setIfInBounds_toArray, List.set_cons_zero, List.set_cons_succ])
            refine any_take 41 ?vrcn39 rfl (by kernel_rfl) (by kernel_rfl) (by kernel_rfl) (fun _ _ _ h => h) (by rfl) ?hrcn39 hS ?_
            case hrcn39 => (intro w hSw; (try dsimp only at hSw); go_split_ands; go_simp; (try with_reducible rfl))
            (try simp only [Act.put, List.setIfInBounds_toArray, List.set_cons_zero, List.set_cons_succ])
            refine any_take 42 ?vrcn40 rfl (by kernel_rfl) (by kernel_rfl) (by kernel_rfl) (fun _ _ _ h => h) (by rfl) ?hrcn40 hS ?_
            case hrcn40 => (intro w hSw; (try dsimp only at hSw); go_split_ands; go_simp; (try with_reducible rfl))
            (try simp only [Act.put, List.setIfInBounds_toArray, List.set_cons_zero, List.set_cons_succ])
            refine any_take 43 ?vrcn41 rfl (by kernel_rfl) (by kernel_rfl) (by kernel_rfl) (fun _ _ _ h => h) (by rfl) ?hrcn41 hS ?_
            case hrcn41 => (intro w hSw; (try dsimp only at hSw); go_split_ands; go_simp; (try with_reducible rfl))
            (try simp only [Act.put, List.setIfInBounds_toArray, List.set_cons_zero, List.set_cons_succ])
            refine any_take 44 ?vrcn42 rfl (by kernel_rfl) (by kernel_rfl) (by kernel_rfl) (fun _ _ _ h => h) (by rfl) ?hrcn42 hS ?_
            case hrcn42 => (intro w hSw; (try dsimp only at hSw); go_split_ands; go_simp; (try with_reducible rfl))
            (try simp only [Act.put, List.setIfInBounds_toArray, List.set_cons_zero, List.set_cons_succ])
            refine any_take 45 ?vrcn43 rfl (by kernel_rfl) (by kernel_rfl) (by kernel_rfl) (fun _ _ _ h => h) (by rfl) ?hrcn43 hS ?_
            case hrcn43 => (intro w hSw; (try dsimp only at hSw); go_split_ands; go_simp; (try with_reducible rfl))
            (try simp only [Act.put, List.setIfInBounds_toArray, List.set_cons_zero, List.set_cons_succ])
            refine any_take 46 ?vrcn44 rfl (by kernel_rfl) (by kernel_rfl) (by kernel_rfl) (fun _ _ _ h => h) (by rfl) ?hrcn44 hS ?_
            case hrcn44 => (intro w hSw; (try dsimp only at hSw); go_split_ands; go_simp; (try with_reducible rfl))
            (try simp only [Act.put, List.setIfInBounds_toArray, List.set_cons_zero, List.set_cons_succ])
            refine any_take 47 ?vrcn45 rfl (by kernel_rfl) (by kernel_rfl) (by kernel_rfl) (fun _ _ _ h => h) (by rfl) ?hrcn45 hS ?_
            case hrcn45 => (intro w hSw; (try dsimp only at hSw); go_split_ands; go_simp; (try with_reducible rfl))
            (try simp only [Act.put, List.setIfInBounds_toArray, List.set_cons_zero, List.set_cons_succ])
            refine any_take 48 ?vrcn46 rfl (by kernel_rfl) (by kernel_rfl) (by kernel_rfl) (fun _ _ _ h => h) (by rfl) ?hrcn46 hS ?_
            case hrcn46 => (intro w hSw; (try dsimp only at hSw); go_split_ands; go_simp; (try with_reducible rfl))
            (try simp only [Act.put, List.setIfInBounds_toArray, List.set_cons_zero, List.set_cons_succ])
            refine any_take 49 ?vrcn47 rfl (by kernel_rfl) (by kernel_rfl) (by kernel_rfl) (fun _ _ _ h => h) (by rfl) ?hrcn47 hS ?_
            case hrcn47 => (intro w hSw; (try dsimp only at hSw); go_split_ands; go_simp; (try with_reducible rfl))
            (try simp only [Act.put, List.setIfInBounds_toArray, List.set_cons_zero, List.set_cons_succ])
            refine any_take 50 ?vrcn48 rfl (by kernel_rfl) (by kernel_rfl) (by kernel_rfl) (fun _ _ _ h => h) (by rfl) ?hrcn48 hS ?_
            case hrcn48 => (intro w hSw; (try dsimp only at hSw); go_split_ands; go_simp; (try with_reducible rfl))
            (try simp only [Act.put, List.setIfInBounds_toArray, List.set_cons_zero, List.set_cons_succ])
            refine any_take 51 ?vrcn49 rfl (by kernel_rfl) (by kernel_rfl) (by kernel_rfl) (fun _ _ _ h => h) (by rfl) ?hrcn49 hS ?_
            case hrcn49 => (intro w hSw; (try dsimp only at hSw); go_split_ands; go_simp; (try with_reducible rfl))
            (try simp only [Act.put, List.setIfInBounds_toArray, List.set_cons_zero, List.set_cons_succ])
            refine any_take 52 ?vrcn50 rfl (by kernel_rfl) (by kernel_rfl) (by kernel_rfl) (fun _ _ _ h => h) (by rfl) ?hrcn50 hS ?_
            case hrcn50 => (intro w hSw; (try dsimp only at hSw); go_split_ands; go_simp; (try with_reducible rfl))
            (try simp only [Act.put, List.setIfInBounds_toArray, List.set_cons_zero, List.set_cons_succ])
            refine any_take 53 ?vrcn51 rfl (by kernel_rfl) (by kernel_rfl) (by kernel_rfl) (fun _ _ _ h => h) (by rfl) ?hrcn51 hS ?_
            case hrcn51 => (intro w hSw; (try dsimp only at hSw); go_split_ands; go_simp; (try with_reducible rfl))
            (try simp only [Act.put, List.setIfInBounds_toArray, List.set_cons_zero, List.set_cons_succ])
            refine any_take 54 ?vrcn52 rfl (by kernel_rfl) (by kernel_rfl) (by kernel_rfl) (fun _ _ _ h => h) (by rfl) ?hrcn52 hS ?_
            case hrcn52 => (intro w hSw; (try dsimp only at hSw); go_split_ands; go_simp; (try with_reducible rfl))
            (try simp only [Act.put, List.setIfInBounds_toArray, List.set_cons_zero, List.set_cons_succ])
            refine wpAnyH_done (by kernel_rfl) ?_ _
            refine NoPanic.normal ?_
            clear hS HDD HNN HLN HS6
            go_wp2
            go_roundw
            case rel => exact ⟨k + 1, g', s', t', by omega, rfl, by go_num, HSIM'.out, hsn', H6.out⟩
            case measure => simp [intOf]; omega
        · as_aux_lemma =>
            rw [hD] at HDD
            rw [hD] at HS6
            clear hD HR2
            go_wp2
            refine wp_region_noPanic ?_
            refine wp_region_held (S := fun W => Below w6.heap.size w6 W ∧ W.cell? ⟨r, 0, none⟩ = some (.slice av s'.b.length cv) ∧ W.cell? ⟨r, 3, none⟩ = some (.bool true) ∧ W.cell? ⟨r, 4, none⟩ = some (.int .i64 (s'.n : Int)) ∧ (Go.convert 22 9 (.slice d1 R.length cd1)).run Try.prog W = .ok (.string ⟨R.toArray⟩) W ∧ (Go.convert 22 9 (.slice d2 R.length cd2)).run Try.prog W = .ok (.string ⟨R.toArray⟩) W ∧ (Go.convert 22 9 (.slice d3 R2.length cd3)).run Try.prog W = .ok (.string ⟨R2.toArray⟩) W ∧ (Go.convert 22 9 (.slice av s'.b.length cv)).run Try.prog W = .ok (.string ⟨s'.b.toArray⟩) W) (by kernel_rfl) ?_
            have hS := (show (fun W : World => Below w6.heap.size w6 W ∧ W.cell? ⟨r, 0, none⟩ = some (.slice av s'.b.length cv) ∧ W.cell? ⟨r, 3, none⟩ = some (.bool true) ∧ W.cell? ⟨r, 4, none⟩ = some (.int .i64 (s'.n : Int)) ∧ (Go.convert 22 9 (.slice d1 R.length cd1)).run Try.prog W = .ok (.string ⟨R.toArray⟩) W ∧ (Go.convert 22 9 (.slice d2 R.length cd2)).run Try.prog W = .ok (.string ⟨R.toArray⟩) W ∧ (Go.convert 22 9 (.slice d3 R2.length cd3)).run Try.prog W = .ok (.string ⟨R2.toArray⟩) W ∧ (Go.convert 22 9 (.slice av s'.b.length cv)).run Try.prog W = .ok (.string ⟨s'.b.toArray⟩) W) w6.drew from HS6.out _ (Below.refl _ _).drew)
            refine any_take 0 ?vrdn1 rfl (by kernel_rfl) (by kernel_rfl) (by kernel_rfl) (fun _ _ _ h => h) (by rfl) ?hrdn1 hS ?_
            case hrdn1 => (intro w hSw; (try dsimp only at hSw); go_split_ands; go_simp; (try with_reducible rfl))
            (try simp only [Act.put, List.setIfInBounds_toArray, List.set_cons_zero, List.set_cons_succ])
            refine any_take 1 ?vrdn2 rfl (by kernel_rfl) (by kernel_rfl) (by kernel_rfl) (fun _ _ _ h => h) (by rfl) ?hrdn2 hS ?_
            case hrdn2 => (intro w hSw; (try dsimp only at hSw); go_split_ands; go_simp; (try with_reducible rfl))
            (try simp only [Act.put, List.setIfInBounds_toArray, List.set_cons_zero, List.set_cons_succ])
            refine any_take 2 ?vrdn3 rfl (by kernel_rfl) (by kernel_rfl) (by kernel_rfl) (fun _ _ _ h => h) (by rfl) ?hrdn3 hS ?_
            case hrdn3 => (intro w hSw; (try dsimp only at hSw); go_split_ands; go_simp; (try with_reducible rfl))
            (try simp only [Act.put, List.setIfInBounds_toArray, List.set_cons_zero, List.set_cons_succ])
            refine any_take 3 ?vrdn4 rfl (by kernel_rfl) (by kernel_rfl) (by kernel_rfl) (fun _ _ _ h => h) (by rfl) ?hrdn4 hS ?_
            case hrdn4 => (intro w hSw; (try dsimp only at hSw); go_split_ands; go_simp; (try with_reducible rfl))
            (try simp only [Act.put, List.setIfInBounds_toArray, List.set_cons_zero, List.set_cons_succ])
            refine any_take 4 ?vrdn5 rfl (by kernel_rfl) (by kernel_rfl) (by kernel_rfl) (fun _ _ _ h => h) (by rfl) ?hrdn5 hS ?_
            case hrdn5 => (intro w hSw; (try dsimp only at hSw); go_split_ands; go_simp; (try with_reducible rfl))
            (try simp only [Act.put, List.setIfInBounds_toArray, List.set_cons_zero, List.set_cons_succ])
            refine any_take 5 ?vrdn6 rfl (by kernel_rfl) (by kernel_rfl) (by kernel_rfl) (fun _ _ _ h => h) (by rfl) ?hrdn6 hS ?_
            case hrdn6 => (intro w hSw; (try dsimp only at hSw); go_split_ands; go_simp; (try with_reducible rfl))
            (try simp only [Act.put, List.setIfInBounds_toArray, List.set_cons_zero, List.set_cons_succ])
            refine any_take 6 ?vrdn7 rfl (by kernel_rfl) (by kernel_rfl) (by kernel_rfl) (fun _ _ _ h => h) (by rfl) ?hrdn7 hS ?_
            case hrdn7 => (intro w hSw; (try dsimp only at hSw); go_split_ands; go_simp; (try with_reducible rfl))
            (try simp only [Act.put, List.setIfInBounds_toArray, List.set_cons_zero, List.set_cons_succ])
            refine any_take 7 ?vrdn8 rfl (by kernel_rfl) (by kernel_rfl) (by kernel_rfl) (fun _ _ _ h => h) (by rfl) ?hrdn8 hS ?_
            case hrdn8 => (intro w hSw; (try dsimp only at hSw); go_split_ands; go_simp; (try with_reducible rfl))
            (try simp only [Act.put, List.setIfInBounds_toArray, List.set_cons_zero, List.set_cons_succ])
            refine any_take 8 ?vrdn9 rfl (by kernel_rfl) (by kernel_rfl) (by kernel_rfl) (fun _ _ _ h => h) (by rfl) ?hrdn9 hS ?_
            case hrdn9 => (intro w hSw; (try dsimp only at hSw); go_split_ands; go_simp; (try with_reducible rfl))
            (try simp only [Act.put, List.setIfInBounds_toArray, List.set_cons_zero, List.set_cons_succ])
            refine any_take 9 ?vrdn10 rfl (by kernel_rfl) (by kernel_rfl) (by kernel_rfl) (fun _ _ _ h => h) (by rfl) ?hrdn10 hS ?_
            case hrdn10 => (intro w hSw; (try dsimp only at hSw); go_split_ands; go_simp; (try with_reducible rfl))
            (try simp only [Act.put, List.setIfInBounds_toArray, List.set_cons_zero, List.set_cons_succ])
            refine any_take 10 ?vrdn11 rfl (by kernel_rfl) (by kernel_rfl) (by kernel_rfl) (fun _ _ _ h => h) (by rfl) ?hrdn11 hS ?_
            case hrdn11 => (intro w hSw; (try dsimp only at hSw); go_split_ands; go_simp; (try with_reducible rfl))
            (try simp only [Act.put, List.setIfInBounds_toArray, List.set_cons_zero, List.set_cons_succ])
            refine any_take 11 ?vrdn12 rfl (by kernel_rfl) (by kernel_rfl) (by kernel_rfl) (fun _ _ _ h => h) (by rfl) ?hrdn12 hS ?_
            case hrdn12 => (intro w hSw; (try dsimp only at hSw); go_split_ands; go_simp; (try with_reducible rfl))
            (try simp only [Act.put, List.setIfInBounds_toArray, List.set_cons_zero, List.set_cons_succ])
            refine any_take 13 ?vrdn13 rfl (by kernel_rfl) (by kernel_rfl) (by kernel_rfl) (fun _ _ _ h => h) (by rfl) ?hrdn13 hS ?_
            case hrdn13 => (intro w hSw; (try dsimp only at hSw); go_split_ands; go_simp; (try with_reducible rfl))
            (try simp only [Act.put, List.setIfInBounds_toArray, List.set_cons_zero, List.set_cons_succ])
            refine any_take 14 ?vrdn14 rfl (by kernel_rfl) (by kernel_rfl) (by kernel_rfl) (fun _ _ _ h => h) (by rfl) ?hrdn14 hS ?_
            case hrdn14 => (intro w hSw; (try dsimp only at hSw); go_split_ands; go_simp; (try with_reducible rfl))
            (try simp only [Act.put, List.setIfInBounds_toArray, List.set_cons_zero, List.set_cons_succ])
            refine any_take 15 ?vrdn15 rfl (by kernel_rfl) (by kernel_rfl) (by kernel_rfl) (fun _ _ _ h => h) (by rfl) ?hrdn15 hS ?_
            case hrdn15 => (intro w hSw; (try dsimp only at hSw); go_split_ands; go_simp; (try with_reducible rfl))
            (try simp only [Act.put, List.setIfInBounds_toArray, List.set_cons_zero, List.set_cons_succ])
            refine any_take 16 ?vrdn16 rfl (by kernel_rfl) (by kernel_rfl) (by kernel_rfl) (fun _ _ _ h => h) (by rfl) ?hrdn16 hS ?_
            case hrdn16 => (intro w hSw; (try dsimp only at hSw); go_split_ands; go_simp; (try with_reducible rfl))
            (try simp only [Act.put, List.setIfInBounds_toArray, List.set_cons_zero, List.set_cons_succ])
            refine any_one 12 rfl (by kernel_rfl) (by rfl) (fun K hK => ?_)
            have hSS : (fun W : World => Below w6.heap.size w6 W ∧ W.cell? ⟨r, 0, none⟩ = some (.slice av s'.b.length cv) ∧ W.cell? ⟨r, 3, none⟩ = some (.bool true) ∧ W.cell? ⟨r, 4, none⟩ = some (.int .i64 (s'.n : Int)) ∧ (Go.convert 22 9 (.slice d1 R.length cd1)).run Try.prog W = .ok (.string ⟨R.toArray⟩) W ∧ (Go.convert 22 9 (.slice d2 R.length cd2)).run Try.prog W = .ok (.string ⟨R.toArray⟩) W ∧ (Go.convert 22 9 (.slice d3 R2.length cd3)).run Try.prog W = .ok (.string ⟨R2.toArray⟩) W ∧ (Go.convert 22 9 (.slice av s'.b.length cv)).run Try.prog W = .ok (.string ⟨s'.b.toArray⟩) W) _ := hS
            clear hS
            go_simp
            refine (HDD.out _ hSS.1).mono ?_
            rintro e w7 ⟨rfl, rfl⟩
            refine hK.out _ _ (hSS) (fun hS => ?_)
            clear hK
            (try simp only [Act.put, List.setIfInBounds_toArray, List.set_cons_zero, List.set_cons_succ])
            refine any_take 17 ?vrdn17 rfl (by kernel_rfl) (by kernel_rfl) (by kernel_rfl) (fun _ _ _ h => h) (by rfl) ?hrdn17 hS ?_
            case hrdn17 => (intro w hSw; (try dsimp only at hSw); go_split_ands; go_simp; (try with_reducible rfl))
            (try simp only [Act.put, List.setIfInBounds_toArray, List.set_cons_zero, List.set_cons_succ])
            refine any_take 18 ?vrdn18 rfl (by kernel_rfl) (by kernel_rfl) (by kernel_rfl) (fun _ _ _ h => h) (by rfl) ?hrdn18 hS ?_
            case hrdn18 => (intro w hSw; (try dsimp only at hSw); go_split_ands; go_simp; (try with_reducible rfl))
            (try simp only [Act.put, List.setIfInBounds_toArray, List.set_cons_zero, List.set_cons_succ])
            refine any_take 19 ?vrdn19 rfl (by kernel_rfl) (by kernel_rfl) (by kernel_rfl) (fun _ _ _ h => h) (by rfl) ?hrdn19 hS ?_
            case hrdn19 => (intro w hSw; (try dsimp only at hSw); go_split_ands; go_simp; (try with_reducible rfl))
            (try simp only [Act.put, List.setIfInBounds_toArray, List.set_cons_zero, List.set_cons_succ])
            refine any_take 20 ?vrdn20 rfl (by kernel_rfl) (by kernel_rfl) (by kernel_rfl) (fun _ _ _ h => h) (by rfl) ?hrdn20 hS ?_
            case hrdn20 => (intro w hSw; (try dsimp only at hSw); go_split_ands; go_simp; (try with_reducible rfl))
            (try simp only [Act.put, List.setIfInBounds_toArray, List.set_cons_zero, List.set_cons_succ])
            refine any_take 22 ?vrdn21 rfl (by kernel_rfl) (by kernel_rfl) (by kernel_rfl) (fun _ _ _ h => h) (by rfl) ?hrdn21 hS ?_
            case hrdn21 => (intro w hSw; (try dsimp only at hSw); go_split_ands; go_simp; (try with_reducible rfl))
            (try simp only [Act.put, List.setIfInBounds_toArray, List.set_cons_zero, List.set_cons_succ])
            refine any_take 23 ?vrdn22 rfl (by kernel_rfl) (by kernel_rfl) (by kernel_rfl) (fun _ _ _ h => h) (by rfl) ?hrdn22 hS ?_
            case hrdn22 => (intro w hSw; (try dsimp only at hSw); go_split_ands; go_simp; (try with_reducible rfl))
            (try simp only [Act.put, List.setIfInBounds_toArray, List.set_cons_zero, List.set_cons_succ])
            refine any_take 24 ?vrdn23 rfl (by kernel_rfl) (by kernel_rfl) (by kernel_rfl) (fun _ _ _ h => h) (by rfl) ?hrdn23 hS ?_
            case hrdn23 => (intro w hSw; (try dsimp only at hSw); go_split_ands; go_simp; (try with_reducible rfl))
            (try simp only [Act.put, List.setIfInBounds_toArray, List.set_cons_zero, List.set_cons_succ])
            refine any_take 25 ?vrdn24 rfl (by kernel_rfl) (by kernel_rfl) (by kernel_rfl) (fun _ _ _ h => h) (by rfl) ?hrdn24 hS ?_
            case hrdn24 => (intro w hSw; (try dsimp only at hSw); go_split_ands; go_simp; (try with_reducible rfl))
            (try simp only [Act.put, List.setIfInBounds_toArray, List.set_cons_zero, List.set_cons_succ])
            refine any_one 21 rfl (by kernel_rfl) (by rfl) (fun K hK => ?_)
            have hSS : (fun W : World => Below w6.heap.size w6 W ∧ W.cell? ⟨r, 0, none⟩ = some (.slice av s'.b.length cv) ∧ W.cell? ⟨r, 3, none⟩ = some (.bool true) ∧ W.cell? ⟨r, 4, none⟩ = some (.int .i64 (s'.n : Int)) ∧ (Go.convert 22 9 (.slice d1 R.length cd1)).run Try.prog W = .ok (.string ⟨R.toArray⟩) W ∧ (Go.convert 22 9 (.slice d2 R.length cd2)).run Try.prog W = .ok (.string ⟨R.toArray⟩) W ∧ (Go.convert 22 9 (.slice d3 R2.length cd3)).run Try.prog W = .ok (.string ⟨R2.toArray⟩) W ∧ (Go.convert 22 9 (.slice av s'.b.length cv)).run Try.prog W = .ok (.string ⟨s'.b.toArray⟩) W) _ := hS
            clear hS
            go_simp
            refine (HNN.out _ hSS.1).mono ?_
            rintro e w7 ⟨rfl, rfl⟩
            refine hK.out _ _ (hSS) (fun hS => ?_)
            clear hK
            (try simp only [Act.put, List.setIfInBounds_toArray, List.set_cons_zero, List.set_cons_succ])
            refine any_take 26 ?vrdn25 rfl (by kernel_rfl) (by kernel_rfl) (by kernel_rfl) (fun _ _ _ h => h) (by rfl) ?hrdn25 hS ?_
            case hrdn25 => (intro w hSw; (try dsimp only at hSw); go_split_ands; go_simp; (try with_reducible rfl))
            (try simp only [Act.put, List.setIfInBounds_toArray, List.set_cons_zero, List.set_cons_succ])
            refine any_take 27 ?vrdn26 rfl (by kernel_rfl) (by kernel_rfl) (by kernel_rfl) (fun _ _ _ h => h) (by rfl) ?hrdn26 hS ?_
            case hrdn26 => (intro w hSw; (try dsimp only at hSw); go_split_ands; go_simp; (try with_reducible rfl))
            (try simp only [Act.put, List.setIfInBounds_toArray, List.set_cons_zero, List.set_cons_succ])
            refine any_take 28 ?vrdn27 rfl (by kernel_rfl) (by kernel_rfl) (by kernel_rfl) (fun _ _ _ h => h) (by rfl) ?hrdn27 hS ?_
            case hrdn27 => (intro w hSw; (try dsimp only at hSw); go_split_ands; go_simp; (try with_reducible rfl))
            (try simp only [Act.put, List.setIfInBounds_toArray, List.set_cons_zero, List.set_cons_succ])
            refine any_take 29 ?vrdn28 rfl (by kernel_rfl) (by kernel_rfl) (by kernel_rfl) (fun _ _ _ h => h) (by rfl) ?hrdn28 hS ?_
            case hrdn28 => (intro w hSw; (try dsimp only at hSw); go_split_ands; go_simp; (try with_reducible rfl))
            (try simp only [Act.put, List.setIfInBounds_toArray, List.set_cons_zero, List.set_cons_succ])
            refine any_take 31 ?vrdn29 rfl (by kernel_rfl) (by kernel_rfl) (by kernel_rfl) (fun _ _ _ h => h) (by rfl) ?hrdn29 hS ?_
            case hrdn29 => (intro w hSw; (try dsimp only at hSw); go_split_ands; go_simp; (try with_reducible rfl))
            (try simp only [Act.put, List.setIfInBounds_toArray, List.set_cons_zero, List.set_cons_succ])
            refine any_take 32 ?vrdn30 rfl (by kernel_rfl) (by kernel_rfl) (by kernel_rfl) (fun _ _ _ h => h) (by rfl) ?hrdn30 hS ?_
            case hrdn30 => (intro w hSw; (try dsimp only at hSw); go_split_ands; go_simp; (try with_reducible rfl))
            (try simp only [Act.put, List.setIfInBounds_toArray, List.set_cons_zero, List.set_cons_succ])
            refine any_take 33 ?vrdn31 rfl (by kernel_rfl) (by kernel_rfl) (by kernel_rfl) (fun _ _ _ h => h) (by rfl) ?hrdn31 hS ?_
            case hrdn31 => (intro w hSw; (try dsimp only at hSw); go_split_ands; go_simp; (try with_reducible rfl))
            (try simp only [Act.put, List.setIfInBounds_toArray, List.set_cons_zero, List.set_cons_succ])
            refine any_take 34 ?vrdn32 rfl (by kernel_rfl) (by kernel_rfl) (by kernel_rfl) (fun _ _ _ h => h) (by rfl) ?hrdn32 hS ?_
            case hrdn32 => (intro w hSw; (try dsimp only at hSw); go_split_ands; go_simp; (try with_reducible rfl))
            (try simp only [Act.put, List.setIfInBounds_toArray, List.set_cons_zero, List.set_cons_succ])
            refine any_take 35 ?vrdn33 rfl (by kernel_rfl) (by kernel_rfl) (by kernel_rfl) (fun _ _ _ h => h) (by rfl) ?hrdn33 hS ?_
            case hrdn33 => (intro w hSw; (try dsimp only at hSw); go_split_ands; go_simp; (try with_reducible rfl))
            (try simp only [Act.put, List.setIfInBounds_toArray, List.set_cons_zero, List.set_cons_succ])
            refine any_one 30 rfl (by kernel_rfl) (by rfl) (fun K hK => ?_)
            have hSS : (fun W : World => Below w6.heap.size w6 W ∧ W.cell? ⟨r, 0, none⟩ = some (.slice av s'.b.length cv) ∧ W.cell? ⟨r, 3, none⟩ = some (.bool true) ∧ W.cell? ⟨r, 4, none⟩ = some (.int .i64 (s'.n : Int)) ∧ (Go.convert 22 9 (.slice d1 R.length cd1)).run Try.prog W = .ok (.string ⟨R.toArray⟩) W ∧ (Go.convert 22 9 (.slice d2 R.length cd2)).run Try.prog W = .ok (.string ⟨R.toArray⟩) W ∧ (Go.convert 22 9 (.slice d3 R2.length cd3)).run Try.prog W = .ok (.string ⟨R2.toArray⟩) W ∧ (Go.convert 22 9 (.slice av s'.b.length cv)).run Try.prog W = .ok (.string ⟨s'.b.toArray⟩) W) _ := hS
            clear hS
            go_simp
            refine (HLN.out _ hSS.1).mono ?_
            rintro e w7 ⟨rfl, rfl⟩
            refine hK.out _ _ (hSS) (fun hS => ?_)
            clear hK
            (try simp only [Act.put, List.setIfInBounds_toArray, List.set_cons_zero, List.set_cons_succ])
            refine any_take 36 ?vrdn34 rfl (by kernel_rfl) (by kernel_rfl) (by kernel_rfl) (fun _ _ _ h => h) (by rfl) ?hrdn34 hS ?_
            case hrdn34 => (intro w hSw; (try dsimp only at hSw); go_split_ands; go_simp; (try with_reducible rfl))
            (try simp only [Act.put, List.setIfInBounds_toArray, List.set_cons_zero, List.set_cons_succ])
            refine any_take 37 ?vrdn35 rfl (by kernel_rfl) (by kernel_rfl) (by kernel_rfl) (fun _ _ _ h => h) (by rfl) ?hrdn35 hS ?_
            case hrdn35 => (intro w hSw; (try dsimp only at hSw); go_split_ands; go_simp; (try with_reducible rfl))
            (try simp only [Act.put, List.setIfInBounds_toArray, List.set_cons_zero, List.set_cons_succ])
            refine any_take 38 ?vrdn36 rfl (by kernel_rfl) (by kernel_rfl) (by kernel_rfl) (fun _ _ _ h => h) (by rfl) ?hrdn36 hS ?_
            case hrdn36 => (intro w hSw; (try dsimp only at hSw); go_split_ands; go_simp; (try with_reducible rfl))
            (try simp only [Act.put, List.setIfInBounds_toArray, List.set_cons_zero, List.set_cons_succ])
            refine any_take 39 ?vrdn37 rfl (by kernel_rfl) (by kernel_rfl) (by kernel_rfl) (fun _ _ _ h => h) (by rfl) ?hrdn37 hS ?_
            case hrdn37 => (intro w hSw; (try dsimp only at hSw); go_split_ands; go_simp; (try with_reducible rfl))
            (try simp only [Act.put, List.setIfInBounds_toArray, List.set_cons_zero, List.set_cons_succ])
            refine any_take 40 ?vrdn38 rfl (by kernel_rfl) (by kernel_rfl) (by kernel_rfl) (fun _ _ _ h => h) (by rfl) ?hrdn38 hS ?_
            case hrdn38 => (intro w hSw; (try dsimp only at hSw); go_split_ands; go_simp; (try with_reducible rfl))
            (try simp only [Act.put, List.setIfInBounds_toArray, List.set_cons_zero, List.set_cons_succ])
            refine any_take 41 ?vrdn39 rfl (by kernel_rfl) (by kernel_rfl) (by kernel_rfl) (fun _ _ _ h => h) (by rfl) ?hrdn39 hS ?_
            case hrdn39 => (intro w hSw; (try dsimp only at hSw); go_split_ands; go_simp; (try with_reducible rfl))
            (try simp only [Act.put, List.setIfInBounds_toArray, List.set_cons_zero, List.set_cons_succ])
            refine any_take 42 ?vrdn40 rfl (by kernel_rfl) (by kernel_rfl) (by kernel_rfl) (fun _ _ _ h => h) (by rfl) ?hrdn40 hS ?_
            case hrdn40 => (intro w hSw; (try dsimp only at hSw); go_split_ands; go_simp; (try with_reducible rfl))
            (try simp only [Act.put, List.setIfInBounds_toArray, List.set_cons_zero, List.set_cons_succ])
            refine any_take 43 ?vrdn41 rfl (by kernel_rfl) (by kernel_rfl) (by kernel_rfl) (fun _ _ _ h => h) (by rfl) ?hrdn41 hS ?_
            case hrdn41 => (intro w hSw; (try dsimp only at hSw); go_split_ands; go_simp; (try with_reducible rfl))
            (try simp only [Act.put, List.setIfInBounds_toArray, List.set_cons_zero, List.set_cons_succ])
            refine any_take 44 ?vrdn42 rfl (by kernel_rfl) (by kernel_rfl) (by kernel_rfl) (fun _ _ _ h => h) (by rfl) ?hrdn42 hS ?_
            case hrdn42 => (intro w hSw; (try dsimp only at hSw); go_split_ands; go_simp; (try with_reducible rfl))
            (try simp only [Act.put, List.setIfInBounds_toArray, List.set_cons_zero, List.set_cons_succ])
            refine any_skip 45 rfl (by kernel_rfl) (by kernel_rfl) (by kernel_rfl) (fun _ _ _ h => h) (by rfl) hS ?_
            (try simp only [Act.put, List.setIfInBounds_toArray, List.set_cons_zero, List.set_cons_succ])
            refine any_skip 46 rfl (by kernel_rfl) (by kernel_rfl) (by kernel_rfl) (fun _ _ _ h => h) (by rfl) hS ?_
            (try simp only [Act.put, List.setIfInBounds_toArray, List.set_cons_zero, List.set_cons_succ])
            refine any_skip 47 rfl (by kernel_rfl) (by kernel_rfl) (by kernel_rfl) (fun _ _ _ h => h) (by rfl) hS ?_
            (try simp only [Act.put, List.setIfInBounds_toArray, List.set_cons_zero, List.set_cons_succ])
            refine any_skip 48 rfl (by kernel_rfl) (by kernel_rfl) (by kernel_rfl) (fun _ _ _ h => h) (by rfl) hS ?_
            (try simp only [Act.put, List.setIfInBounds_toArray, List.set_cons_zero, List.set_cons_succ])
            refine any_skip 49 rfl (by kernel_rfl) (by kernel_rfl) (by kernel_rfl) (fun _ _ _ h => h) (by rfl) hS ?_
            (try simp only [Act.put, List.setIfInBounds_toArray, List.set_cons_zero, List.set_cons_succ])
            refine any_skip 50 rfl (by kernel_rfl) (by kernel_rfl) (by kernel_rfl) (fun _ _ _ h => h) (by rfl) hS ?_
            (try simp only [Act.put, List.setIfInBounds_toArray, List.set_cons_zero, List.set_cons_succ])
            refine any_skip 51 rfl (by kernel_rfl) (by kernel_rfl) (by kernel_rfl) (fun _ _ _ h => h) (by rfl) hS ?_
            (try simp only [Act.put, List.setIfInBounds_toArray, List.set_cons_zero, List.set_cons_succ])
            refine any_skip 52 rfl (by kernel_rfl) (by kernel_rfl) (by kernel_rfl) (fun _ _ _ h => h) (by rfl) hS ?_
            (try simp only [Act.put, List.setIfInBounds_toArray, List.set_cons_zero, List.set_cons_succ])
            refine any_take 53 ?vrdn43 rfl (by kernel_rfl) (by kernel_rfl) (by kernel_rfl) (fun _ _ _ h => h) (by rfl) ?hrdn43 hS ?_
            case hrdn43 => (intro w hSw; (try dsimp only at hSw); go_split_ands; go_simp; (try with_reducible rfl))
            (try simp only [Act.put, List.setIfInBounds_toArray, List.set_cons_zero, List.set_cons_succ])
            refine any_take 54 ?vrdn44 rfl (by kernel_rfl) (by kernel_rfl) (by kernel_rfl) (fun _ _ _ h => h) (by rfl) ?hrdn44 hS ?_
            case hrdn44 => (intro w hSw; (try dsimp only at hSw); go_split_ands; go_simp; (try with_reducible rfl))
            (try simp only [Act.put, List.setIfInBounds_toArray, List.set_cons_zero, List.set_cons_succ])
            refine wpAnyH_done (by kernel_rfl) ?_ _
            refine NoPanic.normal ?_
            clear hS HDD HNN HLN HS6
            go_wp2
            go_roundw
            case rel => exact ⟨k + 1, g', s', t', by omega, rfl, by go_num, HSIM'.out, hsn', H6.out⟩
            case measure => simp [intOf]; omega
    · skip
      obtain ⟨av, cv, r0, _, _, _, rl⟩ := hduo.ref
      rw [← hsim.b] at r0 rl
      have HLN : Hid (∀ W, Below wr.heap.size wr W → Calls Try.prog 19 #[.pointer (some ⟨g, 0, none⟩)] W fun e w' => e = .returned (.int .i64 (s.b.length : Int)) ∧ w' = W) := fun W hW => len_duo (hduo.next hW)
      have HS9 : Hid (∀ W, Below wr.heap.size wr W → Below wr.heap.size wr W ∧ W.cell? ⟨r, 0, none⟩ = some (.slice av s.b.length cv)) := fun W hW => ⟨hW, by rw [hW.cell (p := ⟨r, 0, none⟩) (World.block_lt_of_cell? wr _ r0)]; exact r0⟩
      have HB : Hid (Below w.heap.size w wr) := hduo.2
      clear hduo hsim r0
      by_cases b0 : ¬ (k < kl.length)
      · as_aux_lemma =>
          have f0 : decide ((k : Int) < (kl.length : Int)) = false := by simp; omega
          clear hall
          go_wp2
          refine wp_region_noPanic ?_
          refine wp_region_held (S := fun W => Below wr.heap.size wr W ∧ W.cell? ⟨r, 0, none⟩ = some (.slice av s.b.length cv)) (by kernel_rfl) ?_
          have hS := (show (fun W : World => Below wr.heap.size wr W ∧ W.cell? ⟨r, 0, none⟩ = some (.slice av s.b.length cv)) wr.drew from HS9.out _ (Below.refl _ _).drew)
          refine any_take 0 ?ve0n1 rfl (by kernel_rfl) (by kernel_rfl) (by kernel_rfl) (fun _ _ _ h => h) (by rfl) ?he0n1 hS ?_
          case he0n1 => (intro w hSw; (try dsimp only at hSw); go_split_ands; go_simp; (try with_reducible rfl))
          (try simp only [Act.put, List.setIfInBounds_toArray, List.set_cons_zero, List.set_cons_succ])
          refine any_take 2 ?ve0n2 rfl (by kernel_rfl) (by kernel_rfl) (by kernel_rfl) (fun _ _ _ h => h) (by rfl) ?he0n2 hS ?_
          case he0n2 => (intro w hSw; (try dsimp only at hSw); go_split_ands; go_simp; (try with_reducible rfl))
          (try simp only [Act.put, List.setIfInBounds_toArray, List.set_cons_zero, List.set_cons_succ])
          refine any_take 3 ?ve0n3 rfl (by kernel_rfl) (by kernel_rfl) (by kernel_rfl) (fun _ _ _ h => h) (by rfl) ?he0n3 hS ?_
          case he0n3 => (intro w hSw; (try dsimp only at hSw); go_split_ands; go_simp; (try with_reducible rfl))
          (try simp only [Act.put, List.setIfInBounds_toArray, List.set_cons_zero, List.set_cons_succ])
          refine any_take 4 ?ve0n4 rfl (by kernel_rfl) (by kernel_rfl) (by kernel_rfl) (fun _ _ _ h => h) (by rfl) ?he0n4 hS ?_
          case he0n4 => (intro w hSw; (try dsimp only at hSw); go_split_ands; go_simp; (try with_reducible rfl))
          (try simp only [Act.put, List.setIfInBounds_toArray, List.set_cons_zero, List.set_cons_succ])
          refine any_take 5 ?ve0n5 rfl (by kernel_rfl) (by kernel_rfl) (by kernel_rfl) (fun _ _ _ h => h) (by rfl) ?he0n5 hS ?_
          case he0n5 => (intro w hSw; (try dsimp only at hSw); go_split_ands; go_simp; (try with_reducible rfl))
          (try simp only [Act.put, List.setIfInBounds_toArray, List.set_cons_zero, List.set_cons_succ])
          refine any_take 6 ?ve0n6 rfl (by kernel_rfl) (by kernel_rfl) (by kernel_rfl) (fun _ _ _ h => h) (by rfl) ?he0n6 hS ?_
          case he0n6 => (intro w hSw; (try dsimp only at hSw); go_split_ands; go_simp; (try with_reducible rfl))
          (try simp only [Act.put, List.setIfInBounds_toArray, List.set_cons_zero, List.set_cons_succ])
          refine any_one 1 rfl (by kernel_rfl) (by rfl) (fun K hK => ?_)
          have hSS : (fun W : World => Below wr.heap.size wr W ∧ W.cell? ⟨r, 0, none⟩ = some (.slice av s.b.length cv)) _ := hS
          clear hS
          go_simp
          refine (HLN.out _ hSS.1).mono ?_
          rintro e w7 ⟨rfl, rfl⟩
          refine hK.out _ _ (hSS) (fun hS => ?_)
          clear hK
          (try simp only [Act.put, List.setIfInBounds_toArray, List.set_cons_zero, List.set_cons_succ])
          refine any_take 7 ?ve0n7 rfl (by kernel_rfl) (by kernel_rfl) (by kernel_rfl) (fun _ _ _ h => h) (by rfl) ?he0n7 hS ?_
          case he0n7 => (intro w hSw; (try dsimp only at hSw); go_split_ands; go_simp; (try with_reducible rfl))
          (try simp only [Act.put, List.setIfInBounds_toArray, List.set_cons_zero, List.set_cons_succ])
          refine any_take 8 ?ve0n8 rfl (by kernel_rfl) (by kernel_rfl) (by kernel_rfl) (fun _ _ _ h => h) (by rfl) ?he0n8 hS ?_
          case he0n8 => (intro w hSw; (try dsimp only at hSw); go_split_ands; go_simp; (try with_reducible rfl))
          (try simp only [Act.put, List.setIfInBounds_toArray, List.set_cons_zero, List.set_cons_succ])
          refine any_one 9 rfl (by kernel_rfl) (by rfl) (fun K hK => ?_)
          have hSS : (fun W : World => Below wr.heap.size wr W ∧ W.cell? ⟨r, 0, none⟩ = some (.slice av s.b.length cv)) _ := hS
          clear hS
          go_simp
          refine (awake_ok _).mono ?_
          rintro e w8 ⟨rfl, hb8⟩
          have hS8 := HS9.out w8 (hSS.1.trans (hb8.mono hSS.1.size))
          refine hK.out _ _ (hS8) (fun hS => ?_)
          clear hK
          (try simp only [Act.put, List.setIfInBounds_toArray, List.set_cons_zero, List.set_cons_succ])
          refine any_take 10 ?ve0n9 rfl (by kernel_rfl) (by kernel_rfl) (by kernel_rfl) (fun _ _ _ h => h) (by rfl) ?he0n9 hS ?_
          case he0n9 => (intro w hSw; (try dsimp only at hSw); go_split_ands; go_simp; (try with_reducible rfl))
          (try simp only [Act.put, List.setIfInBounds_toArray, List.set_cons_zero, List.set_cons_succ])
          refine any_take 11 ?ve0n10 rfl (by kernel_rfl) (by kernel_rfl) (by kernel_rfl) (fun _ _ _ h => h) (by rfl) ?he0n10 hS ?_
          case he0n10 => (intro w hSw; (try dsimp only at hSw); go_split_ands; go_simp; (try with_reducible rfl))
          (try simp only [Act.put, List.setIfInBounds_toArray, List.set_cons_zero, List.set_cons_succ])
          refine wpAnyH_done (by kernel_rfl) ?_ _
          refine NoPanic.normal ?_
          have HE : Hid (Below w.heap.size w w8) := HB.out.trans (hS.1.mono HB.out.size)
          clear hS HS9 HLN HB
          go_wp2
          go_ret
          exact ⟨rfl, HE.out⟩
      have f0 : decide ((k : Int) < (kl.length : Int)) = true := by simp; omega
      by_cases b1 : ¬ (k < al.length)
      · as_aux_lemma =>
          have f1 : decide ((k : Int) < (al.length : Int)) = false := by simp; omega
          clear hall
          go_wp2
          refine wp_region_noPanic ?_
          refine wp_region_held (S := fun W => Below wr.heap.size wr W ∧ W.cell? ⟨r, 0, none⟩ = some (.slice av s.b.length cv)) (by kernel_rfl) ?_
          have hS := (show (fun W : World => Below wr.heap.size wr W ∧ W.cell? ⟨r, 0, none⟩ = some (.slice av s.b.length cv)) wr.drew from HS9.out _ (Below.refl _ _).drew)
          refine any_take 0 ?ve1n1 rfl (by kernel_rfl) (by kernel_rfl) (by kernel_rfl) (fun _ _ _ h => h) (by rfl) ?he1n1 hS ?_
          case he1n1 => (intro w hSw; (try dsimp only at hSw); go_split_ands; go_simp; (try with_reducible rfl))
          (try simp only [Act.put, List.setIfInBounds_toArray, List.set_cons_zero, List.set_cons_succ])
          refine any_take 2 ?ve1n2 rfl (by kernel_rfl) (by kernel_rfl) (by kernel_rfl) (fun _ _ _ h => h) (by rfl) ?he1n2 hS ?_
          case he1n2 => (intro w hSw; (try dsimp only at hSw); go_split_ands; go_simp; (try with_reducible rfl))
          (try simp only [Act.put, List.setIfInBounds_toArray, List.set_cons_zero, List.set_cons_succ])
          refine any_take 3 ?ve1n3 rfl (by kernel_rfl) (by kernel_rfl) (by kernel_rfl) (fun _ _ _ h => h) (by rfl) ?he1n3 hS ?_
          case he1n3 => (intro w hSw; (try dsimp only at hSw); go_split_ands; go_simp; (try with_reducible rfl))
          (try simp only [Act.put, List.setIfInBounds_toArray, List.set_cons_zero, List.set_cons_succ])
          refine any_take 4 ?ve1n4 rfl (by kernel_rfl) (by kernel_rfl) (by kernel_rfl) (fun _ _ _ h => h) (by rfl) ?he1n4 hS ?_
          case he1n4 => (intro w hSw; (try dsimp only at hSw); go_split_ands; go_simp; (try with_reducible rfl))
          (try simp only [Act.put, List.setIfInBounds_toArray, List.set_cons_zero, List.set_cons_succ])
          refine any_take 5 ?ve1n5 rfl (by kernel_rfl) (by kernel_rfl) (by kernel_rfl) (fun _ _ _ h => h) (by rfl) ?he1n5 hS ?_
          case he1n5 => (intro w hSw; (try dsimp only at hSw); go_split_ands; go_simp; (try with_reducible rfl))
          (try simp only [Act.put, List.setIfInBounds_toArray, List.set_cons_zero, List.set_cons_succ])
          refine any_take 6 ?ve1n6 rfl (by kernel_rfl) (by kernel_rfl) (by kernel_rfl) (fun _ _ _ h => h) (by rfl) ?he1n6 hS ?_
          case he1n6 => (intro w hSw; (try dsimp only at hSw); go_split_ands; go_simp; (try with_reducible rfl))
          (try simp only [Act.put, List.setIfInBounds_toArray, List.set_cons_zero, List.set_cons_succ])
          refine any_one 1 rfl (by kernel_rfl) (by rfl) (fun K hK => ?_)
          have hSS : (fun W : World => Below wr.heap.size wr W ∧ W.cell? ⟨r, 0, none⟩ = some (.slice av s.b.length cv)) _ := hS
          clear hS
          go_simp
          refine (HLN.out _ hSS.1).mono ?_
          rintro e w7 ⟨rfl, rfl⟩
          refine hK.out _ _ (hSS) (fun hS => ?_)
          clear hK
          (try simp only [Act.put, List.setIfInBounds_toArray, List.set_cons_zero, List.set_cons_succ])
          refine any_take 7 ?ve1n7 rfl (by kernel_rfl) (by kernel_rfl) (by kernel_rfl) (fun _ _ _ h => h) (by rfl) ?he1n7 hS ?_
          case he1n7 => (intro w hSw; (try dsimp only at hSw); go_split_ands; go_simp; (try with_reducible rfl))
          (try simp only [Act.put, List.setIfInBounds_toArray, List.set_cons_zero, List.set_cons_succ])
          refine any_take 8 ?ve1n8 rfl (by kernel_rfl) (by kernel_rfl) (by kernel_rfl) (fun _ _ _ h => h) (by rfl) ?he1n8 hS ?_
          case he1n8 => (intro w hSw; (try dsimp only at hSw); go_split_ands; go_simp; (try with_reducible rfl))
          (try simp only [Act.put, List.setIfInBounds_toArray, List.set_cons_zero, List.set_cons_succ])
          refine any_one 9 rfl (by kernel_rfl) (by rfl) (fun K hK => ?_)
          have hSS : (fun W : World => Below wr.heap.size wr W ∧ W.cell? ⟨r, 0, none⟩ = some (.slice av s.b.length cv)) _ := hS
          clear hS
          go_simp
          refine (awake_ok _).mono ?_
          rintro e w8 ⟨rfl, hb8⟩
          have hS8 := HS9.out w8 (hSS.1.trans (hb8.mono hSS.1.size))
          refine hK.out _ _ (hS8) (fun hS => ?_)
          clear hK
          (try simp only [Act.put, List.setIfInBounds_toArray, List.set_cons_zero, List.set_cons_succ])
          refine any_take 10 ?ve1n9 rfl (by kernel_rfl) (by kernel_rfl) (by kernel_rfl) (fun _ _ _ h => h) (by rfl) ?he1n9 hS ?_
          case he1n9 => (intro w hSw; (try dsimp only at hSw); go_split_ands; go_simp; (try with_reducible rfl))
          (try simp only [Act.put, List.setIfInBounds_toArray, List.set_cons_zero, List.set_cons_succ])
          refine any_take 11 ?ve1n10 rfl (by kernel_rfl) (by kernel_rfl) (by kernel_rfl) (fun _ _ _ h => h) (by rfl) ?he1n10 hS ?_
          case he1n10 => (intro w hSw; (try dsimp only at hSw); go_split_ands; go_simp; (try with_reducible rfl))
          (try simp only [Act.put, List.setIfInBounds_toArray, List.set_cons_zero, List.set_cons_succ])
          refine wpAnyH_done (by kernel_rfl) ?_ _
          refine NoPanic.normal ?_
          have HE : Hid (Below w.heap.size w w8) := HB.out.trans (hS.1.mono HB.out.size)
          clear hS HS9 HLN HB
          go_wp2
          go_ret
          exact ⟨rfl, HE.out⟩
      have f1 : decide ((k : Int) < (al.length : Int)) = true := by simp; omega
      by_cases b2 : ¬ (k < bl.length)
      · as_aux_lemma =>
          have f2 : decide ((k : Int) < (bl.length : Int)) = false := by simp; omega
          clear hall
          go_wp2
          refine wp_region_noPanic ?_
          refine wp_region_held (S := fun W => Below wr.heap.size wr W ∧ W.cell? ⟨r, 0, none⟩ = some (.slice av s.b.length cv)) (by kernel_rfl) ?_
          have hS := (show (fun W : World => Below wr.heap.size wr W ∧ W.cell? ⟨r, 0, none⟩ = some (.slice av s.b.length cv)) wr.drew from HS9.out _ (Below.refl _ _).drew)
          refine any_take 0 ?ve2n1 rfl (by kernel_rfl) (by kernel_rfl) (by kernel_rfl) (fun _ _ _ h => h) (by rfl) ?he2n1 hS ?_
          case he2n1 => (intro w hSw; (try dsimp only at hSw); go_split_ands; go_simp; (try with_reducible rfl))
          (try simp only [Act.put, List.setIfInBounds_toArray, List.set_cons_zero, List.set_cons_succ])
          refine any_take 2 ?ve2n2 rfl (by kernel_rfl) (by kernel_rfl) (by kernel_rfl) (fun _ _ _ h => h) (by rfl) ?he2n2 hS ?_
          case he2n2 => (intro w hSw; (try dsimp only at hSw); go_split_ands; go_simp; (try with_reducible rfl))
          (try simp only [Act.put, List.setIfInBounds_toArray, List.set_cons_zero, List.set_cons_succ])
          refine any_take 3 ?ve2n3 rfl (by kernel_rfl) (by kernel_rfl) (by kernel_rfl) (fun _ _ _ h => h) (by rfl) ?he2n3 hS ?_
          case he2n3 => (intro w hSw; (try dsimp only at hSw); go_split_ands; go_simp; (try with_reducible rfl))
          (try simp only [Act.put, List.setIfInBounds_toArray, List.set_cons_zero, List.set_cons_succ])
          refine any_take 4 ?ve2n4 rfl (by kernel_rfl) (by kernel_rfl) (by kernel_rfl) (fun _ _ _ h => h) (by rfl) ?he2n4 hS ?_
          case he2n4 => (intro w hSw; (try dsimp only at hSw); go_split_ands; go_simp; (try with_reducible rfl))
          (try simp only [Act.put, List.setIfInBounds_toArray, List.set_cons_zero, List.set_cons_succ])
          refine any_take 5 ?ve2n5 rfl (by kernel_rfl) (by kernel_rfl) (by kernel_rfl) (fun _ _ _ h => h) (by rfl) ?he2n5 hS ?_
          case he2n5 => (intro w hSw; (try dsimp only at hSw); go_split_ands; go_simp; (try with_reducible rfl))
          (try simp only [Act.put, List.setIfInBounds_toArray, List.set_cons_zero, List.set_cons_succ])
          refine any_take 6 ?ve2n6 rfl (by kernel_rfl) (by kernel_rfl) (by kernel_rfl) (fun _ _ _ h => h) (by rfl) ?he2n6 hS ?_
          case he2n6 => (intro w hSw; (try dsimp only at hSw); go_split_ands; go_simp; (try with_reducible rfl))
          (try simp only [Act.put, List.setIfInBounds_toArray, List.set_cons_zero, List.set_cons_succ])
          refine any_one 1 rfl (by kernel_rfl) (by rfl) (fun K hK => ?_)
          have hSS : (fun W : World => Below wr.heap.size wr W ∧ W.cell? ⟨r, 0, none⟩ = some (.slice av s.b.length cv)) _ := hS
          clear hS
          go_simp
          refine (HLN.out _ hSS.1).mono ?_
          rintro e w7 ⟨rfl, rfl⟩
          refine hK.out _ _ (hSS) (fun hS => ?_)
          clear hK
          (try simp only [Act.put, List.setIfInBounds_toArray, List.set_cons_zero, List.set_cons_succ])
          refine any_take 7 ?ve2n7 rfl (by kernel_rfl) (by kernel_rfl) (by kernel_rfl) (fun _ _ _ h => h) (by rfl) ?he2n7 hS ?_
          case he2n7 => (intro w hSw; (try dsimp only at hSw); go_split_ands; go_simp; (try with_reducible rfl))
          (try simp only [Act.put, List.setIfInBounds_toArray, List.set_cons_zero, List.set_cons_succ])
          refine any_take 8 ?ve2n8 rfl (by kernel_rfl) (by kernel_rfl) (by kernel_rfl) (fun _ _ _ h => h) (by rfl) ?he2n8 hS ?_
          case he2n8 => (intro w hSw; (try dsimp only at hSw); go_split_ands; go_simp; (try with_reducible rfl))
          (try simp only [Act.put, List.setIfInBounds_toArray, List.set_cons_zero, List.set_cons_succ])
          refine any_one 9 rfl (by kernel_rfl) (by rfl) (fun K hK => ?_)
          have hSS : (fun W : World => Below wr.heap.size wr W ∧ W.cell? ⟨r, 0, none⟩ = some (.slice av s.b.length cv)) _ := hS
          clear hS
          go_simp
          refine (awake_ok _).mono ?_
          rintro e w8 ⟨rfl, hb8⟩
          have hS8 := HS9.out w8 (hSS.1.trans (hb8.mono hSS.1.size))
          refine hK.out _ _ (hS8) (fun hS => ?_)
          clear hK
          (try simp only [Act.put, List.setIfInBounds_toArray, List.set_cons_zero, List.set_cons_succ])
          refine any_take 10 ?ve2n9 rfl (by kernel_rfl) (by kernel_rfl) (by kernel_rfl) (fun _ _ _ h => h) (by rfl) ?he2n9 hS ?_
          case he2n9 => (intro w hSw; (try dsimp only at hSw); go_split_ands; go_simp; (try with_reducible rfl))
          (try simp only [Act.put, List.setIfInBounds_toArray, List.set_cons_zero, List.set_cons_succ])
          refine any_take 11 ?ve2n10 rfl (by kernel_rfl) (by kernel_rfl) (by kernel_rfl) (fun _ _ _ h => h) (by rfl) ?he2n10 hS ?_
          case he2n10 => (intro w hSw; (try dsimp only at hSw); go_split_ands; go_simp; (try with_reducible rfl))
          (try simp only [Act.put, List.setIfInBounds_toArray, List.set_cons_zero, List.set_cons_succ])
          refine wpAnyH_done (by kernel_rfl) ?_ _
          refine NoPanic.normal ?_
          have HE : Hid (Below w.heap.size w w8) := HB.out.trans (hS.1.mono HB.out.size)
          clear hS HS9 HLN HB
          go_wp2
          go_ret
          exact ⟨rfl, HE.out⟩
      have f2 : decide ((k : Int) < (bl.length : Int)) = true := by simp; omega
      by_cases b3 : ¬ (k < LL.length)
      · as_aux_lemma =>
          have f3 : decide ((k : Int) < (LL.length : Int)) = false := by simp; omega
          clear hall
          go_wp2
          refine wp_region_noPanic ?_
          refine wp_region_held (S := fun W => Below wr.heap.size wr W ∧ W.cell? ⟨r, 0, none⟩ = some (.slice av s.b.length cv)) (by kernel_rfl) ?_
          have hS := (show (fun W : World => Below wr.heap.size wr W ∧ W.cell? ⟨r, 0, none⟩ = some (.slice av s.b.length cv)) wr.drew from HS9.out _ (Below.refl _ _).drew)
          refine any_take 0 ?ve3n1 rfl (by kernel_rfl) (by kernel_rfl) (by kernel_rfl) (fun _ _ _ h => h) (by rfl) ?he3n1 hS ?_
          case he3n1 => (intro w hSw; (try dsimp only at hSw); go_split_ands; go_simp; (try with_reducible rfl))
          (try simp only [Act.put, List.setIfInBounds_toArray, List.set_cons_zero, List.set_cons_succ])
          refine any_take 2 ?ve3n2 rfl (by kernel_rfl) (by kernel_rfl) (by kernel_rfl) (fun _ _ _ h => h) (by rfl) ?he3n2 hS ?_
          case he3n2 => (intro w hSw; (try dsimp only at hSw); go_split_ands; go_simp; (try with_reducible rfl))
          (try simp only [Act.put, List.setIfInBounds_toArray, List.set_cons_zero, List.set_cons_succ])
          refine any_take 3 ?ve3n3 rfl (by kernel_rfl) (by kernel_rfl) (by kernel_rfl) (fun _ _ _ h => h) (by rfl) ?he3n3 hS ?_
          case he3n3 => (intro w hSw; (try dsimp only at hSw); go_split_ands; go_simp; (try with_reducible rfl))
          (try simp only [Act.put, List.setIfInBounds_toArray, List.set_cons_zero, List.set_cons_succ])
          refine any_take 4 ?ve3n4 rfl (by kernel_rfl) (by kernel_rfl) (by kernel_rfl) (fun _ _ _ h => h) (by rfl) ?he3n4 hS ?_
          case he3n4 => (intro w hSw; (try dsimp only at hSw); go_split_ands; go_simp; (try with_reducible rfl))
          (try simp only [Act.put, List.setIfInBounds_toArray, List.set_cons_zero, List.set_cons_succ])
          refine any_take 5 ?ve3n5 rfl (by kernel_rfl) (by kernel_rfl) (by kernel_rfl) (fun _ _ _ h => h) (by rfl) ?he3n5 hS ?_
          case he3n5 => (intro w hSw; (try dsimp only at hSw); go_split_ands; go_simp; (try with_reducible rfl))
          (try simp only [Act.put, List.setIfInBounds_toArray, List.set_cons_zero, List.set_cons_succ])
          refine any_take 6 ?ve3n6 rfl (by kernel_rfl) (by kernel_rfl) (by kernel_rfl) (fun _ _ _ h => h) (by rfl) ?he3n6 hS ?_
          case he3n6 => (intro w hSw; (try dsimp only at hSw); go_split_ands; go_simp; (try with_reducible rfl))
          (try simp only [Act.put, List.setIfInBounds_toArray, List.set_cons_zero, List.set_cons_succ])
          refine any_one 1 rfl (by kernel_rfl) (by rfl) (fun K hK => ?_)
          have hSS : (fun W : World => Below wr.heap.size wr W ∧ W.cell? ⟨r, 0, none⟩ = some (.slice av s.b.length cv)) _ := hS
          clear hS
          go_simp
          refine (HLN.out _ hSS.1).mono ?_
          rintro e w7 ⟨rfl, rfl⟩
          refine hK.out _ _ (hSS) (fun hS => ?_)
          clear hK
          (try simp only [Act.put, List.setIfInBounds_toArray, List.set_cons_zero, List.set_cons_succ])
          refine any_take 7 ?ve3n7 rfl (by kernel_rfl) (by kernel_rfl) (by kernel_rfl) (fun _ _ _ h => h) (by rfl) ?he3n7 hS ?_
          case he3n7 => (intro w hSw; (try dsimp only at hSw); go_split_ands; go_simp; (try with_reducible rfl))
          (try simp only [Act.put, List.setIfInBounds_toArray, List.set_cons_zero, List.set_cons_succ])
          refine any_take 8 ?ve3n8 rfl (by kernel_rfl) (by kernel_rfl) (by kernel_rfl) (fun _ _ _ h => h) (by rfl) ?he3n8 hS ?_
          case he3n8 => (intro w hSw; (try dsimp only at hSw); go_split_ands; go_simp; (try with_reducible rfl))
          (try simp only [Act.put, List.setIfInBounds_toArray, List.set_cons_zero, List.set_cons_succ])
          refine any_one 9 rfl (by kernel_rfl) (by rfl) (fun K hK => ?_)
          have hSS : (fun W : World => Below wr.heap.size wr W ∧ W.cell? ⟨r, 0, none⟩ = some (.slice av s.b.length cv)) _ := hS
          clear hS
          go_simp
          refine (awake_ok _).mono ?_
          rintro e w8 ⟨rfl, hb8⟩
          have hS8 := HS9.out w8 (hSS.1.trans (hb8.mono hSS.1.size))
          refine hK.out _ _ (hS8) (fun hS => ?_)
          clear hK
          (try simp only [Act.put, List.setIfInBounds_toArray, List.set_cons_zero, List.set_cons_succ])
          refine any_take 10 ?ve3n9 rfl (by kernel_rfl) (by kernel_rfl) (by kernel_rfl) (fun _ _ _ h => h) (by rfl) ?he3n9 hS ?_
          case he3n9 => (intro w hSw; (try dsimp only at hSw); go_split_ands; go_simp; (try with_reducible rfl))
          (try simp only [Act.put, List.setIfInBounds_toArray, List.set_cons_zero, List.set_cons_succ])
          refine any_take 11 ?ve3n10 rfl (by kernel_rfl) (by kernel_rfl) (by kernel_rfl) (fun _ _ _ h => h) (by rfl) ?he3n10 hS ?_
          case he3n10 => (intro w hSw; (try dsimp only at hSw); go_split_ands; go_simp; (try with_reducible rfl))
          (try simp only [Act.put, List.setIfInBounds_toArray, List.set_cons_zero, List.set_cons_succ])
          refine wpAnyH_done (by kernel_rfl) ?_ _
          refine NoPanic.normal ?_
          have HE : Hid (Below w.heap.size w w8) := HB.out.trans (hS.1.mono HB.out.size)
          clear hS HS9 HLN HB
          go_wp2
          go_ret
          exact ⟨rfl, HE.out⟩
      have f3 : decide ((k : Int) < (LL.length : Int)) = true := by simp; omega
      have f4 : decide ((k : Int) < 60) = false := by simp; omega
      clear hall
      as_aux_lemma =>
        go_wp2
        refine wp_region_noPanic ?_
        refine wp_region_held (S := fun W => Below wr.heap.size wr W ∧ W.cell? ⟨r, 0, none⟩ = some (.slice av s.b.length cv)) (by kernel_rfl) ?_
        have hS := (show (fun W : World => Below wr.heap.size wr W ∧ W.cell? ⟨r, 0, none⟩ = some (.slice av s.b.length cv)) wr.drew from HS9.out _ (Below.refl _ _).drew)
        refine any_take 0 ?ve4n1 rfl (by kernel_rfl) (by kernel_rfl) (by kernel_rfl) (fun _ _ _ h => h) (by rfl) ?he4n1 hS ?_
        case he4n1 => (intro w hSw; (try dsimp only at hSw); go_split_ands; go_simp; (try with_reducible rfl))
        (try simp only [Act.put, List.setIfInBounds_toArray, List.set_cons_zero, List.set_cons_succ])
        refine any_take 2 ?ve4n2 rfl (by kernel_rfl) (by kernel_rfl) (by kernel_rfl) (fun _ _ _ h => h) (by rfl) ?he4n2 hS ?_
        case he4n2 => (intro w hSw; (try dsimp only at hSw); go_split_ands; go_simp; (try with_reducible rfl))
        (try simp only [Act.put, List.setIfInBounds_toArray, List.set_cons_zero, List.set_cons_succ])
        refine any_take 3 ?ve4n3 rfl (by kernel_rfl) (by kernel_rfl) (by kernel_rfl) (fun _ _ _ h => h) (by rfl) ?he4n3 hS ?_
        case he4n3 => (intro w hSw; (try dsimp only at hSw); go_split_ands; go_simp; (try with_reducible rfl))
        (try simp only [Act.put, List.setIfInBounds_toArray, List.set_cons_zero, List.set_cons_succ])
        refine any_take 4 ?ve4n4 rfl (by kernel_rfl) (by kernel_rfl) (by kernel_rfl) (fun _ _ _ h => h) (by rfl) ?he4n4 hS ?_
        case he4n4 => (intro w hSw; (try dsimp only at hSw); go_split_ands; go_simp; (try with_reducible rfl))
        (try simp only [Act.put, List.setIfInBounds_toArray, List.set_cons_zero, List.set_cons_succ])
        refine any_take 5 ?ve4n5 rfl (by kernel_rfl) (by kernel_rfl) (by kernel_rfl) (fun _ _ _ h => h) (by rfl) ?he4n5 hS ?_
        case he4n5 => (intro w hSw; (try dsimp only at hSw); go_split_ands; go_simp; (try with_reducible rfl))
        (try simp only [Act.put, List.setIfInBounds_toArray, List.set_cons_zero, List.set_cons_succ])
        refine any_take 6 ?ve4n6 rfl (by kernel_rfl) (by kernel_rfl) (by kernel_rfl) (fun _ _ _ h => h) (by rfl) ?he4n6 hS ?_
        case he4n6 => (intro w hSw; (try dsimp only at hSw); go_split_ands; go_simp; (try with_reducible rfl))
        (try simp only [Act.put, List.setIfInBounds_toArray, List.set_cons_zero, List.set_cons_succ])
        refine any_one 1 rfl (by kernel_rfl) (by rfl) (fun K hK => ?_)
        have hSS : (fun W : World => Below wr.heap.size wr W ∧ W.cell? ⟨r, 0, none⟩ = some (.slice av s.b.length cv)) _ := hS
        clear hS
        go_simp
        refine (HLN.out _ hSS.1).mono ?_
        rintro e w7 ⟨rfl, rfl⟩
        refine hK.out _ _ (hSS) (fun hS => ?_)
        clear hK
        (try simp only [Act.put, List.setIfInBounds_toArray, List.set_cons_zero, List.set_cons_succ])
        refine any_take 7 ?ve4n7 rfl (by kernel_rfl) (by kernel_rfl) (by kernel_rfl) (fun _ _ _ h => h) (by rfl) ?he4n7 hS ?_
        case he4n7 => (intro w hSw; (try dsimp only at hSw); go_split_ands; go_simp; (try with_reducible rfl))
        (try simp only [Act.put, List.setIfInBounds_toArray, List.set_cons_zero, List.set_cons_succ])
        refine any_take 8 ?ve4n8 rfl (by kernel_rfl) (by kernel_rfl) (by kernel_rfl) (fun _ _ _ h => h) (by rfl) ?he4n8 hS ?_
        case he4n8 => (intro w hSw; (try dsimp only at hSw); go_split_ands; go_simp; (try with_reducible rfl))
        (try simp only [Act.put, List.setIfInBounds_toArray, List.set_cons_zero, List.set_cons_succ])
        refine any_one 9 rfl (by kernel_rfl) (by rfl) (fun K hK => ?_)
        have hSS : (fun W : World => Below wr.heap.size wr W ∧ W.cell? ⟨r, 0, none⟩ = some (.slice av s.b.length cv)) _ := hS
        clear hS
        go_simp
        refine (awake_ok _).mono ?_
        rintro e w8 ⟨rfl, hb8⟩
        have hS8 := HS9.out w8 (hSS.1.trans (hb8.mono hSS.1.size))
        refine hK.out _ _ (hS8) (fun hS => ?_)
        clear hK
        (try simp only [Act.put, List.setIfInBounds_toArray, List.set_cons_zero, List.set_cons_succ])
        refine any_take 10 ?ve4n9 rfl (by kernel_rfl) (by kernel_rfl) (by kernel_rfl) (fun _ _ _ h => h) (by rfl) ?he4n9 hS ?_
        case he4n9 => (intro w hSw; (try dsimp only at hSw); go_split_ands; go_simp; (try with_reducible rfl))
        (try simp only [Act.put, List.setIfInBounds_toArray, List.set_cons_zero, List.set_cons_succ])
        refine any_take 11 ?ve4n10 rfl (by kernel_rfl) (by kernel_rfl) (by kernel_rfl) (fun _ _ _ h => h) (by rfl) ?he4n10 hS ?_
        case he4n10 => (intro w hSw; (try dsimp only at hSw); go_split_ands; go_simp; (try with_reducible rfl))
        (try simp only [Act.put, List.setIfInBounds_toArray, List.set_cons_zero, List.set_cons_succ])
        refine wpAnyH_done (by kernel_rfl) ?_ _
        refine NoPanic.normal ?_
        have HE : Hid (Below w.heap.size w w8) := HB.out.trans (hS.1.mono HB.out.size)
        clear hS HS9 HLN HB
        go_wp2
        go_ret
        exact ⟨rfl, HE.out⟩
end Go.Proofs.Ythgfapnndobhbaa
