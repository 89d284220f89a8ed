/-
  The walk of ReserveOnce.
-/
import Derived.Test.YtjmbioedpghopaaResK
namespace Go.Proofs.Ytjmbioedpghopaa
open Go.ChangeShapes Go.WideShapes Go.ChangeAt Go.RowKit

set_option maxHeartbeats 32000000 in
set_option maxRecDepth 20000 in
theorem once_walk (x0 : Int) (a1 : Option Addr) (c1 : Nat) (kl : List UInt8) (a2 : Option Addr) (c2 : Nat) (nl : List Int) (a3 : Option Addr) (c3 : Nat) (sl : List UInt8) (a4 : Option Addr) (c4 : Nat) (tl : List UInt8) (w : World) (w0 : (Lit.int .u8 x0).wf = true)
    (s1 : Sees w a1 c1 kl) (_m1 : c1 ≤ 140737488351232) (s2 : Nums .u16 w a2 c2 nl) (s3 : Sees w a3 c3 sl) (_m3 : c3 ≤ 140737488351232) (s4 : Sees w a4 c4 tl) (_m4 : c4 ≤ 140737488351232) :
    Calls Try.prog 4 #[.int .u8 x0, .slice a1 kl.length c1, .slice a2 nl.length c2, .slice a3 sl.length c3, .slice a4 tl.length c4] w fun e w' => e = .returned (.bool true) ∧ Below w.heap.size w w' := by
  have b0 : 0 ≤ x0 ∧ x0 < 256 := bounds_u8 w0
  obtain ⟨q, hq⟩ : ∃ q : Nat, (q : Int) = x0 % 20 := ⟨(x0 % 20).toNat, by omega⟩
  have hq20 : q < 20 := by omega
  have e0 : x0.tmod 20 = (q : Int) := by rw [Int.tmod_eq_emod_of_nonneg (by omega)]; omega
  have e0' : x0 % 20 = (q : Int) := hq.symm
  obtain ⟨blk, hblk⟩ : ∃ blk, blk = 1 + q := ⟨_, rfl⟩
  have e1 : (1 : Int) + (q : Int) = (blk : Int) := by omega
  have wb : IntKind.i64.wrap (blk : Int) = (blk : Int) := by rw [IntKind.wrap_i64]; omega
  have hb1 : 1 ≤ blk := by omega
  have hb2 : blk ≤ 1024 := by omega
  have H1 : Hid (Sees w a1 c1 kl) := s1
  have H2 : Hid (Nums .u16 w a2 c2 nl) := s2
  have H3 : Hid (Sees w a3 c3 sl) := s3
  have H4 : Hid (Sees w a4 c4 tl) := s4
  have l1 : kl.length ≤ 9223372036854775807 := by have := s1.fits; have := s1.room; unfold maxLen at this; omega
  have l2 := s2.len
  have l3 : sl.length ≤ 9223372036854775807 := by have := s3.fits; have := s3.room; unfold maxLen at this; omega
  have l4 : tl.length ≤ 9223372036854775807 := by have := s4.fits; have := s4.room; unfold maxLen at this; omega
  have hn : Calls Try.prog 7 #[.int .i64 64] w _ := new_held w 64 (by omega)
  clear s1 s2 s3 s4 w0 b0 hq hblk _m1 _m3 _m4
  go_enter Try.func4, Try.ntmps4
  go_wp2_with fail
  refine hn.mono ?_
  rintro e w1 ⟨g, rfl, hh⟩
  obtain ⟨o1, o2⟩ := open_new blk hb1 hb2
  have ko := open_lone hh (by simp [newS]) (blk : Int) o1 ⟨blk, 0, 0, 0, false⟩ o2.symm
  clear hn hh o1 o2
  go_wp2_with fail
  refine ko.mono ?_
  rintro e w2 ⟨R0, rfl, hL⟩
  clear ko
  have HL0 : Hid (Kin w w2 g R0 (newS 64) ⟨blk, 0, 0, 0, false⟩ none 0 []) := Kin.of hL
  clear hL
  go_wp2
  go_loopw [14, 16, 17, 18] (fun ur ut ul ui wr => ∃ (k R last : Nat) (s : PS) (v : VS) (a : Option Addr) (c : Nat) (l : List Nat), k ≤ 60 ∧ ui = .int .i64 (k : Int) ∧ ur = .pointer (some ⟨R, 0, none⟩) ∧ ul = .int .i64 (last : Int) ∧ ut = .slice a l.length c ∧ l.length ≤ k ∧ Once k s v l last ∧ Kin w wr g R s v a c l) (fun _ _ _ ui _ => 60 - (intOf ui).toNat)
  case atStart => exact ⟨0, R0, 0, newS 64, _, none, 0, [], by omega, rfl, rfl, rfl, rfl, by simp, once_new blk hb1 hb2, HL0.out⟩
  case round =>
    obtain ⟨k, R, last, s, v, a, c, l, hk, rfl, rfl, rfl, rfl, hll, ho, hq⟩ := hrel
    clear HL0
    have g0 : (0 : Int) ≤ (k : Int) := Int.natCast_nonneg _
    by_cases hall : k < kl.length ∧ k < nl.length ∧ k < sl.length ∧ k < tl.length ∧ k < 60
    · obtain ⟨k1, k2, k3, k4, k5⟩ := hall
      obtain ⟨xk, hxk⟩ : ∃ z, kl[k]? = some z := ⟨kl[k], by simp [k1]⟩
      obtain ⟨zi, hz⟩ : ∃ z, nl[k]? = some z := ⟨nl[k], by simp [k2]⟩
      obtain ⟨xs, hxs⟩ : ∃ z, sl[k]? = some z := ⟨sl[k], by simp [k3]⟩
      obtain ⟨xt, hxt⟩ : ∃ z, tl[k]? = some z := ⟨tl[k], by simp [k4]⟩
      obtain ⟨kb, kof, rfl, ck⟩ := H1.out.at' (by rintro rfl; simp at hxk)
      obtain ⟨nb, no, rfl, cz⟩ := H2.out.get hz
      obtain ⟨sb, so, rfl, cs⟩ := H3.out.at' (by rintro rfl; simp at hxs)
      obtain ⟨tb, to, rfl, ct⟩ := H4.out.at' (by rintro rfl; simp at hxt)
      replace ck := ck k xk hxk
      replace cs := cs k xs hxs
      replace ct := ct k xt hxt
      have hwz := bounds_u16 (H2.out.wf zi (List.mem_of_getElem? hz))
      obtain ⟨z, rfl⟩ : ∃ z : Nat, zi = (z : Int) := ⟨zi.toNat, by omega⟩
      have hz2 : z < 65536 := by omega
      obtain ⟨kk, hkk⟩ : ∃ kk, kk = xk.toNat := ⟨_, rfl⟩
      obtain ⟨ks, hks⟩ : ∃ ks, ks = xs.toNat := ⟨_, rfl⟩
      obtain ⟨kt, hkt⟩ : ∃ kt, kt = xt.toNat := ⟨_, rfl⟩
      have bk : kk < 256 := by rw [hkk]; exact xk.toNat_lt
      have bs : ks < 256 := by rw [hks]; exact xs.toNat_lt
      have bt : kt < 256 := by rw [hkt]; exact xt.toNat_lt
      have ck' : w.cell? ⟨kb, kof + k, none⟩ = some (.int .u8 (kk : Int)) := by rw [hkk]; exact ck
      have cs' : w.cell? ⟨sb, so + k, none⟩ = some (.int .u8 (ks : Int)) := by rw [hks]; exact cs
      have ct' : w.cell? ⟨tb, to + k, none⟩ = some (.int .u8 (kt : Int)) := by rw [hkt]; exact ct
      have HSK : Hid (∀ W, Below w.heap.size w W → W.cell? ⟨sb, so + k, none⟩ = some (.int .u8 (ks : Int)) ∧ W.cell? ⟨tb, to + k, none⟩ = some (.int .u8 (kt : Int)) ∧ W.cell? ⟨kb, kof + k, none⟩ = some (.int .u8 (kk : Int)) ∧ W.cell? ⟨nb, no + k, none⟩ = some (.int .u16 (z : Int))) := fun W hW =>
        ⟨by rw [hW.cell (p := ⟨sb, so + k, none⟩) (World.block_lt_of_cell? w _ cs')]; exact cs', by rw [hW.cell (p := ⟨tb, to + k, none⟩) (World.block_lt_of_cell? w _ ct')]; exact ct', by rw [hW.cell (p := ⟨kb, kof + k, none⟩) (World.block_lt_of_cell? w _ ck')]; exact ck', by rw [hW.cell (p := ⟨nb, no + k, none⟩) (World.block_lt_of_cell? w _ cz)]; exact cz⟩
      have t1 : decide ((k : Int) < (kl.length : Int)) = true := by simp; omega
      have t2 : decide ((k : Int) < (nl.length : Int)) = true := by simp; omega
      have t3 : decide ((k : Int) < (sl.length : Int)) = true := by simp; omega
      have t4 : decide ((k : Int) < (tl.length : Int)) = true := by simp; omega
      have t5 : decide ((k : Int) < 60) = true := by simp; omega
      have i1 : (k : Int) < (kl.length : Int) := by omega
      have i2 : (k : Int) < (nl.length : Int) := by omega
      have i3 : (k : Int) < (sl.length : Int) := by omega
      have i4 : (k : Int) < (tl.length : Int) := by omega
      obtain ⟨ZS, hZS⟩ : ∃ ZS : Int, ZS = (ks : Int) - 1 := ⟨_, rfl⟩
      have eZ : (ks : Int) - 1 = ZS := hZS.symm
      have wZ : IntKind.i64.wrap ZS = ZS := by rw [IntKind.wrap_i64]; omega
      have wS : IntKind.i64.wrap (ks : Int) = (ks : Int) := by rw [IntKind.wrap_i64]; omega
      have wT : IntKind.i64.wrap (kt : Int) = (kt : Int) := by rw [IntKind.wrap_i64]; omega
      have wz : IntKind.i64.wrap (z : Int) = (z : Int) := by rw [IntKind.wrap_i64]; omega
      have hfZ : (Lit.int .i64 ZS).wf = true := by simp [Lit.wf, IntKind.min, IntKind.max, IntKind.signed, IntKind.bits]; omega
      obtain ⟨KD, hKD⟩ : ∃ KD, KD = kk % 4 := ⟨_, rfl⟩
      have hK4 : KD < 4 := by omega
      have m1 : ((kk : Int)).tmod 4 = (KD : Int) := by rw [Int.tmod_eq_emod_of_nonneg (by omega)]; omega
      have m2 : ((kk : Int)) % 4 = (KD : Int) := by omega
      obtain ⟨s2, hs2⟩ : ∃ s2, s2 = tearS s ZS (kt : Int) := ⟨_, rfl⟩
      have ho2 : Once k s2 v l last := by rw [hs2]; exact ho.tear _ _
      have HP : Hid (Calls Try.prog 14 #[.pointer (some ⟨g, 0, none⟩), .int .i64 ZS, .int .i64 (kt : Int)] wr.drew fun e w' => (∃ z, e = .returned z) ∧ Kin w w' g R s2 v a c l) := tear_kin hq.drew ZS (kt : Int) hfZ (wf_small kt (by omega)) s2 hs2
      have HQU : Hid (Kin w wr g R s v a c l) := hq
      have HO : Hid (Once k s2 v l last) := ho2
      clear hxk hz hxs hxt ck cz cs ct hwz hkk hks hkt ck' cs' ct' hZS hfZ hKD ho hs2 ho2 hq H1 H2 H3 H4
      go_wp2
      refine wp_region_noPanic ?_
      refine wp_region_held (S := fun W => W.cell? ⟨sb, so + k, none⟩ = some (.int .u8 (ks : Int)) ∧ W.cell? ⟨tb, to + k, none⟩ = some (.int .u8 (kt : Int))) (by kernel_rfl) ?_
      have hS := (show (fun W => W.cell? ⟨sb, so + k, none⟩ = some (.int .u8 (ks : Int)) ∧ W.cell? ⟨tb, to + k, none⟩ = some (.int .u8 (kt : Int))) wr.drew from ⟨(HSK.out _ HQU.out.low.drew).1, (HSK.out _ HQU.out.low.drew).2.1⟩)
      refine any_take 0 ?vran1 rfl (by kernel_rfl) (by kernel_rfl) (by kernel_rfl) (fun _ _ _ h => h) (by rfl) ?hran1 hS ?_
      case hran1 => (intro w hSw; (try dsimp only at hSw); go_split_ands; go_simp; (try with_reducible rfl))
      (try simp only [Act.put, List.setIfInBounds_toArray, List.set_cons_zero, List.set_cons_succ])
      refine any_take 1 ?vran2 rfl (by kernel_rfl) (by kernel_rfl) (by kernel_rfl) (fun _ _ _ h => h) (by rfl) ?hran2 hS ?_
      case hran2 => (intro w hSw; (try dsimp only at hSw); go_split_ands; go_simp; (try with_reducible rfl))
      (try simp only [Act.put, List.setIfInBounds_toArray, List.set_cons_zero, List.set_cons_succ])
      refine any_take 2 ?vran3 rfl (by kernel_rfl) (by kernel_rfl) (by kernel_rfl) (fun _ _ _ h => h) (by rfl) ?hran3 hS ?_
      case hran3 => (intro w hSw; (try dsimp only at hSw); go_split_ands; go_simp; (try with_reducible rfl))
      (try simp only [Act.put, List.setIfInBounds_toArray, List.set_cons_zero, List.set_cons_succ])
      refine any_take 3 ?vran4 rfl (by kernel_rfl) (by kernel_rfl) (by kernel_rfl) (fun _ _ _ h => h) (by rfl) ?hran4 hS ?_
      case hran4 => (intro w hSw; (try dsimp only at hSw); go_split_ands; go_simp; (try with_reducible rfl))
      (try simp only [Act.put, List.setIfInBounds_toArray, List.set_cons_zero, List.set_cons_succ])
      refine any_take 4 ?vran5 rfl (by kernel_rfl) (by kernel_rfl) (by kernel_rfl) (fun _ _ _ h => h) (by rfl) ?hran5 hS ?_
      case hran5 => (intro w hSw; (try dsimp only at hSw); go_split_ands; go_simp; (try with_reducible rfl))
      (try simp only [Act.put, List.setIfInBounds_toArray, List.set_cons_zero, List.set_cons_succ])
      refine any_take 5 ?vran6 rfl (by kernel_rfl) (by kernel_rfl) (by kernel_rfl) (fun _ _ _ h => h) (by rfl) ?hran6 hS ?_
      case hran6 => (intro w hSw; (try dsimp only at hSw); go_split_ands; go_simp; (try with_reducible rfl))
      (try simp only [Act.put, List.setIfInBounds_toArray, List.set_cons_zero, List.set_cons_succ])
      refine any_take 6 ?vran7 rfl (by kernel_rfl) (by kernel_rfl) (by kernel_rfl) (fun _ _ _ h => h) (by rfl) ?hran7 hS ?_
      case hran7 => (intro w hSw; (try dsimp only at hSw); go_split_ands; go_simp; (try with_reducible rfl))
      (try simp only [Act.put, List.setIfInBounds_toArray, List.set_cons_zero, List.set_cons_succ])
      refine any_take 7 ?vran8 rfl (by kernel_rfl) (by kernel_rfl) (by kernel_rfl) (fun _ _ _ h => h) (by rfl) ?hran8 hS ?_
      case hran8 => (intro w hSw; (try dsimp only at hSw); go_split_ands; go_simp; (try with_reducible rfl))
      (try simp only [Act.put, List.setIfInBounds_toArray, List.set_cons_zero, List.set_cons_succ])
      refine any_take 8 ?vran9 rfl (by kernel_rfl) (by kernel_rfl) (by kernel_rfl) (fun _ _ _ h => h) (by rfl) ?hran9 hS ?_
      case hran9 => (intro w hSw; (try dsimp only at hSw); go_split_ands; go_simp; (try with_reducible rfl))
      (try simp only [Act.put, List.setIfInBounds_toArray, List.set_cons_zero, List.set_cons_succ])
      refine any_take 9 ?vran10 rfl (by kernel_rfl) (by kernel_rfl) (by kernel_rfl) (fun _ _ _ h => h) (by rfl) ?hran10 hS ?_
      case hran10 => (intro w hSw; (try dsimp only at hSw); go_split_ands; go_simp; (try with_reducible rfl))
      (try simp only [Act.put, List.setIfInBounds_toArray, List.set_cons_zero, List.set_cons_succ])
      refine any_take 10 ?vran11 rfl (by kernel_rfl) (by kernel_rfl) (by kernel_rfl) (fun _ _ _ h => h) (by rfl) ?hran11 hS ?_
      case hran11 => (intro w hSw; (try dsimp only at hSw); go_split_ands; go_simp; (try with_reducible rfl))
      (try simp only [Act.put, List.setIfInBounds_toArray, List.set_cons_zero, List.set_cons_succ])
      refine any_take 11 ?vran12 rfl (by kernel_rfl) (by kernel_rfl) (by kernel_rfl) (fun _ _ _ h => h) (by rfl) ?hran12 hS ?_
      case hran12 => (intro w hSw; (try dsimp only at hSw); go_split_ands; go_simp; (try with_reducible rfl))
      (try simp only [Act.put, List.setIfInBounds_toArray, List.set_cons_zero, List.set_cons_succ])
      refine any_one 12 rfl (by kernel_rfl) (by rfl) (fun K hK => ?_)
      clear hS
      go_simp
      refine HP.out.mono ?_
      rintro e wa ⟨⟨va, rfl⟩, hqa⟩
      clear HP
      refine hK.out _ _ (⟨(HSK.out _ hqa.low).1, (HSK.out _ hqa.low).2.1⟩) (fun hS => ?_)
      clear hK
      (try simp only [Act.put, List.setIfInBounds_toArray, List.set_cons_zero, List.set_cons_succ])
      refine wpAnyH_done (by kernel_rfl) ?_ _
      refine NoPanic.normal ?_
      have HQA : Hid (Kin w wa g R s2 v a c l) := hqa
      clear hS hqa HQU
      obtain ⟨_, _, ck, cn⟩ := HSK.out wa HQA.out.low
      clear HSK
      have hcase : KD = 0 ∨ KD = 1 ∨ KD = 2 ∨ KD = 3 := by omega
      rcases hcase with rfl | rfl | rfl | rfl
      · have hokv := HO.out.ok
        obtain ⟨e0, he0⟩ : ∃ e0, e0 = saveE s2 0 12 (recL v.inc (newM v z)) := ⟨_, rfl⟩
        obtain ⟨s0, hs0⟩ : ∃ s0, s0 = saveS s2 0 12 (recL v.inc (newM v z)) := ⟨_, rfl⟩
        obtain ⟨E, hE⟩ : ∃ E, E = tkE v (z : Int) e0 := ⟨_, rfl⟩
        obtain ⟨S, hS⟩ : ∃ S, S = tkS v (z : Int) s2 s0 := ⟨_, rfl⟩
        obtain ⟨V, hV⟩ : ∃ V, V = tkV v (z : Int) e0 := ⟨_, rfl⟩
        obtain ⟨ht1, ht2⟩ := HO.out.take (by omega) z (by omega) e0 he0 s0 hs0 E hE S hS V hV
        have kt := take_kin HQA.out hokv (by have := HO.out.n; omega) (z : Int) (wf_small z (by omega)) e0 he0 s0 hs0 E hE S hS V hV
        rw [show (((0 : Nat) : Int)) = 0 from rfl] at m1 m2
        have HT : Hid ((E = 0 → Once (k + 1) S V (l ++ [z]) last ∧ ∀ x ∈ l, x ≠ z) ∧ (E ≠ 0 → Once (k + 1) S V l last)) := ⟨ht1, ht2⟩
        clear he0 hs0 hE hS hV ht1 ht2 hokv HQA HO hK4
        go_wp2_with fail
        refine kt.mono ?_
        rintro e wc ⟨rfl, hqc⟩
        have HQC : Hid (Kin w wc g R S V a c l) := hqc
        clear kt hqc ck cn
        by_cases hE0 : E = 0
        · subst hE0
          obtain ⟨hon, hnew⟩ := HT.out.1 rfl
          have HON : Hid (Once (k + 1) S V (l ++ [z]) last) := hon
          have HNEW : Hid (∀ x ∈ l, x ≠ z) := hnew
          have lN : l.length ≤ 9223372036854775807 := by omega
          have HNU : Hid (Nums .i64 wc a c (numsOf l)) := HQC.out.nums
          rw [show ((0 : Nat) : Int) = 0 from rfl]
          clear hon hnew HT
          go_wp2
          go_loopw [20] (fun uj wj => ∃ j : Nat, j ≤ l.length ∧ uj = .int .i64 (j : Int) ∧ wc = wj) (fun uj _ => l.length - (intOf uj).toNat)
          case atStart => exact ⟨0, by omega, rfl, rfl⟩
          case round =>
            obtain ⟨j, hj, rfl, rfl⟩ := hrel
            have gj : (0 : Int) ≤ (j : Int) := Int.natCast_nonneg _
            by_cases hlt : j < l.length
            · obtain ⟨y, hy⟩ : ∃ y, l[j]? = some y := ⟨l[j], by simp [hlt]⟩
              have hyz : y ≠ z := HNEW.out y (List.mem_of_getElem? hy)
              obtain ⟨qb, qo, rfl, cy⟩ := HNU.out.get (i := j) (z := (y : Int)) (by simp [numsOf, hy])
              have d1 : ((y : Int) == (z : Int)) = false := by simp; omega
              have d2 : ¬ (y : Int) = (z : Int) := by omega
              have u1 : decide ((j : Int) < (l.length : Int)) = true := by simp; omega
              have u2 : (j : Int) < (l.length : Int) := by omega
              clear hy HNEW HNU HON HQC
              go_wp2
              go_roundw
              case rel => exact ⟨j + 1, by omega, by go_num, trivial⟩
              case measure => simp [intOf]; omega
            · have u1 : decide ((j : Int) < (l.length : Int)) = false := by simp; omega
              obtain ⟨a', c', w', hrun, hkin⟩ := HQC.out.push (by omega) z (by omega)
              obtain ⟨l', hl'⟩ : ∃ l', l' = l ++ [z] := ⟨_, rfl⟩
              have HLL : Hid (l'.length ≤ k + 1) := by show l'.length ≤ k + 1; rw [hl']; simp; omega
              rw [← hl'] at hrun hkin HON
              have HA : Hid ((Builtin.append_ #[23, 23] 23 #[.slice a l.length c, .slice (some ⟨wc.heap.size, 0, none⟩) 1 1]).run Try.prog (wc.alloc (.cells #[.int .i64 (z : Int)] 3)) = .ok (.slice a' l'.length c') w') := hrun
              have HK2 : Hid (Kin w w' g R S V a' c' l') := hkin
              clear hrun hkin hl' HNEW HNU HQC
              go_wp2_with (at_builtin; refine wpList_append_run rfl _ _ 23 rfl _ _ _ rfl rfl HA.out ?_)
              go_roundw
              case rel => exact ⟨k + 1, R, last, S, V, a', c', l', by omega, by go_num, rfl, rfl, rfl, HLL.out, HON.out, HK2.out⟩
              case measure => simp [intOf]; omega
        · have f0 : ((E : Int) == 0) = false := by simp; omega
          have f1 : ¬ (E : Int) = 0 := by omega
          have HON : Hid (Once (k + 1) S V l last) := HT.out.2 hE0
          clear HT hE0
          go_wp2
          go_roundw
          case rel => exact ⟨k + 1, R, last, S, V, a, c, l, by omega, by go_num, rfl, rfl, rfl, by omega, HON.out, HQC.out⟩
          case measure => simp [intOf]; omega
      · have hokv := HO.out.ok
        obtain ⟨e0, he0⟩ : ∃ e0, e0 = saveE s2 0 12 (recL v.inc (newM v z)) := ⟨_, rfl⟩
        obtain ⟨s0, hs0⟩ : ∃ s0, s0 = saveS s2 0 12 (recL v.inc (newM v z)) := ⟨_, rfl⟩
        obtain ⟨E, hE⟩ : ∃ E, E = tkE v (z : Int) e0 := ⟨_, rfl⟩
        obtain ⟨S, hS⟩ : ∃ S, S = tkS v (z : Int) s2 s0 := ⟨_, rfl⟩
        obtain ⟨V, hV⟩ : ∃ V, V = tkV v (z : Int) e0 := ⟨_, rfl⟩
        obtain ⟨ht1, ht2⟩ := HO.out.take (by omega) z (by omega) e0 he0 s0 hs0 E hE S hS V hV
        have kt := take_kin HQA.out hokv (by have := HO.out.n; omega) (z : Int) (wf_small z (by omega)) e0 he0 s0 hs0 E hE S hS V hV
        rw [show (((1 : Nat) : Int)) = 1 from rfl] at m1 m2
        have HT : Hid ((E = 0 → Once (k + 1) S V (l ++ [z]) last ∧ ∀ x ∈ l, x ≠ z) ∧ (E ≠ 0 → Once (k + 1) S V l last)) := ⟨ht1, ht2⟩
        clear he0 hs0 hE hS hV ht1 ht2 hokv HQA HO hK4
        go_wp2_with fail
        refine kt.mono ?_
        rintro e wc ⟨rfl, hqc⟩
        have HQC : Hid (Kin w wc g R S V a c l) := hqc
        clear kt hqc ck cn
        by_cases hE0 : E = 0
        · subst hE0
          obtain ⟨hon, hnew⟩ := HT.out.1 rfl
          have HON : Hid (Once (k + 1) S V (l ++ [z]) last) := hon
          have HNEW : Hid (∀ x ∈ l, x ≠ z) := hnew
          have lN : l.length ≤ 9223372036854775807 := by omega
          have HNU : Hid (Nums .i64 wc a c (numsOf l)) := HQC.out.nums
          rw [show ((0 : Nat) : Int) = 0 from rfl]
          clear hon hnew HT
          go_wp2
          go_loopw [20] (fun uj wj => ∃ j : Nat, j ≤ l.length ∧ uj = .int .i64 (j : Int) ∧ wc = wj) (fun uj _ => l.length - (intOf uj).toNat)
          case atStart => exact ⟨0, by omega, rfl, rfl⟩
          case round =>
            obtain ⟨j, hj, rfl, rfl⟩ := hrel
            have gj : (0 : Int) ≤ (j : Int) := Int.natCast_nonneg _
            by_cases hlt : j < l.length
            · obtain ⟨y, hy⟩ : ∃ y, l[j]? = some y := ⟨l[j], by simp [hlt]⟩
              have hyz : y ≠ z := HNEW.out y (List.mem_of_getElem? hy)
              obtain ⟨qb, qo, rfl, cy⟩ := HNU.out.get (i := j) (z := (y : Int)) (by simp [numsOf, hy])
              have d1 : ((y : Int) == (z : Int)) = false := by simp; omega
              have d2 : ¬ (y : Int) = (z : Int) := by omega
              have u1 : decide ((j : Int) < (l.length : Int)) = true := by simp; omega
              have u2 : (j : Int) < (l.length : Int) := by omega
              clear hy HNEW HNU HON HQC
              go_wp2
              go_roundw
              case rel => exact ⟨j + 1, by omega, by go_num, trivial⟩
              case measure => simp [intOf]; omega
            · have u1 : decide ((j : Int) < (l.length : Int)) = false := by simp; omega
              obtain ⟨a', c', w', hrun, hkin⟩ := HQC.out.push (by omega) z (by omega)
              obtain ⟨l', hl'⟩ : ∃ l', l' = l ++ [z] := ⟨_, rfl⟩
              have HLL : Hid (l'.length ≤ k + 1) := by show l'.length ≤ k + 1; rw [hl']; simp; omega
              rw [← hl'] at hrun hkin HON
              have HA : Hid ((Builtin.append_ #[23, 23] 23 #[.slice a l.length c, .slice (some ⟨wc.heap.size, 0, none⟩) 1 1]).run Try.prog (wc.alloc (.cells #[.int .i64 (z : Int)] 3)) = .ok (.slice a' l'.length c') w') := hrun
              have HK2 : Hid (Kin w w' g R S V a' c' l') := hkin
              clear hrun hkin hl' HNEW HNU HQC
              go_wp2_with (at_builtin; refine wpList_append_run rfl _ _ 23 rfl _ _ _ rfl rfl HA.out ?_)
              go_roundw
              case rel => exact ⟨k + 1, R, last, S, V, a', c', l', by omega, by go_num, rfl, rfl, rfl, HLL.out, HON.out, HK2.out⟩
              case measure => simp [intOf]; omega
        · have f0 : ((E : Int) == 0) = false := by simp; omega
          have f1 : ¬ (E : Int) = 0 := by omega
          have HON : Hid (Once (k + 1) S V l last) := HT.out.2 hE0
          clear HT hE0
          go_wp2
          go_roundw
          case rel => exact ⟨k + 1, R, last, S, V, a, c, l, by omega, by go_num, rfl, rfl, rfl, by omega, HON.out, HQC.out⟩
          case measure => simp [intOf]; omega
      · have hokv := HO.out.ok
        obtain ⟨e0, he0⟩ : ∃ e0, e0 = saveE s2 0 12 (recL (v.inc + 1) v.mark) := ⟨_, rfl⟩
        obtain ⟨s0, hs0⟩ : ∃ s0, s0 = saveS s2 0 12 (recL (v.inc + 1) v.mark) := ⟨_, rfl⟩
        obtain ⟨E, hE⟩ : ∃ E, E = bnE v e0 := ⟨_, rfl⟩
        obtain ⟨S, hS⟩ : ∃ S, S = bnS v s2 s0 := ⟨_, rfl⟩
        obtain ⟨V, hV⟩ : ∃ V, V = bnV v e0 := ⟨_, rfl⟩
        obtain ⟨ht1, ht2⟩ := HO.out.birth (by omega) e0 he0 s0 hs0 E hE S hS V hV
        have kt := born_kin HQA.out hokv (by have := HO.out.n; omega) e0 he0 s0 hs0 E hE S hS V hV
        rw [show (((2 : Nat) : Int)) = 2 from rfl] at m1 m2
        have HT : Hid ((E = 0 → Once (k + 1) S V l V.inc ∧ last < V.inc) ∧ (E ≠ 0 → Once (k + 1) S V l last)) := ⟨ht1, ht2⟩
        clear he0 hs0 hE hS hV ht1 ht2 hokv HQA HO hK4
        go_wp2_with fail
        refine kt.mono ?_
        rintro e wc ⟨rfl, hqc⟩
        have HQC : Hid (Kin w wc g R S V a c l) := hqc
        clear kt hqc ck cn
        by_cases hE0 : E = 0
        · subst hE0
          obtain ⟨hon, hgt⟩ := HT.out.1 rfl
          obtain ⟨ic, hic⟩ : ∃ ic, ic = V.inc := ⟨_, rfl⟩
          have ki := inc_lone HQC.out.lone hon.ok ic hic
          rw [← hic] at hon hgt
          have HON : Hid (Once (k + 1) S V l ic) := hon
          have hgi : ¬ (ic : Int) ≤ (last : Int) := by omega
          have hgn : ¬ ic ≤ last := by omega
          rw [show ((0 : Nat) : Int) = 0 from rfl]
          clear hon HT hic
          go_wp2_with fail
          refine ki.mono ?_
          rintro e wd ⟨rfl, rfl⟩
          go_wp2_with fail
          refine ki.mono ?_
          rintro e we ⟨rfl, rfl⟩
          clear ki
          go_wp2
          go_roundw
          case rel => exact ⟨k + 1, R, ic, S, V, a, c, l, by omega, by go_num, rfl, rfl, rfl, by omega, HON.out, HQC.out⟩
          case measure => simp [intOf]; omega
        · have f0 : ((E : Int) == 0) = false := by simp; omega
          have f1 : ¬ (E : Int) = 0 := by omega
          have HON : Hid (Once (k + 1) S V l last) := HT.out.2 hE0
          clear HT hE0
          go_wp2
          go_roundw
          case rel => exact ⟨k + 1, R, last, S, V, a, c, l, by omega, by go_num, rfl, rfl, rfl, by omega, HON.out, HQC.out⟩
          case measure => simp [intOf]; omega
      · obtain ⟨S, hS⟩ : ∃ S, S = wakeS s2 := ⟨_, rfl⟩
        obtain ⟨V, hV⟩ : ∃ V, V = opV S 0 (blk : Int) := ⟨_, rfl⟩
        obtain ⟨hop, hon⟩ := HO.out.again S hS blk hb1 hb2 V hV
        have kw := wake_kin HQA.out S hS
        have KO : Hid (∀ W, Kin w W g R S v a c l → Calls Try.prog 12 #[.pointer (some ⟨g, 0, none⟩), .int .i64 (blk : Int)] W fun e w' => ∃ R', e = .returned (.tuple #[.pointer (some ⟨R', 0, none⟩), .int .i64 0]) ∧ Kin w w' g R' S V a c l) := fun W hW => open_kin hW hon.len (blk : Int) hop V hV
        have HON : Hid (Once (k + 1) S V l last) := hon
        rw [show (((3 : Nat) : Int)) = 3 from rfl] at m1 m2
        clear hS hV hop hon HQA HO hK4
        go_wp2_with fail
        refine kw.mono ?_
        rintro e wc ⟨⟨vc, rfl⟩, hqc⟩
        have ko := KO.out wc hqc
        clear kw hqc ck cn KO
        go_wp2_with fail
        refine ko.mono ?_
        rintro e wd ⟨R', rfl, hqd⟩
        have HQD : Hid (Kin w wd g R' S V a c l) := hqd
        clear ko hqd
        go_wp2
        go_roundw
        case rel => exact ⟨k + 1, R', last, S, V, a, c, l, by omega, by go_num, rfl, rfl, rfl, by omega, HON.out, HQD.out⟩
        case measure => simp [intOf]; omega
    · have HQU : Hid (Kin w wr g R s v a c l) := hq
      clear hq ho H1 H2 H3 H4
      by_cases b0 : ¬ (k < kl.length)
      · have f0 : decide ((k : Int) < (kl.length : Int)) = false := by simp; omega
        clear hall
        go_wp2_with fail
        refine (vawake_ok _).mono ?_
        rintro e wy ⟨rfl, hby⟩
        have HE : Hid (Below w.heap.size w wy) := HQU.out.low.trans (hby.mono HQU.out.low.size)
        clear hby HQU
        go_wp2
        go_ret
        exact ⟨rfl, HE.out⟩
      have f0 : decide ((k : Int) < (kl.length : Int)) = true := by simp; omega
      by_cases b1 : ¬ (k < nl.length)
      · have f1 : decide ((k : Int) < (nl.length : Int)) = false := by simp; omega
        clear hall
        go_wp2_with fail
        refine (vawake_ok _).mono ?_
        rintro e wy ⟨rfl, hby⟩
        have HE : Hid (Below w.heap.size w wy) := HQU.out.low.trans (hby.mono HQU.out.low.size)
        clear hby HQU
        go_wp2
        go_ret
        exact ⟨rfl, HE.out⟩
      have f1 : decide ((k : Int) < (nl.length : Int)) = true := by simp; omega
      by_cases b2 : ¬ (k < sl.length)
      · have f2 : decide ((k : Int) < (sl.length : Int)) = false := by simp; omega
        clear hall
        go_wp2_with fail
        refine (vawake_ok _).mono ?_
        rintro e wy ⟨rfl, hby⟩
        have HE : Hid (Below w.heap.size w wy) := HQU.out.low.trans (hby.mono HQU.out.low.size)
        clear hby HQU
        go_wp2
        go_ret
        exact ⟨rfl, HE.out⟩
      have f2 : decide ((k : Int) < (sl.length : Int)) = true := by simp; omega
      by_cases b3 : ¬ (k < tl.length)
      · have f3 : decide ((k : Int) < (tl.length : Int)) = false := by simp; omega
        clear hall
        go_wp2_with fail
        refine (vawake_ok _).mono ?_
        rintro e wy ⟨rfl, hby⟩
        have HE : Hid (Below w.heap.size w wy) := HQU.out.low.trans (hby.mono HQU.out.low.size)
        clear hby HQU
        go_wp2
        go_ret
        exact ⟨rfl, HE.out⟩
      have f3 : decide ((k : Int) < (tl.length : Int)) = true := by simp; omega
      have f9 : decide ((k : Int) < 60) = false := by simp; omega
      clear hall
      go_wp2_with fail
      refine (vawake_ok _).mono ?_
      rintro e wy ⟨rfl, hby⟩
      have HE : Hid (Below w.heap.size w wy) := HQU.out.low.trans (hby.mono HQU.out.low.size)
      clear hby HQU
      go_wp2
      go_ret
      exact ⟨rfl, HE.out⟩
end Go.Proofs.Ytjmbioedpghopaa
