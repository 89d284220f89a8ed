/-
  What stands in a bank, as a reserve's record; Open.
-/
import Derived.Test.YtjmbioedpghopaaResF
namespace Go.Proofs.Ytjmbioedpghopaa
open Go.ChangeShapes Go.WideShapes Go.ChangeAt Go.RowKit

theorem save_long (w : World) (b g A N : Nat) (h : BA w b g A N) (hN : N ≤ 64) (x : Option Addr) (c : Nat) : Calls Try.prog 52 #[.pointer (some ⟨b, 0, none⟩), .slice x 65 c] w fun e w' => e = .returned (.int .i64 1) ∧ w' = w := by
  have hst := bstands_ok w b g A N h
  have c2 := h.c2
  have d0 : ((65 : Int) == (N : Int)) = false := by simp; omega
  have d1 : ¬ (65 : Int) = (N : Int) := by omega
  clear h
  go_enter Try.func52, Try.ntmps52
  go_wp2_with fail
  refine hst.mono ?_
  rintro e w1 ⟨rfl, rfl⟩
  clear hst
  go_wp2
  go_ret
  exact ⟨rfl, rfl⟩
set_option maxRecDepth 20000 in
theorem rstands_ok (w : World) (b g A N : Nat) (h : BA w b g A N) (hN : N ≤ 64) : Calls Try.prog 41 #[.pointer (some ⟨b, 0, none⟩)] w fun e w' => e = .returned (.bool true) ∧ Below w.heap.size w w' := by
  obtain ⟨i5, hi, hz0, hz1, hz2⟩ := info_parts Try.info5
  go_enter Try.func41, Try.ntmps41
  go_wp2_with (at_make; refine wpList_make_full _ rfl _ _ 22 rfl w.heap.size 5 i5 (.int .u8 0) 1 Try.underlying22 hi hz0 hz1 .i64 .i64 _ _ 65 rfl rfl rfl rfl ?b2 ?b3 (Nat.le_refl _) ?_)
  case b2 => rw [hz2]; omega
  case b3 => unfold maxLen; omega
  intro w1 hown hgrow
  have hb : Below w.heap.size w w1 := (Below.refl _ _).grown hgrow (Nat.le_refl _) (by intro k h; cases h)
  have hs := save_long w1 b g A N (h.below hb) hN (some ⟨w.heap.size, 0, none⟩) 65
  clear hown hgrow h
  go_wp2_with fail
  refine hs.mono ?_
  rintro e w2 ⟨rfl, rfl⟩
  go_wp2
  go_ret
  exact ⟨rfl, hb⟩

/-- What a bank's record says: an error, the incarnation, the mark. -/
def lE (s : PS) (A : Nat) : Nat := if loadE s A 12 = 8 ∧ freshB s A 12 = true then 0 else loadE s A 12
def lI (s : PS) (A : Nat) : Nat := if loadE s A 12 = 0 then be (((loadL s A 12).drop 0).take 4) else 0
def lM (s : PS) (A : Nat) : Nat := if loadE s A 12 = 0 then be (((loadL s A 12).drop 4).take 4) else 0
theorem loadE_cases (s : PS) (A N : Nat) : loadE s A N = 0 ∨ loadE s A N = 5 ∨ loadE s A N = 8 := by
  unfold loadE
  split
  · exact .inr (.inl rfl)
  · split
    · exact .inr (.inr rfl)
    · exact .inl rfl
theorem loadL_len (s : PS) (A N : Nat) (h : loadE s A N = 0) (hf : A + 2 * (N + 8) ≤ s.b.length) : (loadL s A N).length = N := by
  unfold loadE at h
  unfold loadL
  split at h
  · cases h
  · rename_i hd
    rw [if_neg hd]
    cases hn : newI s A N with
    | none => rw [hn] at h; cases h
    | some k =>
      have := rowL_len s A N k (newI_le hn) hf
      simp; omega
theorem lI_lt (s : PS) (A : Nat) : lI s A < 4294967296 := by
  unfold lI; split
  · exact be_take_lt _ 4 4 _ (by omega) (by decide)
  · omega
theorem lM_lt (s : PS) (A : Nat) : lM s A < 4294967296 := by
  unfold lM; split
  · exact be_take_lt _ 4 4 _ (by omega) (by decide)
  · omega

set_option maxHeartbeats 3200000 in
set_option maxRecDepth 20000 in
theorem rload_rec (w : World) (b g A : Nat) (s : PS) (F : Nat → Prop) (h : BK w b g A 12 s F) (E I M : Nat) (hE : E = lE s A) (hI : I = lI s A) (hM : M = lM s A) :
    Calls Try.prog 43 #[.pointer (some ⟨b, 0, none⟩)] w fun e w' => e = .returned (.tuple #[.agg #[.int .u32 (I : Int), .int .u32 (M : Int), .int .u32 0], .int .i64 (E : Int)]) ∧ Below w.heap.size w w' := by
  obtain ⟨W, hW⟩ : ∃ W, W = w.alloc (.cells #[.int .u32 0, .int .u32 0, .int .u32 0] 58) := ⟨_, rfl⟩
  have hb : Below w.heap.size w W := by rw [hW]; exact (Below.refl _ _).alloc (Nat.le_refl _) _
  have t0 : Three 58 W w.heap.size 0 0 0 := by rw [hW]; exact Three.new 58 w 0 0 0
  have HW : Hid (W = w.alloc (.cells #[.int .u32 0, .int .u32 0, .int .u32 0] 58)) := hW
  have hk := h.below hb
  obtain ⟨R, hR⟩ : ∃ R, R = loadL s A 12 := ⟨_, rfl⟩
  obtain ⟨e1, he1⟩ : ∃ e1, e1 = loadE s A 12 := ⟨_, rfl⟩
  have kl := load_ok W b g A 12 s F hk R e1 hR he1
  have HT0 : Hid (Three 58 W w.heap.size 0 0 0) := t0
  have HB : Hid (Below w.heap.size w W) := hb
  rcases loadE_cases s A 12 with h1 | h1 | h1
  · have HRL : Hid (R.length = 12) := by show R.length = 12; rw [hR]; exact loadL_len s A 12 h1 h.fits
    have hE0 : E = 0 := by rw [hE, lE, if_neg (by omega), h1]
    have hI' : I = be ((R.drop 0).take 4) := by rw [hI, lI, if_pos h1, hR]
    have hM' : M = be ((R.drop 4).take 4) := by rw [hM, lM, if_pos h1, hR]
    have he : e1 = 0 := by omega
    subst he hE0
    obtain ⟨Z, hZ⟩ : ∃ Z, Z = be ((R.drop 8).take 4) := ⟨_, rfl⟩
    rw [HRL.out] at kl
    have K59 : Hid (∀ V d cd, Sees V d cd R → (Calls Try.prog 59 #[.slice d 12 cd, .int .i64 0] V fun e w' => e = .returned (.tuple #[.int .u32 (I : Int), .int .i64 0]) ∧ w' = V) ∧ (Calls Try.prog 59 #[.slice d 12 cd, .int .i64 4] V fun e w' => e = .returned (.tuple #[.int .u32 (M : Int), .int .i64 0]) ∧ w' = V) ∧ (Calls Try.prog 59 #[.slice d 12 cd, .int .i64 8] V fun e w' => e = .returned (.tuple #[.int .u32 (Z : Int), .int .i64 0]) ∧ w' = V)) := fun V d cd hs => by
      have a0 := Load32_yes V d cd R 0 hs (by rw [HRL.out]; omega)
      have a1 := Load32_yes V d cd R 4 hs (by rw [HRL.out]; omega)
      have a2 := Load32_yes V d cd R 8 hs (by rw [HRL.out]; omega)
      rw [HRL.out, ← hI'] at a0
      rw [HRL.out, ← hM'] at a1
      rw [HRL.out, ← hZ] at a2
      exact ⟨a0, a1, a2⟩
    clear hR he1 hk h hE hI hM h1 hI' hM' hZ hb t0 hW
    go_enter Try.func43, Try.ntmps43
    go_upto_region 1 with fail
    rw [← HW.out]
    go_wp2_with fail
    refine kl.mono ?_
    rintro e w1 ⟨d, cd, rfl, hs1, hb1⟩
    clear kl HW
    rw [show ((0 : Nat) : Int) = 0 from rfl]
    obtain ⟨V, hV⟩ : ∃ V, V = w1.alloc (.cells #[.int .u32 0, .int .u32 0, .int .u32 0] 102) := ⟨_, rfl⟩
    have HV : Hid (V = w1.alloc (.cells #[.int .u32 0, .int .u32 0, .int .u32 0] 102)) := hV
    have H0 : Hid (Below w1.heap.size w1 V ∧ Three 102 V w1.heap.size 0 0 0) := by rw [hV]; exact ⟨(Below.refl _ _).alloc (Nat.le_refl _) _, Three.new 102 w1 0 0 0⟩
    have HS1 : Hid (Sees w1 d cd R) := hs1
    have HB1 : Hid (Below W.heap.size W w1) := hb1
    clear hV hs1 hb1
    go_upto_region 7 with fail
    rw [← HV.out]
    clear HV
    go_wp2
    go_loopw [24] (fun u wr => ∃ k : Nat, k ≤ 3 ∧ u = .int .i64 (k : Int) ∧ Below w1.heap.size w1 wr ∧ Three 102 wr w1.heap.size (if 0 < k then I else 0) (if 1 < k then M else 0) (if 2 < k then Z else 0)) (fun u _ => 3 - (intOf u).toNat)
    case atStart => exact ⟨0, by omega, rfl, H0.out.1, H0.out.2⟩
    case round =>
      obtain ⟨k, hk, rfl, hbk, t⟩ := hrel
      clear H0
      obtain ⟨k0, k4, k8⟩ := K59.out wr d cd (HS1.out.below hbk)
      have HBK : Hid (Below w1.heap.size w1 wr) := hbk
      have HTT : Hid (Three 102 wr w1.heap.size (if 0 < k then I else 0) (if 1 < k then M else 0) (if 2 < k then Z else 0)) := t
      rcases (by omega : k = 0 ∨ k = 1 ∨ k = 2 ∨ k = 3) with rfl | rfl | rfl | rfl
      · have c0 := t.c0
        have f0 := t.fz 0
        have HN : Hid (Three 102 (wr.setCell ⟨w1.heap.size, 0, none⟩ (.int .u32 (I : Int))) w1.heap.size I 0 0) := by
          show (wr.setCell ⟨w1.heap.size, 0, none⟩ (.int .u32 (I : Int))).heap[w1.heap.size]? = _
          rw [heap_setCell_same _ _ _ _ _ _ t]; rfl
        clear t k4 k8 hbk HTT K59 HS1 HT0 HB HB1 HRL
        go_wp2_with fail
        refine k0.mono ?_
        rintro e w9 ⟨rfl, rfl⟩
        clear k0
        go_wp2
        go_roundw
        case rel => exact ⟨1, by omega, by go_num, HBK.out.setCell (p := ⟨w1.heap.size, 0, none⟩) (Nat.le_refl _) _, HN.out⟩
        case measure => simp [intOf]
      · have c0 := t.c1
        have f0 := t.fz 1
        have HN : Hid (Three 102 (wr.setCell ⟨w1.heap.size, 1, none⟩ (.int .u32 (M : Int))) w1.heap.size I M 0) := by
          show (wr.setCell ⟨w1.heap.size, 1, none⟩ (.int .u32 (M : Int))).heap[w1.heap.size]? = _
          rw [heap_setCell_same _ _ _ _ _ _ t]; rfl
        clear t k0 k8 hbk HTT K59 HS1 HT0 HB HB1 HRL
        go_wp2_with fail
        refine k4.mono ?_
        rintro e w9 ⟨rfl, rfl⟩
        clear k4
        go_wp2
        go_roundw
        case rel => exact ⟨2, by omega, by go_num, HBK.out.setCell (p := ⟨w1.heap.size, 1, none⟩) (Nat.le_refl _) _, HN.out⟩
        case measure => simp [intOf]
      · have c0 := t.c2
        have f0 := t.fz 2
        have HN : Hid (Three 102 (wr.setCell ⟨w1.heap.size, 2, none⟩ (.int .u32 (Z : Int))) w1.heap.size I M Z) := by
          show (wr.setCell ⟨w1.heap.size, 2, none⟩ (.int .u32 (Z : Int))).heap[w1.heap.size]? = _
          rw [heap_setCell_same _ _ _ _ _ _ t]; rfl
        clear t k0 k4 hbk HTT K59 HS1 HT0 HB HB1 HRL
        go_wp2_with fail
        refine k8.mono ?_
        rintro e w9 ⟨rfl, rfl⟩
        clear k8
        go_wp2
        go_roundw
        case rel => exact ⟨3, by omega, by go_num, HBK.out.setCell (p := ⟨w1.heap.size, 2, none⟩) (Nat.le_refl _) _, HN.out⟩
        case measure => simp [intOf]
      · have c0 : wr.cell? ⟨w1.heap.size, 0, none⟩ = some (.int .u32 (I : Int)) := t.c0
        have c1 : wr.cell? ⟨w1.heap.size, 1, none⟩ = some (.int .u32 (M : Int)) := t.c1
        have c2 : wr.cell? ⟨w1.heap.size, 2, none⟩ = some (.int .u32 (Z : Int)) := t.c2
        have kr := recOf_ok wr I M Z
        have hsz : w.heap.size < W.heap.size := HT0.out.lt
        have hBr : Below W.heap.size W wr := HB1.out.trans (hbk.mono HB1.out.size)
        have tr : Three 58 wr w.heap.size 0 0 0 := HT0.out.below hBr
        have HTR : Hid (Three 58 wr w.heap.size 0 0 0) := tr
        have HBR : Hid (Below w.heap.size w wr) := HB.out.trans (hBr.mono HB.out.size)
        clear t k0 k4 k8 hbk HTT K59 HS1 HT0 HB HB1 HRL tr hBr
        go_wp2_with fail
        refine kr.mono ?_
        rintro e w9 ⟨rfl, hb9⟩
        have t9 := HTR.out.below hb9
        have a0 := t9.c0
        have a1 := t9.c1
        have a2 := t9.c2
        have f0 := t9.fz 0
        have f1 := t9.fz 1
        have f2 := t9.fz 2
        have HT9 := t9.set I M 0
        have HT9 : Hid (Three 58 (((w9.setCell ⟨w.heap.size, 0, none⟩ (.int .u32 (I : Int))).setCell ⟨w.heap.size, 1, none⟩ (.int .u32 (M : Int))).setCell ⟨w.heap.size, 2, none⟩ (.int .u32 0)) w.heap.size I M 0) := HT9
        have HB9 : Hid (Below w.heap.size w (((w9.setCell ⟨w.heap.size, 0, none⟩ (.int .u32 (I : Int))).setCell ⟨w.heap.size, 1, none⟩ (.int .u32 (M : Int))).setCell ⟨w.heap.size, 2, none⟩ (.int .u32 0))) := below_three (HBR.out.trans (hb9.mono HBR.out.size)) (Nat.le_refl _) _ _ _
        clear kr hb9 t9 HTR HBR c0 c1 c2
        go_wp2
        refine bodyPost_ret (res_rec2 rfl rfl HT9.out) rfl ?_
        exact ⟨rfl, HB9.out⟩
  · have hE5 : E = 5 := by rw [hE, lE, if_neg (by omega), h1]
    have hI' : I = 0 := by rw [hI, lI, if_neg (by omega)]
    have hM' : M = 0 := by rw [hM, lM, if_neg (by omega)]
    have he : e1 = 5 := by omega
    subst he hE5 hI' hM'
    clear hR he1 hk h hE hI hM h1 hb t0 hW
    go_enter Try.func43, Try.ntmps43
    go_upto_region 1 with fail
    rw [← HW.out]
    go_wp2_with fail
    refine kl.mono ?_
    rintro e w1 ⟨d, cd, rfl, hs1, hb1⟩
    clear kl HW hs1
    rw [show ((5 : Nat) : Int) = 5 from rfl]
    have t9 := HT0.out.below hb1
    have a0 := t9.c0
    have a1 := t9.c1
    have a2 := t9.c2
    have f0 := t9.fz 0
    have f1 := t9.fz 1
    have f2 := t9.fz 2
    have HT9 := t9.set 0 0 0
    have HT9 : Hid (Three 58 (((w1.setCell ⟨w.heap.size, 0, none⟩ (.int .u32 0)).setCell ⟨w.heap.size, 1, none⟩ (.int .u32 0)).setCell ⟨w.heap.size, 2, none⟩ (.int .u32 0)) w.heap.size 0 0 0) := HT9
    have HB9 : Hid (Below w.heap.size w (((w1.setCell ⟨w.heap.size, 0, none⟩ (.int .u32 0)).setCell ⟨w.heap.size, 1, none⟩ (.int .u32 0)).setCell ⟨w.heap.size, 2, none⟩ (.int .u32 0))) := below_three (HB.out.trans (hb1.mono HB.out.size)) (Nat.le_refl _) _ _ _
    clear hb1 t9
    go_wp2
    refine bodyPost_ret (res_rec2 rfl rfl HT9.out) rfl ?_
    exact ⟨rfl, HB9.out⟩
  · have hI' : I = 0 := by rw [hI, lI, if_neg (by omega)]
    have hM' : M = 0 := by rw [hM, lM, if_neg (by omega)]
    have he : e1 = 8 := by omega
    obtain ⟨f, hf⟩ : ∃ f, f = freshB s A 12 := ⟨_, rfl⟩
    have hE8 : E = if f = true then 0 else 8 := by
      rw [hE, lE, h1, ← hf]; simp
    have K58 : Hid (∀ V, Below W.heap.size W V → Calls Try.prog 58 #[.pointer (some ⟨b, 0, none⟩)] V fun e w' => e = .returned (.bool f) ∧ Below V.heap.size V w') := fun V hV => fresh_ok V b g A 12 s F (hk.below hV) f hf
    subst he hI' hM'
    clear hR he1 hk h hE hI hM h1 hb t0 hW hf
    cases f
    · rw [if_neg (by simp)] at hE8
      subst hE8
      go_enter Try.func43, Try.ntmps43
      go_upto_region 1 with fail
      rw [← HW.out]
      go_wp2_with fail
      refine kl.mono ?_
      rintro e w1 ⟨d, cd, rfl, hs1, hb1⟩
      clear kl HW hs1
      rw [show ((8 : Nat) : Int) = 8 from rfl]
      have k58 := K58.out w1 hb1
      go_wp2_with fail
      refine k58.mono ?_
      rintro e w2 ⟨rfl, hb2⟩
      replace hb2 := hb1.trans (hb2.mono hb1.size)
      have t9 := HT0.out.below hb2
      have a0 := t9.c0
      have a1 := t9.c1
      have a2 := t9.c2
      have f0 := t9.fz 0
      have f1 := t9.fz 1
      have f2 := t9.fz 2
      have HT9 := t9.set 0 0 0
      have HT9 : Hid (Three 58 (((w2.setCell ⟨w.heap.size, 0, none⟩ (.int .u32 0)).setCell ⟨w.heap.size, 1, none⟩ (.int .u32 0)).setCell ⟨w.heap.size, 2, none⟩ (.int .u32 0)) w.heap.size 0 0 0) := HT9
      have HB9 : Hid (Below w.heap.size w (((w2.setCell ⟨w.heap.size, 0, none⟩ (.int .u32 0)).setCell ⟨w.heap.size, 1, none⟩ (.int .u32 0)).setCell ⟨w.heap.size, 2, none⟩ (.int .u32 0))) := below_three (HB.out.trans (hb2.mono HB.out.size)) (Nat.le_refl _) _ _ _
      clear hb1 hb2 t9 k58 K58
      go_wp2
      refine bodyPost_ret (res_rec2 rfl rfl HT9.out) rfl ?_
      exact ⟨rfl, HB9.out⟩
    · rw [if_pos rfl] at hE8
      subst hE8
      go_enter Try.func43, Try.ntmps43
      go_upto_region 1 with fail
      rw [← HW.out]
      go_wp2_with fail
      refine kl.mono ?_
      rintro e w1 ⟨d, cd, rfl, hs1, hb1⟩
      clear kl HW hs1
      rw [show ((8 : Nat) : Int) = 8 from rfl]
      have k58 := K58.out w1 hb1
      go_wp2_with fail
      refine k58.mono ?_
      rintro e w2 ⟨rfl, hb2⟩
      replace hb2 := hb1.trans (hb2.mono hb1.size)
      have t9 := HT0.out.below hb2
      have a0 := t9.c0
      have a1 := t9.c1
      have a2 := t9.c2
      have f0 := t9.fz 0
      have f1 := t9.fz 1
      have f2 := t9.fz 2
      have HT9 := t9.set 0 0 0
      have HT9 : Hid (Three 58 (((w2.setCell ⟨w.heap.size, 0, none⟩ (.int .u32 0)).setCell ⟨w.heap.size, 1, none⟩ (.int .u32 0)).setCell ⟨w.heap.size, 2, none⟩ (.int .u32 0)) w.heap.size 0 0 0) := HT9
      have HB9 : Hid (Below w.heap.size w (((w2.setCell ⟨w.heap.size, 0, none⟩ (.int .u32 0)).setCell ⟨w.heap.size, 1, none⟩ (.int .u32 0)).setCell ⟨w.heap.size, 2, none⟩ (.int .u32 0))) := below_three (HB.out.trans (hb2.mono HB.out.size)) (Nat.le_refl _) _ _ _
      clear hb1 hb2 t9 k58 K58
      go_wp2
      refine bodyPost_ret (res_rec2 rfl rfl HT9.out) rfl ?_
      exact ⟨rfl, HB9.out⟩
end Go.Proofs.Ytjmbioedpghopaa
