/-
  The walk of SealBytes.
-/
import Derived.Test.YtaihjnaggmmiiaaGreatDoorSealOpen
namespace Go.Proofs.YtaihjnaggmmiiaaGreatDoor
open Go.ChangeShapes Go.WideShapes Go.ChangeAt Go.RowKit

/-- What was opened, sealed again. -/
theorem sealed_again (l key : List UInt8) (h : openE l key = 0) : tagE key (openF l key) = 0 ∧ sealR key (openF l key) = l := by
  have hg : getE l = 0 := by
    unfold openE at h
    by_cases hg : getE l = 0
    · exact hg
    · rw [if_neg hg] at h; exact h
  have hh : holdsB key (getF l) = true := by
    unfold openE at h
    rw [if_pos hg] at h
    by_cases hh : holdsB key (getF l) = true
    · exact hh
    · rw [if_neg hh] at h; cases h
  have hF : openF l key = getF l := by unfold openF; rw [if_pos h]
  unfold holdsB at hh
  simp only [Bool.and_eq_true, decide_eq_true_eq] at hh
  have hs : sealF key (getF l) = getF l := by unfold sealF; rw [hh.2]
  rw [hF]
  refine ⟨by unfold tagE; rw [if_pos hh.1], ?_⟩
  unfold sealR
  rw [if_pos hh.1, hs]
  exact (put_get l hg).2.1
theorem openF_bad (l key : List UInt8) (h : ¬ openE l key = 0) : openF l key = Fr.zero := by unfold openF; rw [if_neg h]

set_option maxHeartbeats 1600000 in
set_option maxRecDepth 20000 in
theorem bytes_walk (x : Option Addr) (cx : Nat) (l : List UInt8) (k : Option Addr) (ck : Nat) (key : List UInt8) (w : World) (hT : Tabs w) (hx : Sees w x cx l) (hcx : cx ≤ 140737488351232) (hk : Sees w k ck key) :
    Calls Tryz.prog 6 #[.slice x l.length cx, .slice k key.length ck] w fun e w' => e = .returned (.bool true) ∧ Below w.heap.size w w' := by
  have hl : l.length ≤ 140737488351232 := Nat.le_trans hx.fits hcx
  have ho := open_any w x cx l k ck key hT hx hl hk
  have HK : Hid (Tabs w ∧ Sees w x cx l ∧ Sees w k ck key ∧ (openF l key).n < 18446744073709551616) := ⟨hT, hx, hk, openF_n l key⟩
  by_cases hE : openE l key = 0
  · obtain ⟨t1, t2⟩ := sealed_again l key hE
    have HS : Hid (∀ w1 A, Tabs w1 → Seen w1 (openF l key) A → Sees w1 k ck key → Calls Tryz.prog 9 #[.agg (frC (openF l key) A), .slice k key.length ck] w1 fun e w' => FTells w1 w' e l 0) := by
      intro w1 A h1 h2 h3
      have := seal_any w1 (openF l key) A k ck key h1 h2 HK.out.2.2.2 h3
      rw [t1, t2] at this
      exact this
    rw [hE] at ho
    generalize openF l key = G at *
    clear hT hx hcx hk hl hE t1 t2
    go_enter Tryz.func6, Tryz.ntmps6
    go_wp2_with fail
    refine ho.mono ?_
    rintro e w1 ⟨A1, rfl, hs1, hb1⟩
    obtain ⟨W1, hst1, f1, s1, b1⟩ := fr_laid hs1
    have hb1w : Below w.heap.size w W1 := hb1.trans (b1.mono hb1.size)
    have HST1 : Hid ((Instr.storeAt 25 (.pointer (some ⟨w1.heap.size, 0, none⟩)) (.agg (frC G A1))).run Tryz.prog (w1.alloc (.cells (frC Fr.zero At.zero) 25)) = .ok () W1) := hst1
    have HL1 : Hid ((Instr.loadAt 25 (.pointer (some ⟨w1.heap.size, 0, none⟩))).run Tryz.prog W1 = .ok (.agg (frC G A1)) W1) := f1.loads
    have hse := HS.out W1 A1 (HK.out.1.below hb1w) s1 (HK.out.2.2.1.below hb1w)
    have H1 : Hid (Below w.heap.size w W1) := hb1w
    clear ho hs1 hb1 hst1 f1 s1 b1 hb1w HS
    go_wp2_with (first | (refine wpList_store_run rfl 25 _ _ rfl _ _ rfl rfl HST1.out ?_) | (refine wpList_gload_run rfl 25 _ rfl _ _ rfl HL1.out ?_) | fail)
    refine hse.mono ?_
    rintro e w2 ⟨d2, c2, rfl, hs2, hb2⟩
    have hb2w : Below w.heap.size w w2 := H1.out.trans (hb2.mono H1.out.size)
    have e1 := hs2.convert (P := Tryz.prog) 23 5 9 Tryz.underlying23 Tryz.underlying5 Tryz.underlying9
    have e2 := (HK.out.2.1.below hb2w).convert (P := Tryz.prog) 23 5 9 Tryz.underlying23 Tryz.underlying5 Tryz.underlying9
    have haw := awake_ok w2 (HK.out.1.below hb2w)
    have H2 : Hid (Below w.heap.size w w2) := hb2w
    clear hse hs2 hb2 hb2w HST1 HL1 H1 HK
    go_wp2_with fail
    refine haw.mono ?_
    rintro e w3 ⟨rfl, hb3⟩
    have HE : Hid (Below w.heap.size w w3) := H2.out.trans (hb3.mono H2.out.size)
    clear haw hb3 H2 e1 e2
    go_wp2
    go_ret
    exact ⟨rfl, HE.out⟩
  · rw [openF_bad l key hE] at ho
    obtain ⟨E, hEE⟩ : ∃ E, E = openE l key := ⟨_, rfl⟩
    rw [← hEE] at ho hE
    have d0 : ((E : Int) != 0) = true := by simp; omega
    clear hT hx hcx hk hl hE hEE
    go_enter Tryz.func6, Tryz.ntmps6
    go_wp2_with fail
    refine ho.mono ?_
    rintro e w1 ⟨A1, rfl, hs1, hb1⟩
    obtain ⟨W1, hst1, f1, s1, b1⟩ := fr_laid hs1
    have hb1w : Below w.heap.size w W1 := hb1.trans (b1.mono hb1.size)
    have HST1 : Hid ((Instr.storeAt 25 (.pointer (some ⟨w1.heap.size, 0, none⟩)) (.agg (frC Fr.zero A1))).run Tryz.prog (w1.alloc (.cells (frC Fr.zero At.zero) 25)) = .ok () W1) := hst1
    have HL1 : Hid ((Instr.loadAt 25 (.pointer (some ⟨w1.heap.size, 0, none⟩))).run Tryz.prog W1 = .ok (.agg (frC Fr.zero A1)) W1) := f1.loads
    have HB : Hid ((Instr.build 25 #[]).run Tryz.prog W1 = .ok (.agg (frC Fr.zero At.zero)) W1) := build_zero _
    have hsm := fsame_any W1 Fr.zero A1 Fr.zero At.zero s1 (Seen.zero _) true (sameB_refl _)
    have H1 : Hid (Below w.heap.size w W1) := hb1w
    clear ho hs1 hb1 hst1 f1 s1 b1 hb1w
    go_wp2_with (first | (refine wpList_store_run rfl 25 _ _ rfl _ _ rfl rfl HST1.out ?_) | (refine wpList_gload_run rfl 25 _ rfl _ _ rfl HL1.out ?_) | (refine wpList_build_run rfl 25 _ rfl [] _ rfl HB.out ?_) | fail)
    refine hsm.mono ?_
    rintro e w2 ⟨rfl, hb2⟩
    have hb2w : Below w.heap.size w w2 := H1.out.trans (hb2.mono H1.out.size)
    have haw := awake_ok w2 (HK.out.1.below hb2w)
    have H2 : Hid (Below w.heap.size w w2) := hb2w
    clear hsm hb2 hb2w HST1 HL1 HB H1 HK
    go_wp2_with fail
    refine haw.mono ?_
    rintro e w3 ⟨rfl, hb3⟩
    have HE : Hid (Below w.heap.size w w3) := H2.out.trans (hb3.mono H2.out.size)
    clear haw hb3 H2
    go_wp2
    go_ret
    exact ⟨rfl, HE.out⟩
end Go.Proofs.YtaihjnaggmmiiaaGreatDoor
