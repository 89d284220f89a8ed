/-
  Take.
-/
import Derived.Test.YtjmbioedpghopaaResE
namespace Go.Proofs.Ytjmbioedpghopaa
open Go.ChangeShapes Go.WideShapes Go.ChangeAt Go.RowKit

set_option maxHeartbeats 3200000 in
set_option maxRecDepth 20000 in
theorem take_ok (g A : Nat) (w : World) (R : Nat) (s : PS) (v : VS) (F : Nat → Prop) (h : Res g A w R (s, v) F) (hv : v.ok) (hn : s.n ≤ 999990) (n : Int) (hw : (Lit.int .i64 n).wf = true) (e0 : Nat) (he0 : e0 = saveE s A 12 (recL v.inc (newM v n.toNat))) (s0 : PS) (hs0 : s0 = saveS s A 12 (recL v.inc (newM v n.toNat)))
    (E : Nat) (hE : E = tkE v n e0) (S : PS) (hS : S = tkS v n s s0) (V : VS) (hV : V = tkV v n e0) :
    Calls Try.prog 16 #[.pointer (some ⟨R, 0, none⟩), .int .i64 n] w fun e w' => e = .returned (.int .i64 (E : Int)) ∧ Left (Res g A) w F R (S, V) w' := by
  have hbn := bounds_i64 hw
  obtain ⟨W, hW⟩ : ∃ W, W = (w.alloc (.cells #[.pointer (some ⟨R, 0, none⟩)] 36)).alloc (.cells #[.int .i64 n] 3) := ⟨_, rfl⟩
  have hb : Below w.heap.size w W := by rw [hW]; exact ((Below.refl _ _).alloc (Nat.le_refl _) _).alloc (by simp) _
  have cr : W.cell? ⟨w.heap.size, 0, none⟩ = some (.pointer (some ⟨R, 0, none⟩)) := by rw [hW]; exact (two_boxes _ _ _ _ _).1
  have cn : W.cell? ⟨w.heap.size + 1, 0, none⟩ = some (.int .i64 n) := by rw [hW]; exact (two_boxes _ _ _ _ _).2
  have hWs : W.heap.size = w.heap.size + 2 := by rw [hW]; simp
  have hFl : ∀ k, F k → k < w.heap.size := fun k hk => (res_kept g A).lt h k hk
  replace h := (res_kept g A).below h hb
  have HL : Hid (∀ w', Below W.heap.size W w' → Left (Res g A) w F R (s, v) w') := fun w' hb' => (Left.same (res_kept g A) h hb').prior hb
  obtain ⟨b, F0, hk, hr, h1, h2, h3, hF⟩ := h
  have hst := vstands_ok W R b v hr
  have HW : Hid (W = (w.alloc (.cells #[.pointer (some ⟨R, 0, none⟩)] 36)).alloc (.cells #[.int .i64 n] 3)) := hW
  by_cases hbad : n < 0 ∨ 1048576 ≤ n
  · have HE : Hid (E = 1 ∧ S = s ∧ V = v) := by show _ ∧ _ ∧ _; rw [hE, hS, hV, tkE, tkS, tkV, if_pos hbad, if_pos hbad, if_pos hbad]; exact ⟨rfl, rfl, rfl⟩
    have HL1 : Hid (Left (Res g A) w F R (s, v) W) := HL.out W (Below.refl _ _)
    clear hk hr hF hE hS hV he0 hs0 hv hW hb h1 h2 h3 hFl hWs HL hw
    by_cases hneg : n < 0
    · have d0 : decide (n < 0) = true := by simp [hneg]
      clear hbad
      go_enter Try.func16, Try.ntmps16
      go_upto_region 1 with fail
      rw [← HW.out]
      go_wp2_with fail
      refine hst.mono ?_
      rintro e w1 ⟨rfl, rfl⟩
      clear hst HW
      go_wp2
      go_ret
      exact ⟨by rw [HE.out.1]; rfl, by rw [HE.out.2.1, HE.out.2.2]; exact HL1.out⟩
    · have d0 : decide (n < 0) = false := by simp [hneg]
      have d1 : (1048576 : Int) ≤ n := by omega
      have d2 : decide ((1048576 : Int) ≤ n) = true := by simp [d1]
      clear hbad
      go_enter Try.func16, Try.ntmps16
      go_upto_region 1 with fail
      rw [← HW.out]
      go_wp2_with fail
      refine hst.mono ?_
      rintro e w1 ⟨rfl, rfl⟩
      clear hst HW
      go_wp2
      go_ret
      exact ⟨by rw [HE.out.1]; rfl, by rw [HE.out.2.1, HE.out.2.2]; exact HL1.out⟩
  obtain ⟨m, rfl⟩ : ∃ m : Nat, n = (m : Int) := ⟨n.toNat, by omega⟩
  have hm2 : m < 1048576 := by omega
  have d0 : decide ((m : Int) < 0) = false := by simp
  have d0' : ¬ (m : Int) < 0 := by omega
  have d1 : ¬ (1048576 : Int) ≤ (m : Int) := by omega
  have d2 : decide ((1048576 : Int) ≤ (m : Int)) = false := by simp; omega
  have c5 := hr.c5
  obtain ⟨l, hl⟩ : ∃ l, l = v.least := ⟨_, rfl⟩
  rw [← hl] at c5
  have H0 : Hid (W.cell? ⟨w.heap.size, 0, none⟩ = some (.pointer (some ⟨R, 0, none⟩)) ∧ W.cell? ⟨w.heap.size + 1, 0, none⟩ = some (.int .i64 (m : Int)) ∧ W.cell? ⟨R, 5, none⟩ = some (.int .i64 (l : Int))) := ⟨cr, cn, c5⟩
  by_cases hold : m < l
  · have HE : Hid (E = 10 ∧ S = s ∧ V = v) := by
      have ho : (m : Int) < (v.least : Int) := by omega
      show _ ∧ _ ∧ _; rw [hE, hS, hV, tkE, tkS, tkV, if_neg hbad, if_neg hbad, if_neg hbad, if_pos ho, if_pos ho, if_pos ho]; exact ⟨rfl, rfl, rfl⟩
    have HL1 : Hid (Left (Res g A) w F R (s, v) W.drew) := HL.out W.drew (Below.refl _ _).drew
    have d3 : (m : Int) < (l : Int) := by omega
    clear hk hr hF hE hS hV he0 hs0 hv hW hb h1 h2 h3 hFl hWs HL hw hl hbad hbn
    go_enter Try.func16, Try.ntmps16
    go_upto_region 1 with fail
    rw [← HW.out]
    go_wp2_with fail
    refine hst.mono ?_
    rintro e w1 ⟨rfl, rfl⟩
    clear hst HW
    go_upto_region 5 with fail
    go_region_held3 (fun V => V.cell? ⟨w.heap.size, 0, none⟩ = some (.pointer (some ⟨R, 0, none⟩)) ∧ V.cell? ⟨w.heap.size + 1, 0, none⟩ = some (.int .i64 (m : Int)) ∧ V.cell? ⟨R, 5, none⟩ = some (.int .i64 (l : Int)))
      (first | exact H0.out | assumption)
      (fail)
    go_wp2
    go_ret
    exact ⟨by rw [HE.out.1]; rfl, by rw [HE.out.2.1, HE.out.2.2]; exact HL1.out⟩
  · obtain ⟨v1, hv1⟩ : ∃ v1 : VS, v1 = if v.over = true then v else if (m : Int) < (v.mark : Int) then v else if e0 = 0 then { v with mark := newM v m } else { v with over := true } := ⟨_, rfl⟩
    have hbadn := hbad
    have holdn : ¬ (m : Int) < (v.least : Int) := by omega
    have hsv : Calls Try.prog 37 #[.pointer (some ⟨R, 0, none⟩), .func (.func 38) #[] #[.pointer (some ⟨w.heap.size + 1, 0, none⟩), .pointer (some ⟨w.heap.size, 0, none⟩)]] W.drew fun e w' => e = .returned (.int .i64 (E : Int)) ∧ Saved W.drew F0 R b g A S v1 w' := by
      have hkd : BK W.drew b g A 12 s F0 := hk.below (Below.refl _ _).drew
      have hrd : RC W.drew R b v := hr
      have hm1 := hv.m1
      by_cases ho : v.over = true
      · refine (vsave_over W.drew R b v hrd ho _).mono ?_
        rintro e w' ⟨rfl, rfl⟩
        rw [hE, hS, hv1, tkE, tkS, if_neg hbad, if_neg hbad, if_neg holdn, if_neg holdn, if_pos ho, if_pos ho, if_pos ho]
        exact ⟨rfl, Saved.same hkd hrd (Below.refl _ _)⟩
      · have ho' : v.over = false := by simpa using ho
        by_cases hlow : m < v.mark
        · have hlow' : (m : Int) < (v.mark : Int) := by omega
          have := vsave_same W.drew R b v hrd ho' 38 #[.pointer (some ⟨w.heap.size + 1, 0, none⟩), .pointer (some ⟨w.heap.size, 0, none⟩)] call38 (take1_low W.drew R b (w.heap.size + 1) w.heap.size v hrd hm1 m hlow cn cr v.inc v.mark 0)
          refine this.mono ?_
          rintro e w' ⟨rfl, hb'⟩
          rw [hE, hS, hv1, tkE, tkS, if_neg hbad, if_neg hbad, if_neg holdn, if_neg holdn, if_neg ho, if_neg ho, if_neg ho, if_pos hlow', if_pos hlow', if_pos hlow']
          exact ⟨rfl, Saved.same hkd hrd hb'⟩
        · have hlow' : ¬ (m : Int) < (v.mark : Int) := by omega
          have hMm : newM v m ≤ 1048576 := by unfold newM; omega
          have hMg : v.mark < newM v m := by have := hv.b1; unfold newM; omega
          refine vsave_new W.drew R b g A s F0 v hkd h1 h2 h3 hrd ho' hn 38 #[.pointer (some ⟨w.heap.size + 1, 0, none⟩), .pointer (some ⟨w.heap.size, 0, none⟩)] v.inc (newM v m) (by have := hv.i1; omega) (by omega) call38 ?_ (by omega) E ?_ S ?_ v1 ?_
          · exact take1_high W.drew R b (w.heap.size + 1) w.heap.size v hrd hm1 m (by omega) hm2 hv.b2 cn cr v.inc v.mark 0
          · rw [hE, tkE, if_neg hbad, if_neg holdn, if_neg ho, if_neg hlow', he0, Int.toNat_natCast]
          · rw [hS, tkS, if_neg hbad, if_neg holdn, if_neg ho, if_neg hlow', hs0, Int.toNat_natCast]
          · rw [hv1, if_neg ho, if_neg hlow', hE, tkE, if_neg hbad, if_neg holdn, if_neg ho, if_neg hlow']
    have HSL : Hid (S.b.length = s.b.length) := by
      show S.b.length = s.b.length
      rw [hS, tkS]
      repeat' split
      all_goals first | rfl | (rw [hs0, save_len])
    have HV : Hid ((E = 0 → V = { v1 with least := m + 1 }) ∧ (E ≠ 0 → V = v1)) := by
      show _ ∧ _
      rw [hE, hV, hv1, tkE, tkV, if_neg hbad, if_neg hbad, if_neg holdn, if_neg holdn]
      by_cases ho : v.over = true
      · rw [if_pos ho, if_pos ho, if_pos ho]; exact ⟨(fun h => by cases h), fun _ => rfl⟩
      · rw [if_neg ho, if_neg ho, if_neg ho]
        by_cases hlow : (m : Int) < (v.mark : Int)
        · rw [if_pos hlow, if_pos hlow, if_pos hlow]; exact ⟨fun _ => rfl, fun h => absurd rfl h⟩
        · rw [if_neg hlow, if_neg hlow, if_neg hlow]
          by_cases he : e0 = 0
          · rw [if_pos he, if_pos he]; exact ⟨fun _ => rfl, fun h => absurd he h⟩
          · rw [if_neg he, if_neg he]; exact ⟨fun h => absurd h he, fun _ => rfl⟩
    have hbd : Below w.heap.size w W.drew := hb.drew
    have HS : Hid (∀ v' w', Saved W.drew F0 R b g A S v' w' → Left (Res g A) w F R (S, v') w') := fun v' w' hl' =>
      (Saved.res (F := F) (hk.below (Below.refl _ _).drew) hr h1 h2 h3 hF HSL.out hl').prior hbd
    have HK : Hid (∀ v' w', Saved W.drew F0 R b g A S v' w' → w'.cell? ⟨w.heap.size, 0, none⟩ = some (.pointer (some ⟨R, 0, none⟩)) ∧ w'.cell? ⟨w.heap.size + 1, 0, none⟩ = some (.int .i64 (m : Int)) ∧ w'.cell? ⟨R, 5, none⟩ = some (.int .i64 (v'.least : Int)) ∧ w'.frozen? ⟨R, 5, none⟩ = false) := fun v' w' hl' => by
      obtain ⟨F1, _, _, hrc, ha, _⟩ := hl'
      have hRl : R < w.heap.size := hFl R ((hF R).2 (.inr (.inr rfl)))
      have hF0 : ∀ k, F0 k → k < w.heap.size := fun k hk' => hFl k ((hF k).2 (.inl hk'))
      refine ⟨ha.cell (w := W.drew) cr (fun hx => ?_), ha.cell (w := W.drew) cn (fun hx => ?_), hrc.c5, hrc.fz 5⟩
      · rcases hx with hx | hx
        · have h9 : w.heap.size < w.heap.size := hF0 _ hx
          omega
        · have h9 : w.heap.size = R := hx
          omega
      · rcases hx with hx | hx
        · have h9 : w.heap.size + 1 < w.heap.size := hF0 _ hx
          omega
        · have h9 : w.heap.size + 1 = R := hx
          omega
    have HLe : Hid (∀ v' w', Saved W.drew F0 R b g A S v' w' → Saved W.drew F0 R b g A S { v' with least := m + 1 } (w'.setCell ⟨R, 5, none⟩ (.int .i64 ((m + 1 : Nat) : Int)))) := fun v' w' hl' => hl'.least h2 h3 hr.lt (m + 1)
    have d3 : ¬ (m : Int) < (l : Int) := by omega
    obtain ⟨m1, hm1⟩ : ∃ m1, m1 = m + 1 := ⟨_, rfl⟩
    rw [← hm1] at HV HLe
    have HE1 : Hid ((m : Int) + 1 = (m1 : Int) ∧ IntKind.i64.wrap (m1 : Int) = (m1 : Int)) := ⟨by omega, by rw [IntKind.wrap_i64]; omega⟩
    clear hk hr hF hE hS hV he0 hs0 hv hW hb h1 h2 h3 hFl hWs HL hw hl hbad hbn hv1 hbadn holdn HSL hbd hm1 hold
    go_enter Try.func16, Try.ntmps16
    go_upto_region 1 with fail
    rw [← HW.out]
    go_wp2_with fail
    refine hst.mono ?_
    rintro e w1 ⟨rfl, rfl⟩
    clear hst HW
    go_upto_region 5 with fail
    go_region_held3 (fun V => V.cell? ⟨w.heap.size, 0, none⟩ = some (.pointer (some ⟨R, 0, none⟩)) ∧ V.cell? ⟨w.heap.size + 1, 0, none⟩ = some (.int .i64 (m : Int)) ∧ V.cell? ⟨R, 5, none⟩ = some (.int .i64 (l : Int)))
      (first | exact H0.out | assumption)
      (fail)
    have dm : decide (m < l) = false := by simp; omega
    rw [dm]
    clear dm d3
    go_wp2_with fail
    refine hsv.mono ?_
    rintro e w2 ⟨rfl, hl2⟩
    obtain ⟨e1, e2⟩ := HE1.out
    obtain ⟨k1, k2, k3, k4⟩ := HK.out _ _ hl2
    by_cases hE0 : E = 0
    · subst hE0
      rw [show ((0 : Nat) : Int) = 0 from rfl]
      have HF2 : Hid (Left (Res g A) w F R (S, V) (w2.setCell ⟨R, 5, none⟩ (.int .i64 (m1 : Int)))) := by rw [HV.out.1 rfl]; exact HS.out _ _ (HLe.out _ _ hl2)
      clear hsv hl2 HS HK HLe HV H0 cr cn c5
      go_wp2
      go_ret
      exact ⟨rfl, HF2.out⟩
    · have f0 : ((E : Int) == 0) = false := by simp; omega
      have f1 : ¬ (E : Int) = 0 := by omega
      have HF2 : Hid (Left (Res g A) w F R (S, V) w2) := by rw [HV.out.2 hE0]; exact HS.out _ _ hl2
      clear hsv hl2 HS HK HLe HV H0 cr cn c5 hE0
      go_wp2
      go_ret
      exact ⟨rfl, HF2.out⟩
end Go.Proofs.Ytjmbioedpghopaa
