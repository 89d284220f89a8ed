/-
  The document's Take.
-/
import Derived.Test.YtjmbioedpghopaaResS
namespace Go.Proofs.Ytjmbioedpghopaa
open Go.ChangeShapes Go.WideShapes Go.ChangeAt Go.RowKit

set_option maxHeartbeats 3200000 in
set_option maxRecDepth 20000 in
theorem rtake_ok (v r A : Nat) (w : World) (V : Nat) (t : RS) (u : VS) (G : Nat → Prop) (h : RRes v r A w V (t, u) G) (hu : u.ok) (hn : t.n ≤ 999990) (n : Int) (hw : (Lit.int .i64 n).wf = true) (e0 : Nat) (he0 : e0 = rsaveE t A 12 (recL u.inc (newM u n.toNat))) (t0 : RS) (ht0 : t0 = rsaveT t A 12 (recL u.inc (newM u n.toNat)))
    (E : Nat) (hE : E = tkE u n e0) (T : RS) (hT : T = tkS u n t t0) (U : VS) (hU : U = tkV u n e0) :
    Calls Try.prog 17 #[.pointer (some ⟨V, 0, none⟩), .int .i64 n] w fun e w' => e = .returned (.int .i64 (E : Int)) ∧ Left (RRes v r A) w G V (T, U) w' := by
  have hbn := bounds_i64 hw
  have HL : Hid (Left (RRes v r A) w G V (t, u) w) := Left.same (rres_kept v r A) h (Below.refl _ _)
  obtain ⟨G0, hk, hr, h1, h2, h3, hG⟩ := h
  by_cases hbad : n < 0 ∨ 1048576 ≤ n
  · have HE : Hid (E = 1 ∧ T = t ∧ U = u) := by show _ ∧ _ ∧ _; rw [hE, hT, hU, tkE, tkS, tkV, if_pos hbad, if_pos hbad, if_pos hbad]; exact ⟨rfl, rfl, rfl⟩
    clear hk hr hG hE hT hU he0 ht0 hu h1 h2 h3 hw
    by_cases hneg : n < 0
    · have d0 : decide (n < 0) = true := by simp [hneg]
      clear hbad
      go_enter Try.func17, Try.ntmps17
      go_wp2
      go_ret
      exact ⟨by rw [HE.out.1]; rfl, by rw [HE.out.2.1, HE.out.2.2]; exact HL.out⟩
    · have d0 : decide (n < 0) = false := by simp [hneg]
      have d1 : (1048575 : Int) < n := by omega
      have d2 : decide ((1048575 : Int) < n) = true := by simp [d1]
      clear hbad
      go_enter Try.func17, Try.ntmps17
      go_wp2
      go_ret
      exact ⟨by rw [HE.out.1]; rfl, by rw [HE.out.2.1, HE.out.2.2]; exact HL.out⟩
  obtain ⟨m, rfl⟩ : ∃ m : Nat, n = (m : Int) := ⟨n.toNat, by omega⟩
  have hm2 : m < 1048576 := by omega
  have d0 : decide ((m : Int) < 0) = false := by simp
  have d0' : ¬ (m : Int) < 0 := by omega
  have d1 : ¬ (1048575 : Int) < (m : Int) := by omega
  have d2 : decide ((1048575 : Int) < (m : Int)) = false := by simp; omega
  have c4 := hr.c4
  have c5 := hr.c5
  have c3 := hr.c3
  obtain ⟨l, hl⟩ : ∃ l, l = u.least := ⟨_, rfl⟩
  obtain ⟨k, hkm⟩ : ∃ k, k = u.mark := ⟨_, rfl⟩
  rw [← hl] at c4
  rw [← hkm] at c3
  by_cases hold : m < l
  · have HE : Hid (E = 10 ∧ T = t ∧ U = u) := by
      have ho : (m : Int) < (u.least : Int) := by omega
      show _ ∧ _ ∧ _; rw [hE, hT, hU, tkE, tkS, tkV, if_neg hbad, if_neg hbad, if_neg hbad, if_pos ho, if_pos ho, if_pos ho]; exact ⟨rfl, rfl, rfl⟩
    have d3 : (m : Int) < (l : Int) := by omega
    clear hk hr hG hE hT hU he0 ht0 hu h1 h2 h3 hw hl hbad hbn hkm
    go_enter Try.func17, Try.ntmps17
    go_wp2
    go_ret
    exact ⟨by rw [HE.out.1]; rfl, by rw [HE.out.2.1, HE.out.2.2]; exact HL.out⟩
  have holdn : ¬ (m : Int) < (u.least : Int) := by omega
  have d3 : ¬ (m : Int) < (l : Int) := by omega
  have d3' : ¬ m < l := hold
  by_cases ho : u.over = true
  · have HE : Hid (E = 9 ∧ T = t ∧ U = u) := by
      show _ ∧ _ ∧ _; rw [hE, hT, hU, tkE, tkS, tkV, if_neg hbad, if_neg hbad, if_neg hbad, if_neg holdn, if_neg holdn, if_neg holdn, if_pos ho, if_pos ho, if_pos ho]; exact ⟨rfl, rfl, rfl⟩
    rw [ho] at c5
    clear hk hr hG hE hT hU he0 ht0 hu h1 h2 h3 hw hl hbad hbn hkm holdn hold ho
    go_enter Try.func17, Try.ntmps17
    go_wp2
    go_ret
    exact ⟨by rw [HE.out.1]; rfl, by rw [HE.out.2.1, HE.out.2.2]; exact HL.out⟩
  have ho' : u.over = false := by simpa using ho
  rw [ho'] at c5
  obtain ⟨m1, hm1⟩ : ∃ m1, m1 = m + 1 := ⟨_, rfl⟩
  have e1 : (m : Int) + 1 = (m1 : Int) := by omega
  have e2 : IntKind.i64.wrap (m1 : Int) = (m1 : Int) := by rw [IntKind.wrap_i64]; omega
  have f4 := hr.fz 4
  by_cases hlow : m < k
  · have hlow' : (m : Int) < (u.mark : Int) := by omega
    have HE : Hid (E = 0 ∧ T = t ∧ U = { u with least := m1 }) := by
      show _ ∧ _ ∧ _; rw [hE, hT, hU, tkE, tkS, tkV, if_neg hbad, if_neg hbad, if_neg hbad, if_neg holdn, if_neg holdn, if_neg holdn, if_neg ho, if_neg ho, if_neg ho, if_pos hlow', if_pos hlow', if_pos hlow', Int.toNat_natCast, hm1]; exact ⟨rfl, rfl, rfl⟩
    have HF : Hid (Left (RRes v r A) w G V (t, { u with least := m1 }) (w.setCell ⟨V, 4, none⟩ (.int .i64 (m1 : Int)))) :=
      ((RSaved.same hk hr (Below.refl _ _)).least h2 h3 hr.lt m1).res hk hr h1 h2 h3 hG rfl
    have d4 : ¬ (k : Int) ≤ (m : Int) := by omega
    have d4' : ¬ k ≤ m := by omega
    clear hk hr hG hE hT hU he0 ht0 hu h1 h2 h3 hw hl hbad hbn hkm holdn ho ho' hm1 hlow' HL
    go_enter Try.func17, Try.ntmps17
    go_wp2
    go_ret
    exact ⟨by rw [HE.out.1]; rfl, by rw [HE.out.2.1, HE.out.2.2]; exact HF.out⟩
  have hlow' : ¬ (m : Int) < (u.mark : Int) := by omega
  obtain ⟨M, hM⟩ : ∃ M, M = newM u m := ⟨_, rfl⟩
  obtain ⟨i, hi⟩ : ∃ i, i = u.inc := ⟨_, rfl⟩
  obtain ⟨b, hb⟩ : ∃ b, b = u.blk := ⟨_, rfl⟩
  have hM2 : M ≤ 1048576 := by rw [hM]; unfold newM; omega
  obtain ⟨u1, hu1⟩ : ∃ u1 : VS, u1 = if E = 0 then { u with inc := i, mark := M } else { u with over := true } := ⟨_, rfl⟩
  have hEe : E = e0 := by rw [hE, tkE, if_neg hbad, if_neg holdn, if_neg ho, if_neg hlow']
  have hTt : T = t0 := by rw [hT, tkS, if_neg hbad, if_neg holdn, if_neg ho, if_neg hlow']
  have hsv : Calls Try.prog 39 #[.pointer (some ⟨V, 0, none⟩), .int .i64 (i : Int), .int .i64 (M : Int)] w.drew fun e w' => e = .returned (.int .i64 (E : Int)) ∧ RSaved w.drew G0 V v r A T u1 w' :=
    rrsave_new w.drew V v r A t G0 u (hk.below (Below.refl _ _).drew) h1 h2 h3 hr ho' hn i M (by have := hu.i1; omega) (by omega) E (by rw [hEe, he0, Int.toNat_natCast, hi, hM]) T (by rw [hTt, ht0, Int.toNat_natCast, hi, hM]) u1 hu1
  have HSL : Hid (T.b.length = t.b.length) := by show T.b.length = t.b.length; rw [hTt, ht0, rsave_len]
  have HV : Hid ((E = 0 → U = { u1 with least := m1 }) ∧ (E ≠ 0 → U = u1)) := by
    show _ ∧ _
    rw [hU, hu1, tkV, if_neg hbad, if_neg holdn, if_neg ho, if_neg hlow', ← hEe, Int.toNat_natCast, ← hM]
    constructor
    · intro he; rw [if_pos he, if_pos he, hi, hm1]
    · intro he; rw [if_neg he, if_neg he]
  have HS : Hid (∀ u' w', RSaved w.drew G0 V v r A T u' w' → Left (RRes v r A) w G V (T, u') w') := fun u' w' hl' =>
    (hl'.prior (Below.refl w.heap.size w).drew).res hk hr h1 h2 h3 hG HSL.out
  have HLe : Hid (∀ u' w', RSaved w.drew G0 V v r A T u' w' → RSaved w.drew G0 V v r A T { u' with least := m1 } (w'.setCell ⟨V, 4, none⟩ (.int .i64 (m1 : Int))) ∧ w'.cell? ⟨V, 4, none⟩ = some (.int .i64 (u'.least : Int)) ∧ w'.frozen? ⟨V, 4, none⟩ = false) := fun u' w' hl' =>
    ⟨hl'.least h2 h3 hr.lt m1, by obtain ⟨_, _, _, hrc, _⟩ := hl'; exact ⟨hrc.c4, hrc.fz 4⟩⟩
  have c1 := hr.c1
  have c2 := hr.c2
  rw [← hb] at c1
  rw [← hi] at c2
  have d4 : (k : Int) ≤ (m : Int) := by omega
  have hb1 : b ≤ 1024 := by rw [hb]; exact hu.b2
  obtain ⟨N, hN⟩ : ∃ N, N = m + b := ⟨_, rfl⟩
  have eN : (m : Int) + (b : Int) = (N : Int) := by omega
  have wN : IntKind.i64.wrap (N : Int) = (N : Int) := by rw [IntKind.wrap_i64]; omega
  have hMN : M = min N 1048576 := by rw [hM, hN, hb]; rfl
  clear hk hr hG hE hT hU he0 ht0 hu h1 h2 h3 hw hl hbad hbn hkm holdn ho ho' hm1 hlow' HL hEe hTt hM hu1 hi hb hN f4 HSL
  by_cases hle : N ≤ 1048576
  · obtain rfl : M = N := by omega
    have hlI : ¬ (1048576 : Int) < (M : Int) := by omega
    clear hMN
    go_enter Try.func17, Try.ntmps17
    go_upto_region 8 with fail
    go_region_with (go_at_call 39; refine hsv.mono ?_; rintro e w2 ⟨rfl, hl2⟩)
    all_goals (
      by_cases hE0 : E = 0
      · subst hE0
        have HF : Hid (Left (RRes v r A) w G V (T, U) (w2.setCell ⟨V, 4, none⟩ (.int .i64 (m1 : Int)))) := by rw [HV.out.1 rfl]; exact HS.out _ _ (HLe.out _ _ hl2).1
        obtain ⟨_, g4, z4⟩ := HLe.out _ _ hl2
        rw [show ((0 : Nat) : Int) = 0 from rfl]
        clear hsv hl2 HS HLe HV c1 c2 c3 c4 c5
        go_wp2
        go_ret
        exact ⟨rfl, HF.out⟩
      · have g0 : ((E : Int) == 0) = false := by simp; omega
        have g1 : ¬ (E : Int) = 0 := by omega
        have HF : Hid (Left (RRes v r A) w G V (T, U) w2) := by rw [HV.out.2 hE0]; exact HS.out _ _ hl2
        clear hsv hl2 HS HLe HV c1 c2 c3 c4 c5 hE0
        go_wp2
        go_ret
        exact ⟨rfl, HF.out⟩)
  · obtain rfl : M = 1048576 := by omega
    have hlI : (1048576 : Int) < (N : Int) := by omega
    rw [show ((1048576 : Nat) : Int) = 1048576 from rfl] at hsv
    clear hMN
    go_enter Try.func17, Try.ntmps17
    go_upto_region 8 with fail
    go_region_with (go_at_call 39; refine hsv.mono ?_; rintro e w2 ⟨rfl, hl2⟩)
    all_goals (
      by_cases hE0 : E = 0
      · subst hE0
        have HF : Hid (Left (RRes v r A) w G V (T, U) (w2.setCell ⟨V, 4, none⟩ (.int .i64 (m1 : Int)))) := by rw [HV.out.1 rfl]; exact HS.out _ _ (HLe.out _ _ hl2).1
        obtain ⟨_, g4, z4⟩ := HLe.out _ _ hl2
        rw [show ((0 : Nat) : Int) = 0 from rfl]
        clear hsv hl2 HS HLe HV c1 c2 c3 c4 c5
        go_wp2
        go_ret
        exact ⟨rfl, HF.out⟩
      · have g0 : ((E : Int) == 0) = false := by simp; omega
        have g1 : ¬ (E : Int) = 0 := by omega
        have HF : Hid (Left (RRes v r A) w G V (T, U) w2) := by rw [HV.out.2 hE0]; exact HS.out _ _ hl2
        clear hsv hl2 HS HLe HV c1 c2 c3 c4 c5 hE0
        go_wp2
        go_ret
        exact ⟨rfl, HF.out⟩)
end Go.Proofs.Ytjmbioedpghopaa
