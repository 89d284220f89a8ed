/-
  The walk of CrcGood, out of what package crc must say.
-/
import Derived.Test.YtkmeccimldpllaaCrcLaws
namespace Go.Proofs.Ytkmeccimldpllaa
open Go.ChangeShapes Go.WideShapes Go.ChangeAt Go.RowKit

/-- In a region that draws its order: an operation whose guard is false is passed by. -/
theorem any_skip {P : Program} {md : Region.Mode} {ops : Array Oper} {Q : Exit → Act → World → Prop} {S : World → Prop} {fuel : Nat} {listed : Array Bool} {a : Act} {w : World} (i : Nat) {oi : Oper} (hi : ops.toList[i]? = some oi)
    (hs : Region.noSelect ops = true) (hf : Region.free md ops listed i = true) (hr : (Region.ready md ops listed).contains i = true) (hQ : ∀ c a w, Q (.panic c) (a.put oi.dst undef) w → Q (.panic c) a w)
    (hw : Region.wanted oi (yielded ops a.tmps) = false) (hS : S w) (h : wpAnyH P md ops Q S fuel (listed.setIfInBounds i true) (a.put oi.dst undef) w) : wpAnyH P md ops Q S (fuel + 1) listed a w :=
  wpAnyH_take (i := i) (oi := oi) (by simpa using hi) hs hf hr hQ (.inr ⟨hw, rfl⟩) hS h
/-- .. and one that yields v in whatever world is taken first. -/
theorem any_take {P : Program} {md : Region.Mode} {ops : Array Oper} {Q : Exit → Act → World → Prop} {S : World → Prop} {fuel : Nat} {listed : Array Bool} {a : Act} {w : World} (i : Nat) (v : Value) {oi : Oper} (hi : ops.toList[i]? = some oi)
    (hs : Region.noSelect ops = true) (hf : Region.free md ops listed i = true) (hr : (Region.ready md ops listed).contains i = true) (hQ : ∀ c a w, Q (.panic c) (a.put oi.dst v) w → Q (.panic c) a w)
    (hw : Region.wanted oi (yielded ops a.tmps) = true) (hv : ∀ w, S w → (execOp a.eval oi).run P w = .ok (.value v) w) (hS : S w) (h : wpAnyH P md ops Q S fuel (listed.setIfInBounds i true) (a.put oi.dst v) w) : wpAnyH P md ops Q S (fuel + 1) listed a w :=
  wpAnyH_take (i := i) (oi := oi) (by simpa using hi) hs hf hr hQ (.inl ⟨hw, hv⟩) hS h

/-- .. and where one alone may come up, it comes up. -/
theorem any_one {P : Program} {md : Region.Mode} {ops : Array Oper} {Q : Exit → Act → World → Prop} {S : World → Prop} {fuel : Nat} {listed : Array Bool} {a : Act} {w : World} (i : Nat) {oi : Oper} (hi : ops.toList[i]? = some oi)
    (hr : Region.ready md ops listed = [i]) (hw : Region.wanted oi (yielded ops a.tmps) = true)
    (h : ∀ K' : Act → World → Prop, Shut (∀ a w, S w → (S w → wpAnyH P md ops Q S fuel (listed.setIfInBounds i true) a w) → K' a w) → Oper.wp P oi a w K' Q) : wpAnyH P md ops Q S (fuel + 1) listed a w :=
  wpAnyH_ready hr (by simp) (AllReadyH.cons (by simpa using hi) (fun K' hK => by rw [if_pos hw]; exact h K' hK) AllReadyH.nil)

set_option maxHeartbeats 4000000 in
set_option maxRecDepth 20000 in
theorem good_walk' (HFI : CfixOk) (HGO : CgoodOk) (HAW : CawakeOk) (a : Option Addr) (ca : Nat) (l : List UInt8) (w : World) (ha : Sees w a ca l) (hca : ca ≤ 140737488351232) :
    Calls Try.prog 6 #[.slice a l.length ca] w fun e w' => e = .returned (.bool true) ∧ Below w.heap.size w w' := by
  have hll : l.length ≤ 140737488351232 := Nat.le_trans ha.fits hca
  have hfit := ha.fits
  have HA : Hid (Sees w a ca l) := ha
  obtain ⟨N, hN⟩ : ∃ N, N = l.length := ⟨_, rfl⟩
  have HN : Hid (l.length = N) := hN.symm
  have h1 := HFI w a ca l ha (by omega)
  have hN9 : N ≤ 140737488351232 := by omega
  have hNc : N ≤ ca := by omega
  rw [← hN] at h1 ⊢
  clear ha hll hfit hN
  go_enter Try.func6, Try.ntmps6
  go_wp2_with fail
  refine h1.mono ?_
  rintro e w1 ⟨xd, xc, r, hr, rfl, hsr, hb1, _⟩
  clear h1
  have hrl : r.length = N + 3 := by rw [hr.out, ← HN.out]; simp [fixL, sum3]
  have hgr : goodL r = true := by rw [hr.out]; exact fix_good l
  have htk : r.take N = l := by rw [hr.out, ← HN.out]; unfold fixL; exact List.take_left
  have hrc := hsr.fits
  rw [hrl] at hrc
  have H17x : Hid (∀ W, Below w1.heap.size w1 W → Calls Try.prog 17 #[.slice xd (N + 3) xc] W fun e w' => e = .returned (.bool true) ∧ Below w1.heap.size w1 w') := fun W hW => by
    have := HGO W xd xc r (hsr.below hW) (by omega)
    rw [hgr, hrl] at this
    exact this.mono fun _ _ ⟨h, hb⟩ => ⟨h, hW.trans (hb.mono hW.size)⟩
  have HKeep : Hid (∀ w', Below w1.heap.size w1 w' → (Go.convert 22 9 (.slice xd N xc)).run Try.prog w' = .ok (.string ⟨l.toArray⟩) w' ∧ (Go.convert 22 9 (.slice a N ca)).run Try.prog w' = .ok (.string ⟨l.toArray⟩) w') := fun w' hw' => by
    have t1 := ((hsr.take N).below hw').convert (P := Try.prog) 22 5 9 Try.underlying22 Try.underlying5 Try.underlying9
    have t2 := ((HA.out.below hb1).below hw').convert (P := Try.prog) 22 5 9 Try.underlying22 Try.underlying5 Try.underlying9
    rw [htk, HN.out] at t1
    rw [HN.out] at t2
    exact ⟨t1, t2⟩
  obtain ⟨e1, e2⟩ := HKeep.out w1 (Below.refl _ _)
  obtain ⟨xb, xo, rfl, _⟩ := hsr.at' (by intro h; rw [h] at hrl; simp at hrl)
  have g1 : IntKind.i64.wrap ((N : Int) + 3) = (N : Int) + 3 := by rw [IntKind.wrap_i64]; omega
  have g3 : (0 : Int) ≤ (N : Int) := Int.natCast_nonneg _
  have g4 : (N : Int) ≤ (xc : Int) := by omega
  have hnx : N ≤ xc := by omega
  rw [hrl]
  clear hr hrl hgr htk hsr
  go_wp2
  go_region_held3 (fun w' => (Go.convert 22 9 (.slice (some ⟨xb, xo, none⟩) N xc)).run Try.prog w' = .ok (.string ⟨l.toArray⟩) w' ∧ (Go.convert 22 9 (.slice a N ca)).run Try.prog w' = .ok (.string ⟨l.toArray⟩) w')
    (first | go_keep | (refine HKeep.out _ ?_; (first | with_reducible exact hb17 | exact (Below.refl _ _).drew)))
    (first | (go_at_call 17; refine (H17x.out _ ?_).mono ?_; (focus (first | with_reducible exact (Below.refl _ _).drew | exact Below.refl _ _)); rintro e w17 ⟨rfl, hb17⟩))
  have bel2 : Below w.heap.size w w17 := hb1.trans (hb17.mono hb1.size)
  have HSA : Hid (Sees w17 a ca l) := HA.out.below bel2
  have HE2 : Hid (∀ w', Below w17.heap.size w17 w' → (Go.convert 22 9 (.slice a N ca)).run Try.prog w' = .ok (.string ⟨l.toArray⟩) w') := fun w' hw' => (HKeep.out w' (hb17.trans (hw'.mono hb17.size))).2
  clear H17x HKeep e1 e2 g4 hnx g1 HA hb1
  by_cases h3 : N < 3
  · have d1 : ¬ ((3 : Int) ≤ (N : Int)) := by omega
    have d2 : ¬ (3 ≤ N) := by omega
    have H17 : Hid (∀ W, Below w17.heap.size w17 W → Calls Try.prog 17 #[.slice a N ca] W fun e w' => e = .returned (.bool false) ∧ Below w17.heap.size w17 w') := fun W hW => by
      have := HGO W a ca l (HSA.out.below hW) (by rw [HN.out]; omega)
      rw [goodL_short l (by rw [HN.out]; exact h3), HN.out] at this
      exact this.mono fun _ _ ⟨h, hb⟩ => ⟨h, hW.trans (hb.mono hW.size)⟩
    have H14 : Hid (∀ W, Below w17.heap.size w17 W → Calls Try.prog 14 #[] W fun e w' => e = .returned (.bool true) ∧ Below w17.heap.size w17 w') := fun W hW => (HAW W).mono fun _ _ ⟨h, hb⟩ => ⟨h, hW.trans (hb.mono hW.size)⟩
    have d3 : decide ((3 : Int) ≤ (N : Int)) = false := by simp; omega
    clear HE2 HSA d1 d2
    go_wp2
    refine wp_region_noPanic ?_
    refine wp_region_held (S := fun _ => True) (by kernel_rfl) ?_
    refine any_take 0 (.slice a N ca) rfl (by kernel_rfl) (by kernel_rfl) (by kernel_rfl) (fun _ _ _ h => h) (by rfl) (by intro w _; go_simp) trivial ?_
    (try simp only [Act.put, List.setIfInBounds_toArray, List.set_cons_zero, List.set_cons_succ])
    refine any_take 2 (.slice a N ca) rfl (by kernel_rfl) (by kernel_rfl) (by kernel_rfl) (fun _ _ _ h => h) (by rfl) (by intro w _; go_simp) trivial ?_
    (try simp only [Act.put, List.setIfInBounds_toArray, List.set_cons_zero, List.set_cons_succ])
    refine any_take 3 (.int .i64 (N : Int)) rfl (by kernel_rfl) (by kernel_rfl) (by kernel_rfl) (fun _ _ _ h => h) (by rfl) (by intro w _; go_simp) trivial ?_
    (try simp only [Act.put, List.setIfInBounds_toArray, List.set_cons_zero, List.set_cons_succ])
    refine any_take 4 (.bool false) rfl (by kernel_rfl) (by kernel_rfl) (by kernel_rfl) (fun _ _ _ h => h) (by rfl) (by intro w _; go_simp) trivial ?_
    (try simp only [Act.put, List.setIfInBounds_toArray, List.set_cons_zero, List.set_cons_succ])
    refine any_one 1 rfl (by kernel_rfl) (by rfl) (fun K hK => ?_)
    go_simp
    refine (H17.out _ ?_).mono ?_
    · exact (Below.refl _ _).drew
    rintro e w18 ⟨rfl, hb18⟩
    refine hK.out _ _ trivial (fun _ => ?_)
    clear hK K
    (try simp only [Act.put, List.setIfInBounds_toArray, List.set_cons_zero, List.set_cons_succ])
    refine any_take 5 (.bool false) rfl (by kernel_rfl) (by kernel_rfl) (by kernel_rfl) (fun _ _ _ h => h) (by rfl) (by intro w _; go_simp) trivial ?_
    (try simp only [Act.put, List.setIfInBounds_toArray, List.set_cons_zero, List.set_cons_succ])
    refine any_skip 6 rfl (by kernel_rfl) (by kernel_rfl) (by kernel_rfl) (fun _ _ _ h => h) (by rfl) trivial ?_
    (try simp only [Act.put, List.setIfInBounds_toArray, List.set_cons_zero, List.set_cons_succ])
    refine any_skip 7 rfl (by kernel_rfl) (by kernel_rfl) (by kernel_rfl) (fun _ _ _ h => h) (by rfl) trivial ?_
    (try simp only [Act.put, List.setIfInBounds_toArray, List.set_cons_zero, List.set_cons_succ])
    refine any_skip 8 rfl (by kernel_rfl) (by kernel_rfl) (by kernel_rfl) (fun _ _ _ h => h) (by rfl) trivial ?_
    (try simp only [Act.put, List.setIfInBounds_toArray, List.set_cons_zero, List.set_cons_succ])
    refine any_skip 9 rfl (by kernel_rfl) (by kernel_rfl) (by kernel_rfl) (fun _ _ _ h => h) (by rfl) trivial ?_
    (try simp only [Act.put, List.setIfInBounds_toArray, List.set_cons_zero, List.set_cons_succ])
    refine any_skip 10 rfl (by kernel_rfl) (by kernel_rfl) (by kernel_rfl) (fun _ _ _ h => h) (by rfl) trivial ?_
    (try simp only [Act.put, List.setIfInBounds_toArray, List.set_cons_zero, List.set_cons_succ])
    refine any_skip 11 rfl (by kernel_rfl) (by kernel_rfl) (by kernel_rfl) (fun _ _ _ h => h) (by rfl) trivial ?_
    (try simp only [Act.put, List.setIfInBounds_toArray, List.set_cons_zero, List.set_cons_succ])
    refine any_skip 12 rfl (by kernel_rfl) (by kernel_rfl) (by kernel_rfl) (fun _ _ _ h => h) (by rfl) trivial ?_
    (try simp only [Act.put, List.setIfInBounds_toArray, List.set_cons_zero, List.set_cons_succ])
    refine any_skip 13 rfl (by kernel_rfl) (by kernel_rfl) (by kernel_rfl) (fun _ _ _ h => h) (by rfl) trivial ?_
    (try simp only [Act.put, List.setIfInBounds_toArray, List.set_cons_zero, List.set_cons_succ])
    refine any_skip 14 rfl (by kernel_rfl) (by kernel_rfl) (by kernel_rfl) (fun _ _ _ h => h) (by rfl) trivial ?_
    (try simp only [Act.put, List.setIfInBounds_toArray, List.set_cons_zero, List.set_cons_succ])
    refine any_skip 15 rfl (by kernel_rfl) (by kernel_rfl) (by kernel_rfl) (fun _ _ _ h => h) (by rfl) trivial ?_
    (try simp only [Act.put, List.setIfInBounds_toArray, List.set_cons_zero, List.set_cons_succ])
    refine any_skip 16 rfl (by kernel_rfl) (by kernel_rfl) (by kernel_rfl) (fun _ _ _ h => h) (by rfl) trivial ?_
    (try simp only [Act.put, List.setIfInBounds_toArray, List.set_cons_zero, List.set_cons_succ])
    refine any_take 17 (.bool false) rfl (by kernel_rfl) (by kernel_rfl) (by kernel_rfl) (fun _ _ _ h => h) (by rfl) (by intro w _; go_simp) trivial ?_
    (try simp only [Act.put, List.setIfInBounds_toArray, List.set_cons_zero, List.set_cons_succ])
    refine any_take 18 (.bool true) rfl (by kernel_rfl) (by kernel_rfl) (by kernel_rfl) (fun _ _ _ h => h) (by rfl) (by intro w _; go_simp) trivial ?_
    (try simp only [Act.put, List.setIfInBounds_toArray, List.set_cons_zero, List.set_cons_succ])
    refine any_take 19 (.bool true) rfl (by kernel_rfl) (by kernel_rfl) (by kernel_rfl) (fun _ _ _ h => h) (by rfl) (by intro w _; go_simp) trivial ?_
    (try simp only [Act.put, List.setIfInBounds_toArray, List.set_cons_zero, List.set_cons_succ])
    refine any_one 20 rfl (by kernel_rfl) (by rfl) (fun K hK => ?_)
    go_simp
    refine (H14.out _ hb18).mono ?_
    rintro e w14 ⟨rfl, hb14⟩
    refine hK.out _ _ trivial (fun _ => ?_)
    clear hK K
    (try simp only [Act.put, List.setIfInBounds_toArray, List.set_cons_zero, List.set_cons_succ])
    refine any_take 21 (.bool true) rfl (by kernel_rfl) (by kernel_rfl) (by kernel_rfl) (fun _ _ _ h => h) (by rfl) (by intro w _; go_simp) trivial ?_
    (try simp only [Act.put, List.setIfInBounds_toArray, List.set_cons_zero, List.set_cons_succ])
    refine any_take 22 (.bool true) rfl (by kernel_rfl) (by kernel_rfl) (by kernel_rfl) (fun _ _ _ h => h) (by rfl) (by intro w _; go_simp) trivial ?_
    (try simp only [Act.put, List.setIfInBounds_toArray, List.set_cons_zero, List.set_cons_succ])
    refine wpAnyH_done (by kernel_rfl) ?_ _
    refine NoPanic.normal ?_
    go_wp2
    go_ret
    exact ⟨rfl, bel2.trans (hb14.mono bel2.size)⟩
  · obtain ⟨m, rfl⟩ : ∃ m, N = m + 3 := ⟨N - 3, by omega⟩
    obtain ⟨F, hF⟩ : ∃ F, F = fixL (l.take m) := ⟨_, rfl⟩
    have htl : (l.take m).length = m := by rw [List.length_take, HN.out]; omega
    have hG : goodL l = (F == l) := by
      unfold goodL
      rw [HN.out, show m + 3 - 3 = m from by omega, ← hF]
      by_cases h : F = l <;> simp [h]
    obtain ⟨G, hGG⟩ : ∃ G, G = (F == l) := ⟨_, rfl⟩
    have H17 : Hid (∀ W, Below w17.heap.size w17 W → Calls Try.prog 17 #[.slice a (m + 3) ca] W fun e w' => e = .returned (.bool G) ∧ Below w17.heap.size w17 w') := fun W hW => by
      have := HGO W a ca l (HSA.out.below hW) (by rw [HN.out]; omega)
      rw [hG, ← hGG, HN.out] at this
      exact this.mono fun _ _ ⟨h, hb⟩ => ⟨h, hW.trans (hb.mono hW.size)⟩
    have H15 : Hid (∀ W, Below w17.heap.size w17 W → Calls Try.prog 15 #[.slice a m ca] W fun e w' => ∃ d cd, e = .returned (.slice d F.length cd) ∧ Sees w' d cd F ∧ Below w17.heap.size w17 w') := fun W hW => by
      have := HFI W a ca (l.take m) ((HSA.out.take m).below hW) (by rw [htl]; omega)
      rw [htl] at this
      refine this.mono ?_
      rintro e w' ⟨d, cd, r, hr, he, hs, hb, _⟩
      have : r = F := by rw [hF]; exact hr.out
      subst this
      exact ⟨d, cd, he, hs, hW.trans (hb.mono hW.size)⟩
    have H14 : Hid (∀ W, Below w17.heap.size w17 W → Calls Try.prog 14 #[] W fun e w' => e = .returned (.bool true) ∧ Below w17.heap.size w17 w') := fun W hW => (HAW W).mono fun _ _ ⟨h, hb⟩ => ⟨h, hW.trans (hb.mono hW.size)⟩
    have hFl : (F == l) = G := hGG.symm
    obtain ⟨ab, ao, rfl, _⟩ := HSA.out.at' (by intro h; have := HN.out; rw [h] at this; simp at this)
    have e0 := HE2.out w17 (Below.refl _ _)
    have q1 : (3 : Int) ≤ (m : Int) + 3 := by omega
    have q2 : IntKind.i64.wrap ((m : Int) + 3 - 3) = (m : Int) := by rw [IntKind.wrap_i64]; omega
    have q3 : IntKind.i64.wrap (m : Int) = (m : Int) := by rw [IntKind.wrap_i64]; omega
    have q4 : ¬ ((m : Int) < 0) := by omega
    have q5 : (0 : Int) ≤ (m : Int) := Int.natCast_nonneg _
    have q6 : (m : Int) ≤ (ca : Int) := by omega
    clear hF htl hG hGG HSA h3
    go_wp2
    refine wp_region_noPanic ?_
    go_region_held (fun w' => (Go.convert 22 9 (.slice (some ⟨ab, ao, none⟩) (m + 3) ca)).run Try.prog w' = .ok (.string ⟨l.toArray⟩) w')
      (first | go_keep | (refine HE2.out _ ?_; (first | with_reducible exact hb14 | with_reducible exact hb15 | with_reducible exact hb18 | exact (Below.refl _ _).drew)))
      (first
        | (go_at_call 17; refine (H17.out _ ?_).mono ?_; (focus (first | with_reducible exact (Below.refl _ _).drew | exact Below.refl _ _)); rintro e w18 ⟨rfl, hb18⟩)
        | (go_at_call 15; refine (H15.out _ ?_).mono ?_; (focus (with_reducible exact hb18)); rintro e w15 ⟨d15, c15, rfl, hs15, hb15⟩; (have e15 := hs15.convert (P := Try.prog) 22 5 9 Try.underlying22 Try.underlying5 Try.underlying9))
        | (go_at_call 14; refine (H14.out _ ?_).mono ?_; (focus (with_reducible exact hb15)); rintro e w14 ⟨rfl, hb14⟩))
    all_goals
      refine NoPanic.normal ?_
      go_wp2
      go_ret
      exact ⟨rfl, bel2.trans (hb14.mono bel2.size)⟩
end Go.Proofs.Ytkmeccimldpllaa
