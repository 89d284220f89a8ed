/- Any bytes xor any others are the document's, or both refuse; and Same tells whether they are the same bytes: WordXors returns true for every two lists of bytes. No condition. -/
import Derived.Test.YtmldfljgngkneaaTurn
import Derived.Test.YtmldfljgngkneaaXor
namespace Go.Proofs.Ytmldfljgngkneaa.wordXors
open Go.ChangeShapes Go.WideShapes Go.ChangeAt Go.RowKit
open Go.ChangeMaps (open_string shut_string)
set_option linter.unusedVariables false

theorem own : ownKnob Try.prog.godebug = none := by kernel_rfl
theorem laidOut : laidOutB Try.prog = true := by kernel_rfl

set_option maxHeartbeats 800000 in
theorem walk (a : Option Addr) (ca : Nat) (xs : List UInt8) (b : Option Addr) (cb : Nat) (ys : List UInt8) (w : World) (ha : Sees w a ca xs) (ma : ca ≤ 140737488351232) (hb : Sees w b cb ys) (mb : cb ≤ 140737488351232) :
    Calls Try.prog 6 #[.slice a xs.length ca, .slice b ys.length cb] w fun e w' => e = .returned (.bool true) ∧ Below w.heap.size w w' := by
  by_cases hl : xs.length = ys.length
  · have Hl : Hid (xs.length = ys.length) := hl
    clear hl
    have hfa := ha.fits
    go_enter Try.func6, Try.ntmps6
    go_wp2_with fail
    refine (xor_yes w a b ca cb xs ys ha hb Hl.out (by omega)).mono ?_
    rintro e w1 ⟨c, cc, rfl, hc, hb1⟩
    go_wp2_with fail
    refine (refxor_yes w1 a b ca cb xs ys (ha.below hb1) (hb.below hb1) Hl.out (by omega)).mono ?_
    rintro e w2 ⟨d, cd, rfl, hd, hb2⟩
    have ha2 := (ha.below hb1).below hb2
    have hb2' := (hb.below hb1).below hb2
    have hc2 := hc.below hb2
    go_wp2_with fail
    have e1 := fun n => (hc2.drewN n).convert (P := Try.prog) 26 5 9 Try.underlying26 Try.underlying5 Try.underlying9
    have e2 := fun n => (hd.drewN n).convert (P := Try.prog) 26 5 9 Try.underlying26 Try.underlying5 Try.underlying9
    have e3 := fun n => (ha2.drewN n).convert (P := Try.prog) 26 5 9 Try.underlying26 Try.underlying5 Try.underlying9
    have e4 := fun n => (hb2'.drewN n).convert (P := Try.prog) 26 5 9 Try.underlying26 Try.underlying5 Try.underlying9
    rw [xorL_length xs ys Hl.out] at e1 e2
    have hq : (decide (xs = ys) == (xs == ys)) = true := by by_cases h : xs = ys <;> simp [h]
    go_quiet ((first | (go_at_call 21; exact Calls.quiet_of_same (same_any _ a b ca cb xs ys (ha2.drewN _) (hb2'.drewN _))) | (go_at_call 10; exact Calls.quiet_of_same (awake_any _))))
    go_wp2
    go_ret
    exact ⟨rfl, (hb1.trans (hb2.mono hb1.size)).trans ⟨rfl, rfl, rfl, Nat.le_refl _, fun _ _ => rfl⟩⟩
  · have hq : (decide (xs = ys) == (xs == ys)) = true := by by_cases h : xs = ys <;> simp [h]
    have e1 : ∀ n, (convert 26 9 (.slice none 0 0)).run Try.prog (w.drewN n) = .ok (.string ⟨#[]⟩) (w.drewN n) := fun n => (Sees.nil' (w.drewN n)).convert (P := Try.prog) 26 5 9 Try.underlying26 Try.underlying5 Try.underlying9
    have e3 := fun n => (ha.drewN n).convert (P := Try.prog) 26 5 9 Try.underlying26 Try.underlying5 Try.underlying9
    have e4 := fun n => (hb.drewN n).convert (P := Try.prog) 26 5 9 Try.underlying26 Try.underlying5 Try.underlying9
    go_enter Try.func6, Try.ntmps6
    go_wp2_with fail
    refine (xor_no w a b ca cb xs ys hl).mono ?_
    rintro e w1 ⟨rfl, rfl⟩
    go_wp2_with fail
    refine (refxor_no _ a b ca cb xs ys hl).mono ?_
    rintro e w2 ⟨rfl, rfl⟩
    go_wp2_with fail
    go_quiet ((first | (go_at_call 21; exact Calls.quiet_of_same (same_any _ a b ca cb xs ys (ha.drewN _) (hb.drewN _))) | (go_at_call 10; exact Calls.quiet_of_same (awake_any _))))
    go_wp2
    go_ret
    exact ⟨rfl, ⟨rfl, rfl, rfl, Nat.le_refl _, fun _ _ => rfl⟩⟩

set_option maxRecDepth 100000 in
theorem lifted (os : Os) (started : os.Started) (H : Type) (enc : TypeId × Value → H) :
    ReturnsInHanded {} Try.checked os 6 .any (Rows.wordXorsSpec.pre6 enc Try.prog Try.f6 Rows.wordXorsRow.domain false) (Rows.wordXorsSpec.post enc Try.prog Try.f6 false true false false) := by
  refine returnsInHanded_of_change_sized (C := Try.checked) own started (by kernel_rfl) Try.func6
    (ChangeSpec.witness6 (enc := enc) (C := Try.checked) false ⟨#[], #[.slice none 0 0, .slice none 0 0], []⟩ 8 (by kernel_rfl) (by kernel_rfl) (by kernel_rfl) (by kernel_rfl)) ?_
  intro W base args ds gs before hval0 hW hcnd hsz0 _
  have hval : ∀ (j : Nat) t v, Try.f6.params[j]? = some t → args[j]? = some v → Value.okWide Try.prog W .any base t v := hval0
  have hsz : (DataW.weightsEach Try.prog (Try.f6.params.toList ++ Rows.wordXorsSpec.plain.varTypes Try.prog) (ds ++ gs)).all (· ≤ reachBytes) = true := hsz0
  have hW' := hW
  obtain ⟨p, q, hA0, hV, rfl, hfz, hnd⟩ := hW
  have hA : DataW.TrodAll enc Try.prog W 0 (fun _ => true) true Try.f6.params.toList args.toList ds p := hA0
  rw [Try.params6] at hA hval hsz
  obtain ⟨v0, vs0, d0, ds0, p0, q0, hargs, rfl, rfl, h0, r0⟩ := trodAll_cons hA
  obtain ⟨v1, vs1, d1, ds1, p1, q1, rfl, rfl, rfl, h1, r1⟩ := trodAll_cons r0
  obtain ⟨rfl, rfl, rfl⟩ := trodAll_nil r1
  obtain rfl : args = #[v0, v1] := by cases args; simp_all
  obtain ⟨rfl, rfl⟩ := trodVars_none hV
  obtain ⟨a0, len0, cap0, rfl⟩ := okWide_slice Try.underlying26 (hval 0 26 v0 rfl rfl)
  have k0 := h0
  have lt0 : ∀ x ∈ p0, x.block < W.heap.size := by obtain ⟨m, hm⟩ := k0; exact DataW.trod_lt m _ _ _ hm
  obtain ⟨b0, rfl, s0, m0⟩ : ∃ bs : List UInt8, len0 = bs.length ∧ Sees W a0 cap0 bs ∧ cap0 ≤ 140737488351232 := by
    obtain ⟨fuel, hf⟩ := h0
    exact sees_of_arg Try.underlying26 Try.underlying5 (by kernel_rfl) (by kernel_rfl) hf hsz (j := 0) rfl rfl
  obtain ⟨a1, len1, cap1, rfl⟩ := okWide_slice Try.underlying26 (hval 1 26 v1 rfl rfl)
  have k1 := h1
  have lt1 : ∀ x ∈ p1, x.block < W.heap.size := by obtain ⟨m, hm⟩ := k1; exact DataW.trod_lt m _ _ _ hm
  obtain ⟨b1, rfl, s1, m1⟩ : ∃ bs : List UInt8, len1 = bs.length ∧ Sees W a1 cap1 bs ∧ cap1 ≤ 140737488351232 := by
    obtain ⟨fuel, hf⟩ := h1
    exact sees_of_arg Try.underlying26 Try.underlying5 (by kernel_rfl) (by kernel_rfl) hf hsz (j := 1) rfl rfl
  clear hA0 hval0 hsz0
  refine (walk a0 cap0 b0 a1 cap1 b1 W s0 m0 s1 m1).mono fun e W' ⟨he, bel⟩ => ?_
  subst he
  exact ⟨_, rfl, _, _, _, [], _, [], hW', trodAll_mk1 (shut_bool Try.underlying4 _), (trodAll_cons_mk (Below.trod laidOut (by kernel_rfl) (of_decide_eq_true (by kernel_rfl)) k0 bel lt0) (trodAll_cons_mk (Below.trod laidOut (by kernel_rfl) (of_decide_eq_true (by kernel_rfl)) k1 bel lt1) trodAll_mk0)), rfl, bel.frame _, fun h => by cases h⟩

theorem over : Rows.wordXorsRow.holds Try.pinned (OpenSpec.ofChange Rows.wordXorsSpec) :=
  OpenClaim.holds_of_wide 6 Try.f6 rfl rfl rfl rfl rfl rfl rfl ⟨rfl, rfl, rfl, rfl, rfl⟩ rfl rfl rfl rfl rfl (by kernel_rfl) Try.func6 (by kernel_rfl)
    (of_decide_eq_true (by kernel_rfl)) (by unfold Func.isWrapper; first | (rw [if_pos (by decide +kernel)]; kernel_rfl) | (rw [if_neg (by decide +kernel)]; exact ⟨rfl, rfl⟩))
    (fun os started H enc _ => lifted os started H enc)

end Go.Proofs.Ytmldfljgngkneaa.wordXors
namespace Go.Proofs.Ytmldfljgngkneaa
theorem wordXors_holds : Rows.WordXorsSaid := wordXors.over
#print axioms wordXors_holds
end Go.Proofs.Ytmldfljgngkneaa
