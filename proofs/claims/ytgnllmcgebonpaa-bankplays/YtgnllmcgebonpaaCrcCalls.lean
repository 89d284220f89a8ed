/-
  The contracts of Of, Head, Whole, Fix and Good.
-/
import Derived.Test.YtgnllmcgebonpaaCrcSum
import Derived.Test.YtgnllmcgebonpaaDraws
namespace Go.Proofs.Ytgnllmcgebonpaa
open Go.ChangeShapes Go.WideShapes Go.ChangeAt Go.RowKit

set_option maxHeartbeats 400000 in
set_option maxRecDepth 20000 in
theorem whole_ok : CwholeOk := by
  intro w a ca l ha hll
  have h1 := sum_ok w a ca l 24 0x5D6DCB 0xFEDCBA ha (by omega) (by omega) (by omega) (by decide) (by decide)
  obtain ⟨x, hx⟩ : ∃ x, x = wholeL l := ⟨_, rfl⟩
  rw [show crcL 24 0x5D6DCB 0xFEDCBA l = x from hx.symm] at h1
  rw [← hx]
  clear ha hx
  go_enter Try.func63, Try.ntmps63
  go_wp2_with fail
  refine h1.mono ?_
  rintro e w1 ⟨rfl, hb⟩
  clear h1
  go_wp2
  go_ret
  exact ⟨rfl, hb⟩

set_option maxHeartbeats 800000 in
set_option maxRecDepth 20000 in
theorem fix_ok : CfixOk := by
  intro w a ca l ha hll
  obtain ⟨i5, hi5, hz0, hz1, hz2⟩ := info_parts Try.info5
  obtain ⟨s, hs⟩ : ∃ s, s = wholeL l := ⟨_, rfl⟩
  have hs24 : s < 16777216 := by rw [hs]; exact wholeL_lt l
  have HA : Hid (Sees w a ca l) := ha
  have H11 : Hid (∀ V, Below w.heap.size w V → Calls Try.prog 63 #[.slice a l.length ca] V fun e w' => e = .returned (.int .u32 (s : Int)) ∧ Below V.heap.size V w') := fun V hV => by
    rw [hs]; exact whole_ok V a ca l (HA.out.below hV) hll
  have HS : Hid (s = wholeL l) := hs
  clear ha hs
  go_enter Try.func52, Try.ntmps52
  go_wp2_with (at_make; refine wpList_make_own _ rfl _ _ 22 rfl w.heap.size 5 i5 (.int .u8 0) 1 Try.underlying22 hi5 hz0 hz1 _ _ _ (l.length + 3) rfl rfl ?b1 ?b2 ?b3 (Nat.le_refl _) ?_)
  case b1 => push_cast; omega
  case b2 => rw [hz2]; omega
  case b3 => unfold maxLen; omega
  intro w1 hown1 hgrow1
  have hb1 : Below w.heap.size w w1 := (Below.refl _ _).grown hgrow1 (Nat.le_refl _) (by intro k h; cases h)
  obtain ⟨v2, w2, hrun2, ho2, hk2⟩ := append_own_any w1 w.heap.size _ [] (by simpa using hown1) a ca l (HA.out.below hb1) (by simp; omega) hb1.size
  rw [List.nil_append] at ho2
  have hb2 : Below w.heap.size w w2 := hk2 _ _ hb1 (Nat.le_refl _)
  have h11 := H11.out w2 hb2
  obtain ⟨d2, c2, rfl, hs2⟩ := Sees.of_own ho2
  have R2 : Hid ((Builtin.append_ #[22, 22] 22 #[.slice (some ⟨w.heap.size, 0, none⟩) 0 (l.length + 3), .slice a l.length ca]).run Try.prog w1 = .ok (.slice d2 l.length c2) w2) := hrun2
  clear hgrow1 hown1 hk2 hrun2 hs2
  go_wp2_with (at_builtin; refine wpList_append_run rfl _ _ 22 rfl _ _ _ rfl rfl R2.out ?_)
  refine h11.mono ?_
  rintro e w3 ⟨rfl, hb3⟩
  have h19 := asbytes_ok w3 s hs24
  have ho3 := own_keepB ho2 hb3
  have hb3' : Below w.heap.size w w3 := hb2.trans (hb3.mono hb2.size)
  clear h11 hb3 hb2 ho2 R2 hb1
  go_wp2_with fail
  refine h19.mono ?_
  rintro e w4 ⟨d4, c4, rfl, hs4, hb4⟩
  have ho4 := own_keepB ho3 hb4
  have hb4' : Below w.heap.size w w4 := hb3'.trans (hb4.mono hb3'.size)
  obtain ⟨v5, w5, hrun5, ho5, hk5⟩ := append_own_any w4 w.heap.size _ l ho4 d4 c4 (sum3 s) hs4 (by simp [sum3]; omega) hb4'.size
  have hb5 : Below w.heap.size w w5 := hk5 _ _ hb4' (Nat.le_refl _)
  obtain ⟨r, hr⟩ : ∃ r, r = l ++ sum3 s := ⟨_, rfl⟩
  rw [← hr] at ho5
  have HR : Hid (r = fixL l) := by rw [hr, HS.out]; exact rfl
  obtain ⟨d5, c5, rfl, hs5⟩ := Sees.of_own ho5
  have R5 : Hid ((Builtin.append_ #[22, 22] 22 #[.slice d2 l.length c2, .slice d4 3 c4]).run Try.prog w4 = .ok (.slice d5 r.length c5) w5) := hrun5
  clear h19 hrun5 hk5 hr ho4 ho3 hb4 hb3' hs4 hb4' H11 HA HS
  go_wp2_with (at_builtin; refine wpList_append_run rfl _ _ 22 rfl _ _ _ rfl rfl R5.out ?_)
  go_ret
  exact ⟨d5, c5, r, HR, rfl, hs5, hb5, ho5⟩

theorem Sees.drop {w : World} {b o cap : Nat} {bs : List UInt8} (h : Sees w (some ⟨b, o, none⟩) cap bs) (k : Nat) (hk : k ≤ bs.length) : Sees w (some ⟨b, o + k, none⟩) (cap - k) (bs.drop k) :=
  ⟨by have := h.fits; rw [List.length_drop]; omega, by have := h.room; omega, by simp, fun hne => ⟨b, o + k, rfl, fun i x hx => by
    have h0 : bs ≠ [] := by rintro rfl; simp at hne
    obtain ⟨b', o', he, hc⟩ := h.at' h0
    cases he
    rw [List.getElem?_drop] at hx
    have := hc (k + i) x hx
    rw [Nat.add_assoc]; exact this⟩⟩

set_option maxHeartbeats 1600000 in
set_option maxRecDepth 20000 in
theorem good_ok : CgoodOk := by
  intro w a ca l ha hll
  by_cases h3 : l.length < 3
  · rw [goodL_short l h3]
    obtain ⟨z, hz⟩ : ∃ z : Int, z = (l.length : Int) - 3 := ⟨_, rfl⟩
    have e1 : (l.length : Int) - 3 = z := hz.symm
    have e2 : IntKind.i64.wrap z = z := by rw [IntKind.wrap_i64]; omega
    have d1 : decide ((0 : Int) ≤ z) = false := by simp; omega
    clear ha hz
    go_enter Try.func60, Try.ntmps60
    go_wp2
    refine wp_region_noPanic ?_
    refine wp_region_held (S := fun _ => True) (by kernel_rfl) ?_
    refine any_take 0 (.int .i64 z) rfl (by kernel_rfl) (by kernel_rfl) (by kernel_rfl) (fun _ _ _ h => h) (by rfl) (by intro w _; go_simp) trivial ?_
    (try simp only [Act.put, List.setIfInBounds_toArray, List.set_cons_zero, List.set_cons_succ])
    refine any_take 1 (.bool false) rfl (by kernel_rfl) (by kernel_rfl) (by kernel_rfl) (fun _ _ _ h => h) (by rfl) (by intro w _; go_simp) trivial ?_
    (try simp only [Act.put, List.setIfInBounds_toArray, List.set_cons_zero, List.set_cons_succ])
    refine any_take 2 (.bool false) rfl (by kernel_rfl) (by kernel_rfl) (by kernel_rfl) (fun _ _ _ h => h) (by rfl) (by intro w _; go_simp) trivial ?_
    (try simp only [Act.put, List.setIfInBounds_toArray, List.set_cons_zero, List.set_cons_succ])
    refine any_skip 3 rfl (by kernel_rfl) (by kernel_rfl) (by kernel_rfl) (fun _ _ _ h => h) (by rfl) trivial ?_
    (try simp only [Act.put, List.setIfInBounds_toArray, List.set_cons_zero, List.set_cons_succ])
    refine any_skip 4 rfl (by kernel_rfl) (by kernel_rfl) (by kernel_rfl) (fun _ _ _ h => h) (by rfl) trivial ?_
    (try simp only [Act.put, List.setIfInBounds_toArray, List.set_cons_zero, List.set_cons_succ])
    refine any_skip 5 rfl (by kernel_rfl) (by kernel_rfl) (by kernel_rfl) (fun _ _ _ h => h) (by rfl) trivial ?_
    (try simp only [Act.put, List.setIfInBounds_toArray, List.set_cons_zero, List.set_cons_succ])
    refine any_skip 6 rfl (by kernel_rfl) (by kernel_rfl) (by kernel_rfl) (fun _ _ _ h => h) (by rfl) trivial ?_
    (try simp only [Act.put, List.setIfInBounds_toArray, List.set_cons_zero, List.set_cons_succ])
    refine any_skip 7 rfl (by kernel_rfl) (by kernel_rfl) (by kernel_rfl) (fun _ _ _ h => h) (by rfl) trivial ?_
    (try simp only [Act.put, List.setIfInBounds_toArray, List.set_cons_zero, List.set_cons_succ])
    refine any_skip 8 rfl (by kernel_rfl) (by kernel_rfl) (by kernel_rfl) (fun _ _ _ h => h) (by rfl) trivial ?_
    (try simp only [Act.put, List.setIfInBounds_toArray, List.set_cons_zero, List.set_cons_succ])
    refine any_skip 9 rfl (by kernel_rfl) (by kernel_rfl) (by kernel_rfl) (fun _ _ _ h => h) (by rfl) trivial ?_
    (try simp only [Act.put, List.setIfInBounds_toArray, List.set_cons_zero, List.set_cons_succ])
    refine any_skip 10 rfl (by kernel_rfl) (by kernel_rfl) (by kernel_rfl) (fun _ _ _ h => h) (by rfl) trivial ?_
    (try simp only [Act.put, List.setIfInBounds_toArray, List.set_cons_zero, List.set_cons_succ])
    refine any_skip 11 rfl (by kernel_rfl) (by kernel_rfl) (by kernel_rfl) (fun _ _ _ h => h) (by rfl) trivial ?_
    (try simp only [Act.put, List.setIfInBounds_toArray, List.set_cons_zero, List.set_cons_succ])
    refine any_take 12 (.bool false) rfl (by kernel_rfl) (by kernel_rfl) (by kernel_rfl) (fun _ _ _ h => h) (by rfl) (by intro w _; go_simp) trivial ?_
    (try simp only [Act.put, List.setIfInBounds_toArray, List.set_cons_zero, List.set_cons_succ])
    refine any_take 13 (.bool false) rfl (by kernel_rfl) (by kernel_rfl) (by kernel_rfl) (fun _ _ _ h => h) (by rfl) (by intro w _; go_simp) trivial ?_
    (try simp only [Act.put, List.setIfInBounds_toArray, List.set_cons_zero, List.set_cons_succ])
    refine wpAnyH_done (by kernel_rfl) ?_ _
    refine NoPanic.normal ?_
    go_wp2
    go_ret
    exact ⟨rfl, (Below.refl _ _).drew⟩
  · obtain ⟨m, hm⟩ : ∃ m, m = l.length - 3 := ⟨_, rfl⟩
    have hml : l.length = m + 3 := by omega
    obtain ⟨t, ht⟩ : ∃ t, t = l.take m := ⟨_, rfl⟩
    have htl : t.length = m := by rw [ht, List.length_take]; omega
    obtain ⟨x, hx⟩ : ∃ x, x = wholeL t := ⟨_, rfl⟩
    have hx24 : x < 16777216 := by rw [hx]; exact wholeL_lt t
    obtain ⟨F, hF⟩ : ∃ F, F = goodL l := ⟨_, rfl⟩
    have hFe : F = (l.drop m == sum3 x) := by
      have h1 : l.take m ++ l.drop m = l := List.take_append_drop m l
      rw [hF]; unfold goodL; rw [← hm, ← ht]
      have h2 : (fixL t = l) ↔ (l.drop m = sum3 x) := by
        unfold fixL; rw [← hx]
        constructor
        · intro h; rw [← h1, ← ht] at h; exact (List.append_cancel_left h).symm
        · intro h; rw [← h, ht]; exact h1
      by_cases h : l.drop m = sum3 x
      · simp [h2.2 h, h]; omega
      · have : ¬ fixL t = l := fun q => h (h2.1 q)
        simp [this, h]
    rw [← hF]
    have hfit := ha.fits
    obtain ⟨ab, ao, rfl, _⟩ := ha.at' (by intro h; rw [h] at hml; simp at hml)
    have hst : Sees w (some ⟨ab, ao, none⟩) ca t := by rw [ht]; exact ha.take m
    have hsd : Sees w (some ⟨ab, ao + m, none⟩) (ca - m) (l.drop m) := ha.drop m (by omega)
    have hdl : (l.drop m).length = 3 := by rw [List.length_drop]; omega
    have H11 : Hid (∀ V, Below w.heap.size w V → Calls Try.prog 63 #[.slice (some ⟨ab, ao, none⟩) m ca] V fun e w' => e = .returned (.int .u32 (x : Int)) ∧ Below w.heap.size w w') := fun V hV => by
      have := whole_ok V _ ca t (hst.below hV) (by omega)
      rw [htl, ← hx] at this
      exact this.mono fun _ _ ⟨h, hb⟩ => ⟨h, hV.trans (hb.mono hV.size)⟩
    have H19 : Hid (∀ V, Below w.heap.size w V → Calls Try.prog 62 #[.int .u32 (x : Int)] V fun e w' => ∃ d cd, e = .returned (.slice d 3 cd) ∧ Sees w' d cd (sum3 x) ∧ Below w.heap.size w w') := fun V hV =>
      (asbytes_ok V x hx24).mono fun _ _ ⟨d, cd, h, hs, hb⟩ => ⟨d, cd, h, hs, hV.trans (hb.mono hV.size)⟩
    have H21 : Hid (∀ V d cd, Sees V d cd (sum3 x) → Below w.heap.size w V → Calls Try.prog 67 #[.slice (some ⟨ab, ao + m, none⟩) 3 (ca - m), .slice d 3 cd] V fun e w' => e = .returned (.bool F) ∧ Below w.heap.size w w') := fun V d cd hs hV => by
      have := equal_ok V _ d _ cd (l.drop m) (sum3 x) (hsd.below hV) hs
      rw [hdl, ← hFe] at this
      refine this.mono ?_
      rintro e w' ⟨h, rfl⟩
      exact ⟨h, hV⟩
    have g1 : IntKind.i64.wrap ((m : Int) + 3 - 3) = (m : Int) := by rw [IntKind.wrap_i64]; omega
    have g1' : IntKind.i64.wrap (m : Int) = (m : Int) := by rw [IntKind.wrap_i64]; omega
    have g3 : (0 : Int) ≤ (m : Int) := Int.natCast_nonneg _
    have g4 : (m : Int) ≤ (ca : Int) := by omega
    have g5 : m ≤ ca := by omega
    have g6 : m + 3 - m = 3 := by omega
    have g7 : (m : Int) ≤ (m : Int) + 3 := by omega
    have g8 : (m : Int) + 3 ≤ (ca : Int) := by omega
    rw [hml]
    have hm9 : m ≤ 140737488355000 := by omega
    clear ha hst hsd hdl hF hFe hm ht htl hml h3 hll hx hfit
    go_enter Try.func60, Try.ntmps60
    go_wp2
    refine wp_region_noPanic ?_
    refine wp_region_held (S := fun _ => True) (by kernel_rfl) ?_
    refine any_take 0 (.int .i64 (m : Int)) rfl (by kernel_rfl) (by kernel_rfl) (by kernel_rfl) (fun _ _ _ h => h) (by rfl) (by intro w _; go_simp) trivial ?_
    (try simp only [Act.put, List.setIfInBounds_toArray, List.set_cons_zero, List.set_cons_succ])
    refine any_take 1 (.bool true) rfl (by kernel_rfl) (by kernel_rfl) (by kernel_rfl) (fun _ _ _ h => h) (by rfl) (by intro w _; go_simp) trivial ?_
    (try simp only [Act.put, List.setIfInBounds_toArray, List.set_cons_zero, List.set_cons_succ])
    refine any_take 2 (.bool true) rfl (by kernel_rfl) (by kernel_rfl) (by kernel_rfl) (fun _ _ _ h => h) (by rfl) (by intro w _; go_simp) trivial ?_
    (try simp only [Act.put, List.setIfInBounds_toArray, List.set_cons_zero, List.set_cons_succ])
    refine any_take 3 (.slice (some ⟨ab, ao, none⟩) (m + 3) ca) rfl (by kernel_rfl) (by kernel_rfl) (by kernel_rfl) (fun _ _ _ h => h) (by rfl) (by intro w _; go_simp) trivial ?_
    (try simp only [Act.put, List.setIfInBounds_toArray, List.set_cons_zero, List.set_cons_succ])
    refine any_take 4 (.int .i64 (m : Int)) rfl (by kernel_rfl) (by kernel_rfl) (by kernel_rfl) (fun _ _ _ h => h) (by rfl) (by intro w _; go_simp) trivial ?_
    (try simp only [Act.put, List.setIfInBounds_toArray, List.set_cons_zero, List.set_cons_succ])
    refine any_take 5 (.slice (some ⟨ab, ao + m, none⟩) 3 (ca - m)) rfl (by kernel_rfl) (by kernel_rfl) (by kernel_rfl) (fun _ _ _ h => h) (by rfl) (by intro w _; go_simp; omega) trivial ?_
    (try simp only [Act.put, List.setIfInBounds_toArray, List.set_cons_zero, List.set_cons_succ])
    refine any_take 6 (.slice (some ⟨ab, ao, none⟩) (m + 3) ca) rfl (by kernel_rfl) (by kernel_rfl) (by kernel_rfl) (fun _ _ _ h => h) (by rfl) (by intro w _; go_simp) trivial ?_
    (try simp only [Act.put, List.setIfInBounds_toArray, List.set_cons_zero, List.set_cons_succ])
    refine any_take 7 (.int .i64 (m : Int)) rfl (by kernel_rfl) (by kernel_rfl) (by kernel_rfl) (fun _ _ _ h => h) (by rfl) (by intro w _; go_simp) trivial ?_
    (try simp only [Act.put, List.setIfInBounds_toArray, List.set_cons_zero, List.set_cons_succ])
    refine any_take 8 (.slice (some ⟨ab, ao, none⟩) m ca) rfl (by kernel_rfl) (by kernel_rfl) (by kernel_rfl) (fun _ _ _ h => h) (by rfl) (by intro w _; go_simp) trivial ?_
    (try simp only [Act.put, List.setIfInBounds_toArray, List.set_cons_zero, List.set_cons_succ])
    refine any_one 9 rfl (by kernel_rfl) (by rfl) (fun K hK => ?_)
    go_simp
    refine (H11.out _ (Below.refl _ _).drew).mono ?_
    rintro e w11 ⟨rfl, hb11⟩
    refine hK.out _ _ trivial (fun _ => ?_)
    clear hK K
    (try simp only [Act.put, List.setIfInBounds_toArray, List.set_cons_zero, List.set_cons_succ])
    refine any_one 10 rfl (by kernel_rfl) (by rfl) (fun K hK => ?_)
    go_simp
    refine (H19.out _ hb11).mono ?_
    rintro e w19 ⟨d19, c19, rfl, hs19, hb19⟩
    refine hK.out _ _ trivial (fun _ => ?_)
    clear hK K
    (try simp only [Act.put, List.setIfInBounds_toArray, List.set_cons_zero, List.set_cons_succ])
    refine any_one 11 rfl (by kernel_rfl) (by rfl) (fun K hK => ?_)
    go_simp
    refine (H21.out _ d19 c19 hs19 hb19).mono ?_
    rintro e w21 ⟨rfl, hb21⟩
    refine hK.out _ _ trivial (fun _ => ?_)
    clear hK K
    (try simp only [Act.put, List.setIfInBounds_toArray, List.set_cons_zero, List.set_cons_succ])
    refine any_take 12 (.bool F) rfl (by kernel_rfl) (by kernel_rfl) (by kernel_rfl) (fun _ _ _ h => h) (by rfl) (by intro w _; go_simp) trivial ?_
    (try simp only [Act.put, List.setIfInBounds_toArray, List.set_cons_zero, List.set_cons_succ])
    refine any_take 13 (.bool F) rfl (by kernel_rfl) (by kernel_rfl) (by kernel_rfl) (fun _ _ _ h => h) (by rfl) (by intro w _; go_simp) trivial ?_
    (try simp only [Act.put, List.setIfInBounds_toArray, List.set_cons_zero, List.set_cons_succ])
    refine wpAnyH_done (by kernel_rfl) ?_ _
    refine NoPanic.normal ?_
    go_wp2
    go_ret
    exact ⟨rfl, hb21⟩
end Go.Proofs.Ytgnllmcgebonpaa
