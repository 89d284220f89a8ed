/- Bytes xor others, and again, are themselves, and xor themselves they are noughts; lists of different lengths are refused: WordUndone returns true for every two lists of bytes. No condition. -/
import Derived.Test.YtmldfljgngkneaaTurn
import Derived.Test.YtmldfljgngkneaaXor
import Derived.Deep.DrawnRows
namespace Go.Proofs.Ytmldfljgngkneaa.wordUndone
open Go.ChangeShapes Go.WideShapes Go.ChangeAt Go.RowKit
open Go.ChangeMaps (open_string shut_string)
set_option linter.unusedVariables false

theorem own : ownKnob Try.prog.godebug = none := by kernel_rfl
theorem laidOut : laidOutB Try.prog = true := by kernel_rfl

attribute [local go_sem ↓] Go.wp_at_zero Go.wp_at_succ

theorem made_sees (W : World) (n : Nat) (hn : n ≤ maxLen) : Sees (W.alloc (.cells (madeCells #[.int .u8 0] n) 5)) (some ⟨W.heap.size, 0, none⟩) n (List.replicate n 0) := by
  have h := World.ownsRow_lit (base := 0) (e := 5) (size := 1) W (madeCells #[.int .u8 0] n) n (Nat.zero_le _) hn (by simp [size_madeCells])
  rw [made_bytes] at h
  obtain ⟨a, c, hv, hs⟩ := Sees.of_own h
  simp only [Value.slice.injEq] at hv
  rw [← hv.1, ← hv.2.2] at hs
  exact hs

theorem same_len (w : World) (a b : Option Addr) (ca cb : Nat) (xs ys : List UInt8) (n m : Nat) (hn : xs.length = n) (hm : ys.length = m) (ha : Sees w a ca xs) (hb : Sees w b cb ys) :
    Calls Try.prog 21 #[.slice a n ca, .slice b m cb] w fun e w' => e = .returned (.bool (decide (xs = ys))) ∧ w' = w := by
  subst hn hm; exact same_any w a b ca cb xs ys ha hb

set_option maxHeartbeats 1600000 in
theorem walk (a : Option Addr) (ca : Nat) (xs : List UInt8) (b : Option Addr) (cb : Nat) (ys : List UInt8) (w : World) (ha : Sees w a ca xs) (ma : ca ≤ 140737488351232) (hb : Sees w b cb ys) (mb : cb ≤ 140737488351232) :
    Calls Try.prog 7 #[.slice a xs.length ca, .slice b ys.length cb] w fun e w' => e = .returned (.bool true) ∧ Below w.heap.size w w' := by
  by_cases hl : xs.length = ys.length
  · have Hl : Hid (xs.length = ys.length) := hl
    have h1 : ((xs.length : Int) != (ys.length : Int)) = false := by simp; omega
    clear hl
    have hfa := ha.fits
    obtain ⟨i5, hi, hz0, hz1, hz2⟩ := info_parts Try.info5
    have Hx : Hid ((xorL xs ys).length = xs.length) := xorL_length xs ys Hl.out
    obtain ⟨X, hX⟩ : ∃ X, X = xorL xs ys := ⟨_, rfl⟩
    obtain ⟨Z, hZ⟩ : ∃ Z, Z = xorL xs xs := ⟨_, rfl⟩
    have HXl : Hid (X.length = xs.length) := by rw [hX]; exact Hx
    have HZl : Hid (Z.length = xs.length) := by rw [hZ]; exact xorL_length xs xs rfl
    have HXy : Hid (xorL X ys = xs) := by rw [hX]; exact xorL_back xs ys Hl.out
    have HZr : Hid (Z = List.replicate xs.length 0) := by rw [hZ]; exact xorL_self xs
    have hq : (decide (X = Z) == decide (xs = ys)) = true := by
      have := xorL_same xs ys Hl.out
      rw [hX, hZ]; by_cases h : xs = ys <;> simp [this, h]
    have HX : Hid (X = xorL xs ys) := hX
    have HZ : Hid (Z = xorL xs xs) := hZ
    clear hX hZ
    go_enter Try.func7, Try.ntmps7
    go_wp2_with fail
    refine (xor_yes w a b ca cb xs ys ha hb Hl.out (by omega)).mono ?_
    rintro e w1 ⟨c, cc, rfl, hc, hb1⟩
    rw [← HX.out] at hc
    have ha1 := ha.below hb1
    have hb1' := hb.below hb1
    go_wp2_with fail
    rw [← HXl.out]
    refine (xor_yes w1 c b cc cb X ys hc hb1' (HXl.out.trans Hl.out) (by rw [HXl.out]; omega)).mono ?_
    rintro e w2 ⟨d, cd, rfl, hd, hb2⟩
    rw [HXy.out] at hd
    rw [HXl.out]
    have ha2 := ha1.below hb2
    have hb2' := hb1'.below hb2
    have hc2 := hc.below hb2
    go_wp2_with fail
    refine (xor_yes w2 a a ca ca xs xs ha2 ha2 rfl (by omega)).mono ?_
    rintro e w3 ⟨f, cf, rfl, hf, hb3⟩
    rw [← HZ.out] at hf
    have ha3 := ha2.below hb3
    have hb3' := hb2'.below hb3
    have hc3 := hc2.below hb3
    have hd3 := hd.below hb3
    go_wp2_with fail
    obtain ⟨M, hM⟩ : ∃ M, M = madeCells #[Value.int .u8 0] xs.length := ⟨_, rfl⟩
    have hmk : ∀ W : World, (Instr.makeSlice 26 (.int .i64 (xs.length : Int)) (.int .i64 (xs.length : Int))).run Try.prog W = .ok (.slice (some ⟨W.heap.size, 0, none⟩) xs.length xs.length) (W.alloc (.cells M 5)) := fun W => by
      have := run_make (P := Try.prog) W 26 5 i5 (.int .u8 0) Try.underlying26 hi hz0 .i64 .i64 xs.length xs.length (by omega) (by omega) (by rw [hz2]; omega) (by omega)
      rw [this, hM, hz1]
      simp [Value.cells]
    have hcv : (convert 26 9 (.slice (some ⟨w3.heap.size, 0, none⟩) xs.length xs.length)).run Try.prog (w3.alloc (.cells M 5)).drew = .ok (.string ⟨Z.toArray⟩) (w3.alloc (.cells M 5)).drew := by
      have := (made_sees w3.drew xs.length (by unfold maxLen; omega)).convert (P := Try.prog) 26 5 9 Try.underlying26 Try.underlying5 Try.underlying9
      rw [List.length_replicate] at this
      rw [HZr.out, hM]
      exact this
    have HS : Hid (∀ W, Below w3.heap.size w3 W → (convert 26 9 (.slice d xs.length cd)).run Try.prog W = .ok (.string ⟨xs.toArray⟩) W ∧ (convert 26 9 (.slice a xs.length ca)).run Try.prog W = .ok (.string ⟨xs.toArray⟩) W ∧ (convert 26 9 (.slice f xs.length cf)).run Try.prog W = .ok (.string ⟨Z.toArray⟩) W) := fun W hW => by
      have k1 := (hd3.below hW).convert (P := Try.prog) 26 5 9 Try.underlying26 Try.underlying5 Try.underlying9
      have k2 := (ha3.below hW).convert (P := Try.prog) 26 5 9 Try.underlying26 Try.underlying5 Try.underlying9
      have k3 := (hf.below hW).convert (P := Try.prog) 26 5 9 Try.underlying26 Try.underlying5 Try.underlying9
      rw [HZl.out] at k3
      exact ⟨k1, k2, k3⟩
    have HM : Hid (M = madeCells #[Value.int .u8 0] xs.length) := hM
    clear hM
    refine wp_region_noPanic ?_
    go_region_held (fun W => (convert 26 9 (.slice d xs.length cd)).run Try.prog W = .ok (.string ⟨xs.toArray⟩) W ∧ (convert 26 9 (.slice a xs.length ca)).run Try.prog W = .ok (.string ⟨xs.toArray⟩) W ∧ (convert 26 9 (.slice f xs.length cf)).run Try.prog W = .ok (.string ⟨Z.toArray⟩) W)
      ((refine HS.out _ ?_; repeat (first | exact Below.refl _ _ | apply Below.drew | (refine Below.alloc ?_ (by simp) _))))
      (first
        | (go_at_call_of 21 (Value.slice c xs.length cc); refine (same_len _ c f cc cf X Z xs.length xs.length HXl.out HZl.out ?_ ?_).mono ?_; exact hc3.below (by repeat (first | exact Below.refl _ _ | apply Below.drew | (refine Below.alloc ?_ (by simp) _))); exact hf.below (by repeat (first | exact Below.refl _ _ | apply Below.drew | (refine Below.alloc ?_ (by simp) _))); rintro e w' ⟨rfl, rfl⟩)
        | (go_at_call_of 21 (Value.slice a xs.length ca); refine (same_len _ a b ca cb xs ys xs.length ys.length rfl rfl ?_ ?_).mono ?_; exact ha3.below (by repeat (first | exact Below.refl _ _ | apply Below.drew | (refine Below.alloc ?_ (by simp) _))); exact hb3'.below (by repeat (first | exact Below.refl _ _ | apply Below.drew | (refine Below.alloc ?_ (by simp) _))); rintro e w' ⟨rfl, rfl⟩)
        | (go_at_call 10; refine (awake_any _).mono ?_; rintro e w' ⟨rfl, rfl⟩))
    refine NoPanic.normal ?_
    go_wp2
    go_ret
    exact ⟨rfl, ((hb1.trans (hb2.mono hb1.size)).trans (hb3.mono (Nat.le_trans hb1.size hb2.size))).trans (((Below.refl _ _).alloc (Nat.le_trans hb1.size (Nat.le_trans hb2.size hb3.size)) _).drew)⟩
  · have h1 : ((xs.length : Int) != (ys.length : Int)) = true := by simp; omega
    go_enter Try.func7, Try.ntmps7
    go_wp2_with fail
    refine (xor_no w a b ca cb xs ys hl).mono ?_
    rintro e w1 ⟨rfl, rfl⟩
    go_wp2
    go_ret
    exact ⟨rfl, Below.refl _ _⟩

set_option maxRecDepth 100000 in
theorem lifted (os : Os) (started : os.Started) (H : Type) (enc : TypeId × Value → H) :
    ReturnsInHanded {} Try.checked os 7 .any (Rows.wordUndoneSpec.pre6 enc Try.prog Try.f7 Rows.wordUndoneRow.domain false) (Rows.wordUndoneSpec.post enc Try.prog Try.f7 false true false false) := by
  refine returnsInHanded_of_change_sized (C := Try.checked) own started (by kernel_rfl) Try.func7
    (ChangeSpec.witness6 (enc := enc) (C := Try.checked) false ⟨#[], #[.slice none 0 0, .slice none 0 0], []⟩ 8 (by kernel_rfl) (by kernel_rfl) (by kernel_rfl) (by kernel_rfl)) ?_
  intro W base args ds gs before hval0 hW hcnd hsz0 _
  have hval : ∀ (j : Nat) t v, Try.f7.params[j]? = some t → args[j]? = some v → Value.okWide Try.prog W .any base t v := hval0
  have hsz : (DataW.weightsEach Try.prog (Try.f7.params.toList ++ Rows.wordUndoneSpec.plain.varTypes Try.prog) (ds ++ gs)).all (· ≤ reachBytes) = true := hsz0
  have hW' := hW
  obtain ⟨p, q, hA0, hV, rfl, hfz, hnd⟩ := hW
  have hA : DataW.TrodAll enc Try.prog W 0 (fun _ => true) true Try.f7.params.toList args.toList ds p := hA0
  rw [Try.params7] at hA hval hsz
  obtain ⟨v0, vs0, d0, ds0, p0, q0, hargs, rfl, rfl, h0, r0⟩ := trodAll_cons hA
  obtain ⟨v1, vs1, d1, ds1, p1, q1, rfl, rfl, rfl, h1, r1⟩ := trodAll_cons r0
  obtain ⟨rfl, rfl, rfl⟩ := trodAll_nil r1
  obtain rfl : args = #[v0, v1] := by cases args; simp_all
  obtain ⟨rfl, rfl⟩ := trodVars_none hV
  obtain ⟨a0, len0, cap0, rfl⟩ := okWide_slice Try.underlying26 (hval 0 26 v0 rfl rfl)
  have k0 := h0
  have lt0 : ∀ x ∈ p0, x.block < W.heap.size := by obtain ⟨m, hm⟩ := k0; exact DataW.trod_lt m _ _ _ hm
  obtain ⟨b0, rfl, s0, m0⟩ : ∃ bs : List UInt8, len0 = bs.length ∧ Sees W a0 cap0 bs ∧ cap0 ≤ 140737488351232 := by
    obtain ⟨fuel, hf⟩ := h0
    exact sees_of_arg Try.underlying26 Try.underlying5 (by kernel_rfl) (by kernel_rfl) hf hsz (j := 0) rfl rfl
  obtain ⟨a1, len1, cap1, rfl⟩ := okWide_slice Try.underlying26 (hval 1 26 v1 rfl rfl)
  have k1 := h1
  have lt1 : ∀ x ∈ p1, x.block < W.heap.size := by obtain ⟨m, hm⟩ := k1; exact DataW.trod_lt m _ _ _ hm
  obtain ⟨b1, rfl, s1, m1⟩ : ∃ bs : List UInt8, len1 = bs.length ∧ Sees W a1 cap1 bs ∧ cap1 ≤ 140737488351232 := by
    obtain ⟨fuel, hf⟩ := h1
    exact sees_of_arg Try.underlying26 Try.underlying5 (by kernel_rfl) (by kernel_rfl) hf hsz (j := 1) rfl rfl
  clear hA0 hval0 hsz0
  refine (walk a0 cap0 b0 a1 cap1 b1 W s0 m0 s1 m1).mono fun e W' ⟨he, bel⟩ => ?_
  subst he
  exact ⟨_, rfl, _, _, _, [], _, [], hW', trodAll_mk1 (shut_bool Try.underlying4 _), (trodAll_cons_mk (Below.trod laidOut (by kernel_rfl) (of_decide_eq_true (by kernel_rfl)) k0 bel lt0) (trodAll_cons_mk (Below.trod laidOut (by kernel_rfl) (of_decide_eq_true (by kernel_rfl)) k1 bel lt1) trodAll_mk0)), rfl, bel.frame _, fun h => by cases h⟩

theorem over : Rows.wordUndoneRow.holds Try.pinned (OpenSpec.ofChange Rows.wordUndoneSpec) :=
  OpenClaim.holds_of_wide 7 Try.f7 rfl rfl rfl rfl rfl rfl rfl ⟨rfl, rfl, rfl, rfl, rfl⟩ rfl rfl rfl rfl rfl (by kernel_rfl) Try.func7 (by kernel_rfl)
    (of_decide_eq_true (by kernel_rfl)) (by unfold Func.isWrapper; first | (rw [if_pos (by decide +kernel)]; kernel_rfl) | (rw [if_neg (by decide +kernel)]; exact ⟨rfl, rfl⟩))
    (fun os started H enc _ => lifted os started H enc)

end Go.Proofs.Ytmldfljgngkneaa.wordUndone
namespace Go.Proofs.Ytmldfljgngkneaa
theorem wordUndone_holds : Rows.WordUndoneSaid := wordUndone.over
#print axioms wordUndone_holds
end Go.Proofs.Ytmldfljgngkneaa
