/- The words at any place of any bytes, and the bytes with words behind them, are the document's: WordLoads returns true for every list of bytes, every place, every word and every long word. No condition. -/
import Derived.Test.YtmldfljgngkneaaTurn
import Derived.Test.YtmldfljgngkneaaRef
namespace Go.Proofs.Ytmldfljgngkneaa.wordLoads
open Go.ChangeShapes Go.WideShapes Go.ChangeAt Go.RowKit
open Go.ChangeMaps (open_string shut_string)
set_option linter.unusedVariables false

theorem own : ownKnob Try.prog.godebug = none := by kernel_rfl
theorem laidOut : laidOutB Try.prog = true := by kernel_rfl

/-- What Load and Long answer, by the place. -/
theorem load_any (w : World) (a : Option Addr) (ca : Nat) (bs : List UInt8) (p : Int) (ha : Sees w a ca bs) :
    ∃ (x y : Nat) (e f : Int), ∀ w', Below w.heap.size w w' →
      (Calls Try.prog 11 #[.slice a bs.length ca, .int .i64 p] w' fun r w2 => r = .returned (.tuple #[.int .u32 x, .int .i64 e]) ∧ w2 = w') ∧
      (Calls Try.prog 12 #[.slice a bs.length ca, .int .i64 p] w' fun r w2 => r = .returned (.tuple #[.int .u32 x, .int .i64 e]) ∧ w2 = w') ∧
      (Calls Try.prog 13 #[.slice a bs.length ca, .int .i64 p] w' fun r w2 => r = .returned (.tuple #[.int .u64 y, .int .i64 f]) ∧ w2 = w') ∧
      (Calls Try.prog 14 #[.slice a bs.length ca, .int .i64 p] w' fun r w2 => r = .returned (.tuple #[.int .u64 y, .int .i64 f]) ∧ w2 = w') := by
  have hl : bs.length ≤ 9223372036854775807 := by have := ha.fits; have := ha.room; unfold maxLen at this; omega
  by_cases h4 : p < 0 ∨ (bs.length : Int) - 4 < p
  · exact ⟨0, 0, 1, 1, fun w' hb => ⟨Load32_no w' a _ ca p hl h4, RefLoad_no w' a _ ca p hl h4, Load64_no w' a _ ca p hl (by omega), RefLong_no w' a _ ca p hl (by omega)⟩⟩
  · obtain ⟨q, rfl⟩ : ∃ q : Nat, p = q := ⟨p.toNat, by omega⟩
    by_cases h8 : (bs.length : Int) - 8 < q
    · exact ⟨_, 0, 0, 1, fun w' hb => ⟨Load32_yes w' a ca bs q (ha.below hb) (by omega), RefLoad_yes w' a ca bs q (ha.below hb) (by omega), Load64_no w' a _ ca q hl (by omega), RefLong_no w' a _ ca q hl (by omega)⟩⟩
    · exact ⟨_, _, 0, 0, fun w' hb => ⟨Load32_yes w' a ca bs q (ha.below hb) (by omega), RefLoad_yes w' a ca bs q (ha.below hb) (by omega), Load64_yes w' a ca bs q (ha.below hb) (by omega), RefLong_yes w' a ca bs q (ha.below hb) (by omega)⟩⟩

set_option maxHeartbeats 800000 in
theorem walk (a : Option Addr) (ca : Nat) (bs : List UInt8) (p x1 x2 : Int) (w : World) (ha : Sees w a ca bs) (ma : ca ≤ 140737488351232) (wp : (Lit.int .i64 p).wf = true) (wx : (Lit.int .u32 x1).wf = true) (wn : (Lit.int .u64 x2).wf = true) :
    Calls Try.prog 4 #[.slice a bs.length ca, .int .i64 p, .int .u32 x1, .int .u64 x2] w fun e w' => e = .returned (.bool true) ∧ Below w.heap.size w w' := by
  obtain ⟨x, rfl⟩ : ∃ x : Nat, x1 = x := ⟨x1.toNat, by have := bounds_u32 wx; omega⟩
  obtain ⟨n, rfl⟩ : ∃ n : Nat, x2 = n := ⟨x2.toNat, by have := bounds_u64 wn; omega⟩
  have hx : x < 4294967296 := by have := bounds_u32 wx; omega
  have hn : n < 18446744073709551616 := by have := bounds_u64 wn; omega
  have hfa := ha.fits
  obtain ⟨u, v, e, f, HL⟩ := load_any w a ca bs p ha
  have hq1 : ((u : Int) == (u : Int)) = true := by simp
  obtain ⟨k1, k2, k3, k4⟩ := HL w (Below.refl _ _)
  have K1 : Hid _ := k1
  have K2 : Hid _ := k2
  have K3 : Hid _ := k3
  have K4 : Hid _ := k4
  clear HL k1 k2 k3 k4 wp wx wn
  obtain ⟨y, hy, hyx⟩ : ∃ y : Nat, y < 4294967296 ∧ bits BinOp.xor IntKind.u32 IntKind.u32.max (x : Int) = (y : Int) :=
    ⟨4294967295 ^^^ x, Nat.xor_lt_two_pow (n := 32) (by omega) (by omega), u32_xor_nat 4294967295 x (by omega) hx⟩
  go_enter Try.func4, Try.ntmps4
  go_wp2_with fail
  refine Calls.mono K1.out ?_
  rintro e1 w' ⟨rfl, rfl⟩
  go_wp2_with fail
  refine Calls.mono K2.out ?_
  rintro e1 w' ⟨rfl, rfl⟩
  go_wp2_with fail
  refine Calls.mono K3.out ?_
  rintro e1 w' ⟨rfl, rfl⟩
  go_wp2_with fail
  refine Calls.mono K4.out ?_
  rintro e1 w' ⟨rfl, rfl⟩
  clear K1 K2 K3 K4
  go_wp2_with fail
  have hW := Words.lit w' 22 [x, y] (by simp) (by simp; omega)
  have hb0 : Below w'.heap.size w' (w'.alloc (.cells #[.int .u32 (x : Int), .int .u32 (y : Int)] 22)) := (Below.refl _ _).alloc (Nat.le_refl _) _
  have ha0 := ha.below hb0
  refine (put_any _ a _ ca 2 bs [x, y] ha0 hW (by omega) (by simp)).mono ?_
  rintro e1 w1 ⟨d1, c1, r1, HR1, rfl, hs1, hb1⟩
  have hl1 : r1.length ≤ 140737488351240 := by rw [HR1.out, List.length_append, w4s_length]; simp; omega
  go_wp2_with fail
  refine (putlong_any _ d1 c1 r1 n hs1 (by omega) hn).mono ?_
  rintro e1 w2 ⟨d2, c2, r2, HR2, rfl, hs2, hb2⟩
  have hbw : Below w'.heap.size w' w2 := (hb0.trans (hb1.mono (by simp))).trans (hb2.mono (Nat.le_trans hb0.size hb1.size))
  have ha2 := ha.below hbw
  clear hW
  go_wp2_with fail
  have hW2 := Words.lit w2 22 [x, y] (by simp) (by simp; omega)
  have hb3 : Below w2.heap.size w2 (w2.alloc (.cells #[.int .u32 (x : Int), .int .u32 (y : Int)] 22)) := (Below.refl _ _).alloc (Nat.le_refl _) _
  have ha3 := ha2.below hb3
  refine (refput_any _ a _ ca 2 bs [x, y] ha3 hW2 (by omega) (by simp)).mono ?_
  rintro e1 w4 ⟨d4, c4, r4, HR4, rfl, hs4, hb4⟩
  have hl4 : r4.length ≤ 140737488351240 := by rw [HR4.out, List.length_append, w4s_length]; simp; omega
  go_wp2_with fail
  refine (refputlong_any _ d4 c4 r4 n hs4 (by omega) hn).mono ?_
  rintro e1 w5 ⟨d5, c5, r5, HR5, rfl, hs5, hb5⟩
  have hbw2 : Below w2.heap.size w2 w5 := (hb3.trans (hb4.mono (by simp))).trans (hb5.mono (Nat.le_trans hb3.size hb4.size))
  have hbz : Below w'.heap.size w' w5 := hbw.trans (hbw2.mono hbw.size)
  have hE : r5 = r2 := by rw [HR5.out, HR2.out, HR4.out, HR1.out]
  have e5 := hs5.convert (P := Try.prog) 26 5 9 Try.underlying26 Try.underlying5 Try.underlying9
  have e2 := (hs2.below hbw2).convert (P := Try.prog) 26 5 9 Try.underlying26 Try.underlying5 Try.underlying9
  subst hE
  clear hW2
  go_wp2_with fail
  refine (awake_any _).mono ?_
  rintro e1 w6 ⟨rfl, rfl⟩
  go_wp2
  go_ret
  exact ⟨rfl, hbz⟩

set_option maxRecDepth 100000 in
theorem lifted (os : Os) (started : os.Started) (H : Type) (enc : TypeId × Value → H) :
    ReturnsInHanded {} Try.checked os 4 .any (Rows.wordLoadsSpec.pre6 enc Try.prog Try.f4 Rows.wordLoadsRow.domain false) (Rows.wordLoadsSpec.post enc Try.prog Try.f4 false true false false) := by
  refine returnsInHanded_of_change_sized (C := Try.checked) own started (by kernel_rfl) Try.func4
    (ChangeSpec.witness6 (enc := enc) (C := Try.checked) false ⟨#[], #[.slice none 0 0, .int .i64 0, .int .u32 0, .int .u64 0], []⟩ 8 (by kernel_rfl) (by kernel_rfl) (by kernel_rfl) (by kernel_rfl)) ?_
  intro W base args ds gs before hval0 hW hcnd hsz0 _
  have hval : ∀ (j : Nat) t v, Try.f4.params[j]? = some t → args[j]? = some v → Value.okWide Try.prog W .any base t v := hval0
  have hsz : (DataW.weightsEach Try.prog (Try.f4.params.toList ++ Rows.wordLoadsSpec.plain.varTypes Try.prog) (ds ++ gs)).all (· ≤ reachBytes) = true := hsz0
  have hW' := hW
  obtain ⟨p, q, hA0, hV, rfl, hfz, hnd⟩ := hW
  have hA : DataW.TrodAll enc Try.prog W 0 (fun _ => true) true Try.f4.params.toList args.toList ds p := hA0
  rw [Try.params4] at hA hval hsz
  obtain ⟨v0, vs0, d0, ds0, p0, q0, hargs, rfl, rfl, h0, r0⟩ := trodAll_cons hA
  obtain ⟨v1, vs1, d1, ds1, p1, q1, rfl, rfl, rfl, h1, r1⟩ := trodAll_cons r0
  obtain ⟨v2, vs2, d2, ds2, p2, q2, rfl, rfl, rfl, h2, r2⟩ := trodAll_cons r1
  obtain ⟨v3, vs3, d3, ds3, p3, q3, rfl, rfl, rfl, h3, r3⟩ := trodAll_cons r2
  obtain ⟨rfl, rfl, rfl⟩ := trodAll_nil r3
  obtain rfl : args = #[v0, v1, v2, v3] := by cases args; simp_all
  obtain ⟨rfl, rfl⟩ := trodVars_none hV
  obtain ⟨a0, len0, cap0, rfl⟩ := okWide_slice Try.underlying26 (hval 0 26 v0 rfl rfl)
  have k0 := h0
  have lt0 : ∀ x ∈ p0, x.block < W.heap.size := by obtain ⟨m, hm⟩ := k0; exact DataW.trod_lt m _ _ _ hm
  obtain ⟨b0, rfl, s0, m0⟩ : ∃ bs : List UInt8, len0 = bs.length ∧ Sees W a0 cap0 bs ∧ cap0 ≤ 140737488351232 := by
    obtain ⟨fuel, hf⟩ := h0
    exact sees_of_arg Try.underlying26 Try.underlying5 (by kernel_rfl) (by kernel_rfl) hf hsz (j := 0) rfl rfl
  obtain ⟨x1, rfl, rfl, rfl, w1⟩ := open_int Try.underlying3 (hval 1 3 v1 rfl rfl) h1
  obtain ⟨x2, rfl, rfl, rfl, w2⟩ := open_int Try.underlying22 (hval 2 22 v2 rfl rfl) h2
  obtain ⟨x3, rfl, rfl, rfl, w3⟩ := open_int Try.underlying27 (hval 3 27 v3 rfl rfl) h3
  clear hA0 hval0 hsz0
  refine (walk a0 cap0 b0 x1 x2 x3 W s0 m0 w1 w2 w3).mono fun e W' ⟨he, bel⟩ => ?_
  subst he
  exact ⟨_, rfl, _, _, _, [], _, [], hW', trodAll_mk1 (shut_bool Try.underlying4 _), (trodAll_cons_mk (Below.trod laidOut (by kernel_rfl) (of_decide_eq_true (by kernel_rfl)) k0 bel lt0) (trodAll_cons_mk (shut_int Try.underlying3 w1) (trodAll_cons_mk (shut_int Try.underlying22 w2) (trodAll_cons_mk (shut_int Try.underlying27 w3) trodAll_mk0)))), rfl, bel.frame _, fun h => by cases h⟩

theorem over : Rows.wordLoadsRow.holds Try.pinned (OpenSpec.ofChange Rows.wordLoadsSpec) :=
  OpenClaim.holds_of_wide 4 Try.f4 rfl rfl rfl rfl rfl rfl rfl ⟨rfl, rfl, rfl, rfl, rfl⟩ rfl rfl rfl rfl rfl (by kernel_rfl) Try.func4 (by kernel_rfl)
    (of_decide_eq_true (by kernel_rfl)) (by unfold Func.isWrapper; first | (rw [if_pos (by decide +kernel)]; kernel_rfl) | (rw [if_neg (by decide +kernel)]; exact ⟨rfl, rfl⟩))
    (fun os started H enc _ => lifted os started H enc)

end Go.Proofs.Ytmldfljgngkneaa.wordLoads
namespace Go.Proofs.Ytmldfljgngkneaa
theorem wordLoads_holds : Rows.WordLoadsSaid := wordLoads.over
#print axioms wordLoads_holds
end Go.Proofs.Ytmldfljgngkneaa
