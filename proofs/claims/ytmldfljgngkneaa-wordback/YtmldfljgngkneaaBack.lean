/- What is put behind any bytes is loaded again at its place, and what stood ahead stays: WordBack returns true for every list of bytes, every word and every long word. No condition. -/
import Derived.Test.YtmldfljgngkneaaLoad
import Derived.Test.YtmldfljgngkneaaPut
namespace Go.Proofs.Ytmldfljgngkneaa.wordBack
open Go.ChangeShapes Go.WideShapes Go.ChangeAt Go.RowKit
open Go.ChangeMaps (open_string shut_string)
set_option linter.unusedVariables false

theorem own : ownKnob Try.prog.godebug = none := by kernel_rfl
theorem laidOut : laidOutB Try.prog = true := by kernel_rfl

theorem drop_back {α : Type} (l m r : List α) : ((l ++ (m ++ r)).drop l.length).take m.length = m := by simp

theorem long_back (n : Nat) (h : n < 18446744073709551616) : be (w4s [n / 4294967296, n % 4294967296]) = n := by
  have e : w4s [n / 4294967296, n % 4294967296] = w4 (n / 4294967296) ++ w4 (n % 4294967296) := by simp [w4s]
  rw [e, be_append, be_w4 _ (by omega), be_w4 _ (by omega), w4_length]
  omega

set_option maxHeartbeats 800000 in
theorem walk (a : Option Addr) (ca : Nat) (bs : List UInt8) (x1 x2 : Int) (w : World) (ha : Sees w a ca bs) (ma : ca ≤ 140737488351232) (wx : (Lit.int .u32 x1).wf = true) (wn : (Lit.int .u64 x2).wf = true) :
    Calls Try.prog 5 #[.slice a bs.length ca, .int .u32 x1, .int .u64 x2] w fun e w' => e = .returned (.bool true) ∧ Below w.heap.size w w' := by
  obtain ⟨x, rfl⟩ : ∃ x : Nat, x1 = x := ⟨x1.toNat, by have := bounds_u32 wx; omega⟩
  obtain ⟨n, rfl⟩ : ∃ n : Nat, x2 = n := ⟨x2.toNat, by have := bounds_u64 wn; omega⟩
  have hx : x < 4294967296 := by have := bounds_u32 wx; omega
  have hn : n < 18446744073709551616 := by have := bounds_u64 wn; omega
  have hfa := ha.fits
  have hW := Words.lit w 22 [x] (by simp) (by simpa using hx)
  have hb0 : Below w.heap.size w (w.alloc (.cells #[.int .u32 (x : Int)] 22)) := (Below.refl _ _).alloc (Nat.le_refl _) _
  have ha0 := ha.below hb0
  clear wx wn
  go_enter Try.func5, Try.ntmps5
  go_wp2_with fail
  refine (put_any _ a _ ca 1 bs [x] ha0 hW (by omega) (by simp)).mono ?_
  rintro e w1 ⟨d1, c1, r1, HR1, rfl, hs1, hb1⟩
  have hl1 : r1.length ≤ 140737488351236 := by rw [HR1.out, List.length_append, w4s_length]; simp; omega
  go_wp2_with fail
  refine (putlong_any _ d1 c1 r1 n hs1 (by omega) hn).mono ?_
  rintro e w2 ⟨d2, c2, r2, HR2, rfl, hs2, hb2⟩
  have HR : Hid (r2 = bs ++ (w4 x ++ w4s [n / 4294967296, n % 4294967296])) := by
    rw [HR2.out, HR1.out]; simp [Hid, w4s]
  have Hlen : Hid (r2.length = bs.length + 12) := by
    rw [HR.out]; simp [Hid, w4s_length, w4_length]
  have hbw : Below w.heap.size w w2 := (hb0.trans (hb1.mono (by simp))).trans (hb2.mono (Nat.le_trans hb0.size hb1.size))
  have hload : be ((r2.drop bs.length).take 4) = x := by
    rw [HR.out]
    have := drop_back bs (w4 x) (w4s [n / 4294967296, n % 4294967296])
    rw [w4_length] at this
    rw [this, be_w4 x hx]
  have hlong : be ((r2.drop (bs.length + 4)).take 8) = n := by
    have e : r2 = (bs ++ w4 x) ++ (w4s [n / 4294967296, n % 4294967296] ++ []) := by rw [HR.out]; simp
    have := drop_back (bs ++ w4 x) (w4s [n / 4294967296, n % 4294967296]) []
    rw [← e, List.length_append, w4_length, w4s_length] at this
    simp only [List.length_cons, List.length_nil] at this
    rw [this, long_back n hn]
  have hq : ((r2.length : Int) == (bs.length : Int) + 12) = true := by have := Hlen.out; simp; omega
  have hle : bs.length + 12 ≤ r2.length := by have := Hlen.out; omega
  have hf2 := hs2.fits
  have hm2 := hs2.room
  unfold maxLen at hm2
  obtain ⟨b2, o2, hd2, _⟩ := hs2.at' (by intro h; rw [h] at hle; simp at hle)
  have e1 := fun k => ((hs2.take bs.length).drewN k).convert (P := Try.prog) 26 5 9 Try.underlying26 Try.underlying5 Try.underlying9
  have htk : r2.take bs.length = bs := by rw [HR.out]; simp
  rw [htk, hd2] at e1
  have e2 := fun k => ((ha.below hbw).drewN k).convert (P := Try.prog) 26 5 9 Try.underlying26 Try.underlying5 Try.underlying9
  have HL := hs2
  rw [hd2] at HL ⊢
  clear hd2 htk
  go_wp2_with fail
  refine (Load32_yes w2 _ c2 r2 bs.length HL (by omega)).mono ?_
  rintro e w' ⟨rfl, rfl⟩
  go_wp2_with fail
  rw [show ((bs.length : Int) + 4) = ((bs.length + 4 : Nat) : Int) from by omega]
  refine (Load64_yes _ _ c2 r2 (bs.length + 4) HL (by omega)).mono ?_
  rintro e w' ⟨rfl, rfl⟩
  go_wp2_with fail
  go_quiet (fail)
  go_wp2
  go_ret
  exact ⟨rfl, hbw.trans ⟨rfl, rfl, rfl, Nat.le_refl _, fun _ _ => rfl⟩⟩

set_option maxRecDepth 100000 in
theorem lifted (os : Os) (started : os.Started) (H : Type) (enc : TypeId × Value → H) :
    ReturnsInHanded {} Try.checked os 5 .any (Rows.wordBackSpec.pre6 enc Try.prog Try.f5 Rows.wordBackRow.domain false) (Rows.wordBackSpec.post enc Try.prog Try.f5 false true false false) := by
  refine returnsInHanded_of_change_sized (C := Try.checked) own started (by kernel_rfl) Try.func5
    (ChangeSpec.witness6 (enc := enc) (C := Try.checked) false ⟨#[], #[.slice none 0 0, .int .u32 0, .int .u64 0], []⟩ 8 (by kernel_rfl) (by kernel_rfl) (by kernel_rfl) (by kernel_rfl)) ?_
  intro W base args ds gs before hval0 hW hcnd hsz0 _
  have hval : ∀ (j : Nat) t v, Try.f5.params[j]? = some t → args[j]? = some v → Value.okWide Try.prog W .any base t v := hval0
  have hsz : (DataW.weightsEach Try.prog (Try.f5.params.toList ++ Rows.wordBackSpec.plain.varTypes Try.prog) (ds ++ gs)).all (· ≤ reachBytes) = true := hsz0
  have hW' := hW
  obtain ⟨p, q, hA0, hV, rfl, hfz, hnd⟩ := hW
  have hA : DataW.TrodAll enc Try.prog W 0 (fun _ => true) true Try.f5.params.toList args.toList ds p := hA0
  rw [Try.params5] at hA hval hsz
  obtain ⟨v0, vs0, d0, ds0, p0, q0, hargs, rfl, rfl, h0, r0⟩ := trodAll_cons hA
  obtain ⟨v1, vs1, d1, ds1, p1, q1, rfl, rfl, rfl, h1, r1⟩ := trodAll_cons r0
  obtain ⟨v2, vs2, d2, ds2, p2, q2, rfl, rfl, rfl, h2, r2⟩ := trodAll_cons r1
  obtain ⟨rfl, rfl, rfl⟩ := trodAll_nil r2
  obtain rfl : args = #[v0, v1, v2] := by cases args; simp_all
  obtain ⟨rfl, rfl⟩ := trodVars_none hV
  obtain ⟨a0, len0, cap0, rfl⟩ := okWide_slice Try.underlying26 (hval 0 26 v0 rfl rfl)
  have k0 := h0
  have lt0 : ∀ x ∈ p0, x.block < W.heap.size := by obtain ⟨m, hm⟩ := k0; exact DataW.trod_lt m _ _ _ hm
  obtain ⟨b0, rfl, s0, m0⟩ : ∃ bs : List UInt8, len0 = bs.length ∧ Sees W a0 cap0 bs ∧ cap0 ≤ 140737488351232 := by
    obtain ⟨fuel, hf⟩ := h0
    exact sees_of_arg Try.underlying26 Try.underlying5 (by kernel_rfl) (by kernel_rfl) hf hsz (j := 0) rfl rfl
  obtain ⟨x1, rfl, rfl, rfl, w1⟩ := open_int Try.underlying22 (hval 1 22 v1 rfl rfl) h1
  obtain ⟨x2, rfl, rfl, rfl, w2⟩ := open_int Try.underlying27 (hval 2 27 v2 rfl rfl) h2
  clear hA0 hval0 hsz0
  refine (walk a0 cap0 b0 x1 x2 W s0 m0 w1 w2).mono fun e W' ⟨he, bel⟩ => ?_
  subst he
  exact ⟨_, rfl, _, _, _, [], _, [], hW', trodAll_mk1 (shut_bool Try.underlying4 _), (trodAll_cons_mk (Below.trod laidOut (by kernel_rfl) (of_decide_eq_true (by kernel_rfl)) k0 bel lt0) (trodAll_cons_mk (shut_int Try.underlying22 w1) (trodAll_cons_mk (shut_int Try.underlying27 w2) trodAll_mk0))), rfl, bel.frame _, fun h => by cases h⟩

theorem over : Rows.wordBackRow.holds Try.pinned (OpenSpec.ofChange Rows.wordBackSpec) :=
  OpenClaim.holds_of_wide 5 Try.f5 rfl rfl rfl rfl rfl rfl rfl ⟨rfl, rfl, rfl, rfl, rfl⟩ rfl rfl rfl rfl rfl (by kernel_rfl) Try.func5 (by kernel_rfl)
    (of_decide_eq_true (by kernel_rfl)) (by unfold Func.isWrapper; first | (rw [if_pos (by decide +kernel)]; kernel_rfl) | (rw [if_neg (by decide +kernel)]; exact ⟨rfl, rfl⟩))
    (fun os started H enc _ => lifted os started H enc)

end Go.Proofs.Ytmldfljgngkneaa.wordBack
namespace Go.Proofs.Ytmldfljgngkneaa
theorem wordBack_holds : Rows.WordBackSaid := wordBack.over
#print axioms wordBack_holds
end Go.Proofs.Ytmldfljgngkneaa
