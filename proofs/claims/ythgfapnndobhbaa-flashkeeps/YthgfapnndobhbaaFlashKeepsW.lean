/-
  The walk of FlashKeeps.
-/
import Derived.Test.YthgfapnndobhbaaFlashHeld
namespace Go.Proofs.Ythgfapnndobhbaa
open Go.ChangeShapes Go.WideShapes Go.ChangeAt Go.RowKit

theorem wf_i64 (z : Int) (h1 : -9223372036854775808 ≤ z) (h2 : z ≤ 9223372036854775807) : (Lit.int .i64 z).wf = true := by
  have m1 : IntKind.i64.min = -9223372036854775808 := by decide
  have m2 : IntKind.i64.max = 9223372036854775807 := by decide
  show (decide (IntKind.i64.min ≤ z) && decide (z ≤ IntKind.i64.max)) = true
  rw [m1, m2]
  simp [h1, h2]

theorem put_parts (B : List UInt8) (K c : Nat) (b : List UInt8) (hB : B.length = 200) (h : K + c ≤ 200) (hc : c ≤ b.length) :
    (putAt B K c b).take K = B.take K ∧ ((putAt B K c b).drop K).take c = b.take c ∧ (putAt B K c b).drop (K + c) = B.drop (K + c) := by
  have l1 : (B.take K).length = K := by rw [List.length_take, hB]; omega
  have l2 : (b.take c).length = c := by rw [List.length_take]; omega
  unfold putAt
  refine ⟨?_, ?_, ?_⟩
  · rw [List.append_assoc, List.take_append_of_le_length (by omega), List.take_of_length_le (by omega)]
  · rw [List.append_assoc, List.drop_append, List.drop_of_length_le (by omega), List.nil_append, l1, Nat.sub_self, List.drop_zero, List.take_append_of_le_length (by omega), List.take_of_length_le (by omega)]
  · have l3 : (B.take K ++ b.take c).length = K + c := by rw [List.length_append, l1, l2]
    rw [List.drop_append, List.drop_of_length_le (by omega), List.nil_append, l3, Nat.sub_self, List.drop_zero]

theorem first_put (f : List UInt8) (hf : f.length ≤ 200) : ∃ B, B.length = 200 ∧ writeS (newS 200) 0 f = ⟨B, 1, false, 0, 0, false⟩ := by
  have hc : checkE (newS 200) 0 f.length = 0 := by
    unfold checkE
    have e1 : (newS 200).dead = false := rfl
    have e2 : (newS 200).b.length = 200 := rfl
    rw [e1, e2, if_neg (by simp), if_neg (by omega)]
  refine ⟨putAt (newS 200).b 0 f.length f, ?_, ?_⟩
  · rw [putAt_len _ _ _ _ (by have e2 : (newS 200).b.length = 200 := rfl
                              omega) (Nat.le_refl _)]; rfl
  · unfold writeS; rw [if_neg (by simp [hc])]; rfl

theorem next_put (B : List UInt8) (hB : B.length = 200) (K : Nat) (b : List UInt8) (h : K + b.length ≤ 200) :
    0 = writeE ⟨B, 1, false, 0, 0, false⟩ (K : Int) b ∧ ⟨putAt B K b.length b, 2, false, 0, 0, false⟩ = writeS ⟨B, 1, false, 0, 0, false⟩ (K : Int) b := by
  have hc : checkE ⟨B, 1, false, 0, 0, false⟩ (K : Int) b.length = 0 := by
    unfold checkE; rw [if_neg (by simp), if_neg (by simp only [hB]; omega)]
  constructor
  · unfold writeE; rw [if_neg (by simp [hc])]; rfl
  · unfold writeS; rw [if_neg (by simp [hc])]; rfl
theorem torn_put (B : List UInt8) (hB : B.length = 200) (K T : Nat) (b : List UInt8) (h : K + b.length ≤ 200) (c : Nat) (hc : c = min b.length T) :
    5 = writeE ⟨B, 1, true, 0, T, false⟩ (K : Int) b ∧ ⟨putAt B K c b, 2, true, 0, T, true⟩ = writeS ⟨B, 1, true, 0, T, false⟩ (K : Int) b := by
  have hk : checkE ⟨B, 1, true, 0, T, false⟩ (K : Int) b.length = 0 := by
    unfold checkE; rw [if_neg (by simp), if_neg (by simp only [hB]; omega)]
  subst hc
  constructor
  · unfold writeE; rw [if_neg (by simp [hk])]; rfl
  · unfold writeS; rw [if_neg (by simp [hk])]; rfl
theorem read_all (B : List UInt8) (n : Nat) (hB : B.length = 200) : B = readL ⟨B, n, false, 0, 0, false⟩ 0 200 ∧ 0 = checkE ⟨B, n, false, 0, 0, false⟩ 0 200 := by
  have hc : checkE ⟨B, n, false, 0, 0, false⟩ 0 200 = 0 := by
    unfold checkE; rw [if_neg (by simp), if_neg (by simp only [hB]; omega)]
  refine ⟨?_, hc.symm⟩
  unfold readL; rw [if_neg (by simp [hc])]
  show B = (B.drop 0).take 200
  rw [List.drop_zero, List.take_of_length_le (by omega)]

set_option maxHeartbeats 6400000 in
set_option maxRecDepth 20000 in
theorem keeps_walk (a0 : Option Addr) (c0 : Nat) (f : List UInt8) (a1 : Option Addr) (c1 : Nat) (b : List UInt8) (x2 x3 : Int) (tr : Bool) (w : World) (s0 : Sees w a0 c0 f) (_m0 : c0 ≤ 140737488351232) (s1 : Sees w a1 c1 b) (_m1 : c1 ≤ 140737488351232)
    (w2 : (Lit.int .u8 x2).wf = true) (w3 : (Lit.int .u8 x3).wf = true) :
    Calls Try.prog 4 #[.slice a0 f.length c0, .slice a1 b.length c1, .int .u8 x2, .int .u8 x3, .bool tr] w fun e w' => e = .returned (.bool true) ∧ Below w.heap.size w w' := by
  have hnew := new_held w 200 (by omega)
  have HS0 : Hid (Sees w a0 c0 f) := s0
  have HS1 : Hid (Sees w a1 c1 b) := s1
  have lf : f.length ≤ 140737488351232 := by have := s0.fits; omega
  have lb : b.length ≤ 140737488351232 := by have := s1.fits; omega
  have w2 := bounds_u8 w2
  have w3 := bounds_u8 w3
  obtain ⟨A, rfl⟩ : ∃ A : Nat, x2 = (A : Int) := ⟨x2.toNat, by omega⟩
  obtain ⟨T, rfl⟩ : ∃ T : Nat, x3 = (T : Int) := ⟨x3.toNat, by omega⟩
  have hA : A ≤ 255 := by omega
  have hT : T ≤ 255 := by omega
  clear s0 s1 _m0 _m1 w2 w3
  go_enter Try.func4, Try.ntmps4
  go_wp2_with fail
  refine hnew.mono ?_
  rintro e w1 ⟨g, rfl, h1⟩
  clear hnew
  by_cases b0 : 200 < f.length
  · have d0 : decide ((200 : Int) < (f.length : Int)) = true := by simp; omega
    have HB : Hid (Below w.heap.size w w1) := h1.base
    clear h1
    go_wp2_with fail
    refine (awake_ok _).mono ?_
    rintro e w2 ⟨rfl, hb2⟩
    have HE : Hid (Below w.heap.size w w2) := HB.out.trans (hb2.mono HB.out.size)
    clear hb2
    go_wp2
    go_ret
    exact ⟨rfl, HE.out⟩
  have d0 : decide ((200 : Int) < (f.length : Int)) = false := by simp; omega
  by_cases b1 : 100 < b.length
  · have d1 : decide ((100 : Int) < (b.length : Int)) = true := by simp; omega
    have HB : Hid (Below w.heap.size w w1) := h1.base
    clear h1
    go_wp2_with fail
    refine (awake_ok _).mono ?_
    rintro e w2 ⟨rfl, hb2⟩
    have HE : Hid (Below w.heap.size w w2) := HB.out.trans (hb2.mono HB.out.size)
    clear hb2
    go_wp2
    go_ret
    exact ⟨rfl, HE.out⟩
  have d1 : decide ((100 : Int) < (b.length : Int)) = false := by simp; omega
  obtain ⟨B, hB, hS1⟩ := first_put f (by omega)
  have HBL : Hid (B.length = 200) := hB
  have hw1 := write_held h1 (by simp [newS]) 0 (by decide) a0 c0 f HS0.out _ ⟨B, 1, false, 0, 0, false⟩ rfl hS1.symm
  clear h1 hS1
  go_wp2_with fail
  refine hw1.mono ?_
  rintro e w2 ⟨rfl, h2⟩
  clear hw1
  have hrd := read_beside h2 0 200 (by decide) B 0 (read_all B 1 hB).1 (read_all B 1 hB).2
  rw [hB] at hrd
  clear h2 hB
  go_wp2_with fail
  refine hrd.mono ?_
  rintro e w3 ⟨dw, cw, rfl, h3⟩
  clear hrd
  have H2 : Hid (Beside w w3 g ⟨B, 1, false, 0, 0, false⟩ dw cw B) := h3
  obtain ⟨K, hK⟩ : ∃ K, K = A % 100 := ⟨_, rfl⟩
  have k1 : ((A : Int)).tmod 100 = (K : Int) := by rw [Int.tmod_eq_emod_of_nonneg (by omega)]; omega
  have k2 : ((A : Int)) % 100 = (K : Int) := by omega
  have hK1 : K < 100 := by omega
  have hKw : (Lit.int .i64 (K : Int)).wf = true := wf_i64 _ (by omega) (by omega)
  clear h3 hK
  cases tr
  · have hcb : b.length ≤ b.length := Nat.le_refl _
    have HPL : Hid ((putAt B K b.length b).length = 200) := (putAt_len B K b.length b (by rw [HBL.out]; omega) hcb).trans HBL.out
    have H3 := H2
    clear H2
    have hnp := next_put B HBL.out K b (by omega)
    have hwr := write_beside H3.out (by simp) (K : Int) hKw a1 c1 b HS1.out 0 ⟨putAt B K b.length b, 2, false, 0, 0, false⟩ hnp.1 hnp.2
    clear hnp
    go_wp2_with fail
    refine hwr.mono ?_
    rintro e w4 ⟨rfl, h4⟩
    clear hwr
    have H4 : Hid (Beside w w4 g ⟨putAt B K b.length b, 2, false, 0, 0, false⟩ dw cw B) := h4
    have hdd := dead_held h4.held false rfl
    clear h4
    go_wp2_with fail
    refine hdd.mono ?_
    rintro e w5 ⟨rfl, rfl⟩
    clear hdd
    have hwk := wake_beside H4.out ⟨putAt B K b.length b, 2, false, 0, 0, false⟩ rfl
    go_wp2_with fail
    refine hwk.mono ?_
    rintro e w6 ⟨⟨v6, rfl⟩, h6⟩
    clear hwk
    have hrd := read_held h6.held 0 200 (by decide) (putAt B K b.length b) 0 (read_all _ _ HPL.out).1 (read_all _ _ HPL.out).2
    rw [HPL.out] at hrd
    have HW6 : Hid (Sees w6 dw cw B) := h6.sees
    clear h6
    go_wp2_with fail
    refine hrd.mono ?_
    rintro e w7 ⟨dn, cn, rfl, hsn, h7, hb7⟩
    clear hrd
    have hsw := HW6.out.below hb7
    have hsb := HS1.out.below h7.base
    have HB7 : Hid (Below w.heap.size w w7) := h7.base
    obtain ⟨nb, no, rfl⟩ : ∃ nb no, dn = some ⟨nb, no, none⟩ := by
      obtain ⟨nb, no, h, _⟩ := hsn.at' (fun h => by have := HPL.out; rw [h] at this; simp at this)
      exact ⟨nb, no, h⟩
    obtain ⟨wb, wo, rfl⟩ : ∃ wb wo, dw = some ⟨wb, wo, none⟩ := by
      obtain ⟨wb, wo, h, _⟩ := hsw.at' (fun h => by have := HBL.out; rw [h] at this; simp at this)
      exact ⟨wb, wo, h⟩
    obtain ⟨p1, hp1⟩ : ∃ p, p = B.take K := ⟨_, rfl⟩
    obtain ⟨p2, hp2⟩ : ∃ p, p = b.take b.length := ⟨_, rfl⟩
    obtain ⟨p3, hp3⟩ : ∃ p, p = B.drop (K + b.length) := ⟨_, rfl⟩
    have cn2 : 200 ≤ cn := by have := hsn.fits; rw [HPL.out] at this; exact this
    have cw2 : 200 ≤ cw := by have := hsw.fits; rw [HBL.out] at this; exact this
    have cn3 : cn ≤ 9223372036854775807 := by have := hsn.room; unfold maxLen at this; omega
    have cw3 : cw ≤ 9223372036854775807 := by have := hsw.room; unfold maxLen at this; omega
    have c13 : c1 ≤ 9223372036854775807 := by have := hsb.room; unfold maxLen at this; omega
    have c12 : b.length ≤ c1 := hsb.fits
    have q1 := (put_parts B K b.length b HBL.out (by omega) hcb).1
    have q2 := (put_parts B K b.length b HBL.out (by omega) hcb).2.1
    have q3 := (put_parts B K b.length b HBL.out (by omega) hcb).2.2
    have cvn : ∀ (l : List UInt8) (a : Option Addr) (ca n : Nat) W, Sees W a ca l → l.length = n → (Go.convert 22 9 (.slice a n ca)).run Try.prog W = .ok (.string ⟨l.toArray⟩) W := fun l a ca n W hs hl => by
      rw [← hl]; exact hs.convert (P := Try.prog) 22 5 9 Try.underlying22 Try.underlying5 Try.underlying9
    obtain ⟨M, hM⟩ : ∃ M, M = K + b.length := ⟨_, rfl⟩
    have HC1 : Hid (∀ W, Below w7.heap.size w7 W → (Go.convert 22 9 (.slice (some ⟨nb, no, none⟩) K cn)).run Try.prog W = .ok (.string ⟨p1.toArray⟩) W) := fun W hW => by
      refine cvn p1 _ cn K W ?_ (by rw [hp1, List.length_take, HBL.out]; omega)
      rw [hp1, ← q1]; exact (hsn.below hW).take K
    have HC2 : Hid (∀ W, Below w7.heap.size w7 W → (Go.convert 22 9 (.slice (some ⟨wb, wo, none⟩) K cw)).run Try.prog W = .ok (.string ⟨p1.toArray⟩) W) := fun W hW => by
      refine cvn p1 _ cw K W ?_ (by rw [hp1, List.length_take, HBL.out]; omega)
      rw [hp1]; exact (hsw.below hW).take K
    have HC3 : Hid (∀ W, Below w7.heap.size w7 W → (Go.convert 22 9 (.slice (some ⟨nb, no + K, none⟩) b.length (cn - K))).run Try.prog W = .ok (.string ⟨p2.toArray⟩) W) := fun W hW => by
      refine cvn p2 _ (cn - K) b.length W ?_ (by rw [hp2, List.length_take]; omega)
      rw [hp2, ← q2]; exact ((hsn.below hW).tail K (by rw [HPL.out]; omega)).take b.length
    have HC4 : Hid (∀ W, Below w7.heap.size w7 W → (Go.convert 22 9 (.slice a1 b.length c1)).run Try.prog W = .ok (.string ⟨p2.toArray⟩) W) := fun W hW => by
      refine cvn p2 _ c1 b.length W ?_ (by rw [hp2, List.length_take]; omega)
      rw [hp2]; exact (hsb.below hW).take b.length
    have HC5 : Hid (∀ W, Below w7.heap.size w7 W → (Go.convert 22 9 (.slice (some ⟨nb, no + M, none⟩) (200 - M) (cn - M))).run Try.prog W = .ok (.string ⟨p3.toArray⟩) W) := fun W hW => by
      refine cvn p3 _ (cn - M) (200 - M) W ?_ (by rw [hp3, ← hM, List.length_drop, HBL.out])
      rw [hp3, ← q3, ← hM]; exact (hsn.below hW).tail M (by rw [HPL.out]; omega)
    have HC6 : Hid (∀ W, Below w7.heap.size w7 W → (Go.convert 22 9 (.slice (some ⟨wb, wo + M, none⟩) (200 - M) (cw - M))).run Try.prog W = .ok (.string ⟨p3.toArray⟩) W) := fun W hW => by
      refine cvn p3 _ (cw - M) (200 - M) W ?_ (by rw [hp3, ← hM, List.length_drop, HBL.out])
      rw [hp3, ← hM]; exact (hsw.below hW).tail M (by rw [HBL.out]; omega)
    have e1 : K ≤ cn := by omega
    have e2 : K ≤ cw := by omega
    have e3 : M ≤ cn := by omega
    have e6 : K ≤ M := by omega
    have e7 : M - K = b.length := by omega
    have e4 : b.length ≤ c1 := by omega
    have e5 : M ≤ 200 := by omega
    have e8 : (M : Int) ≤ 200 := by omega
    have hwp : IntKind.i64.wrap ((K : Int) + (b.length : Nat)) = (M : Int) := by rw [IntKind.wrap_i64]; omega
    have n1 : ¬ (cn = K) := by omega
    have n2 : ¬ (cn = M) := by omega
    have n3 : ¬ (cw = M) := by omega
    clear hM hsn hsw hsb h7 hb7 hp1 hp2 hp3 q1 q2 q3 cvn HW6 H4 H3
    go_wp2
    refine wp_region_noPanic ?_
    refine wp_region_held (S := fun W => Below w7.heap.size w7 W) (by kernel_rfl) ?_
    have hS := (show (fun W : World => Below w7.heap.size w7 W) w7.drew from (Below.refl _ _).drew)
    refine any_take 0 ?vkan1 rfl (by kernel_rfl) (by kernel_rfl) (by kernel_rfl) (fun _ _ _ h => h) (by rfl) ?hkan1 hS ?_
    case hkan1 => (intro w hSw; (try dsimp only at hSw); go_split_ands; go_simp; (try with_reducible rfl))
    (try simp only [Act.put, List.setIfInBounds_toArray, List.set_cons_zero, List.set_cons_succ])
    refine any_take 1 ?vkan2 rfl (by kernel_rfl) (by kernel_rfl) (by kernel_rfl) (fun _ _ _ h => h) (by rfl) ?hkan2 hS ?_
    case hkan2 => (intro w hSw; (try dsimp only at hSw); go_split_ands; go_simp; (try with_reducible rfl))
    (try simp only [Act.put, List.setIfInBounds_toArray, List.set_cons_zero, List.set_cons_succ])
    refine any_take 2 ?vkan3 rfl (by kernel_rfl) (by kernel_rfl) (by kernel_rfl) (fun _ _ _ h => h) (by rfl) ?hkan3 hS ?_
    case hkan3 => (intro w hSw; (try dsimp only at hSw); go_split_ands; go_simp; (try with_reducible rfl))
    (try simp only [Act.put, List.setIfInBounds_toArray, List.set_cons_zero, List.set_cons_succ])
    refine any_take 3 (.string ⟨p1.toArray⟩) rfl (by kernel_rfl) (by kernel_rfl) (by kernel_rfl) (fun _ _ _ h => h) (by rfl) (fun W hW => exec_conv 22 9 (.tmp 106) rfl (.slice (some ⟨nb, no, none⟩) K cn) _ rfl (HC1.out W hW)) hS ?_
    (try simp only [Act.put, List.setIfInBounds_toArray, List.set_cons_zero, List.set_cons_succ])
    refine any_take 4 ?vkan4 rfl (by kernel_rfl) (by kernel_rfl) (by kernel_rfl) (fun _ _ _ h => h) (by rfl) ?hkan4 hS ?_
    case hkan4 => (intro w hSw; (try dsimp only at hSw); go_split_ands; go_simp; (try with_reducible rfl))
    (try simp only [Act.put, List.setIfInBounds_toArray, List.set_cons_zero, List.set_cons_succ])
    refine any_take 5 ?vkan5 rfl (by kernel_rfl) (by kernel_rfl) (by kernel_rfl) (fun _ _ _ h => h) (by rfl) ?hkan5 hS ?_
    case hkan5 => (intro w hSw; (try dsimp only at hSw); go_split_ands; go_simp; (try with_reducible rfl))
    (try simp only [Act.put, List.setIfInBounds_toArray, List.set_cons_zero, List.set_cons_succ])
    refine any_take 6 ?vkan6 rfl (by kernel_rfl) (by kernel_rfl) (by kernel_rfl) (fun _ _ _ h => h) (by rfl) ?hkan6 hS ?_
    case hkan6 => (intro w hSw; (try dsimp only at hSw); go_split_ands; go_simp; (try with_reducible rfl))
    (try simp only [Act.put, List.setIfInBounds_toArray, List.set_cons_zero, List.set_cons_succ])
    refine any_take 7 (.string ⟨p1.toArray⟩) rfl (by kernel_rfl) (by kernel_rfl) (by kernel_rfl) (fun _ _ _ h => h) (by rfl) (fun W hW => exec_conv 22 9 (.tmp 110) rfl (.slice (some ⟨wb, wo, none⟩) K cw) _ rfl (HC2.out W hW)) hS ?_
    (try simp only [Act.put, List.setIfInBounds_toArray, List.set_cons_zero, List.set_cons_succ])
    refine any_take 8 ?vkan7 rfl (by kernel_rfl) (by kernel_rfl) (by kernel_rfl) (fun _ _ _ h => h) (by rfl) ?hkan7 hS ?_
    case hkan7 => (intro w hSw; (try dsimp only at hSw); go_split_ands; go_simp; (try with_reducible rfl))
    (try simp only [Act.put, List.setIfInBounds_toArray, List.set_cons_zero, List.set_cons_succ])
    refine any_take 9 ?vkan8 rfl (by kernel_rfl) (by kernel_rfl) (by kernel_rfl) (fun _ _ _ h => h) (by rfl) ?hkan8 hS ?_
    case hkan8 => (intro w hSw; (try dsimp only at hSw); go_split_ands; go_simp; (try with_reducible rfl))
    (try simp only [Act.put, List.setIfInBounds_toArray, List.set_cons_zero, List.set_cons_succ])
    refine any_take 10 ?vkan9 rfl (by kernel_rfl) (by kernel_rfl) (by kernel_rfl) (fun _ _ _ h => h) (by rfl) ?hkan9 hS ?_
    case hkan9 => (intro w hSw; (try dsimp only at hSw); go_split_ands; go_simp; (try with_reducible rfl))
    (try simp only [Act.put, List.setIfInBounds_toArray, List.set_cons_zero, List.set_cons_succ])
    refine any_take 11 ?vkan10 rfl (by kernel_rfl) (by kernel_rfl) (by kernel_rfl) (fun _ _ _ h => h) (by rfl) ?hkan10 hS ?_
    case hkan10 => (intro w hSw; (try dsimp only at hSw); go_split_ands; go_simp; (try with_reducible rfl))
    (try simp only [Act.put, List.setIfInBounds_toArray, List.set_cons_zero, List.set_cons_succ])
    refine any_take 12 ?vkan11 rfl (by kernel_rfl) (by kernel_rfl) (by kernel_rfl) (fun _ _ _ h => h) (by rfl) ?hkan11 hS ?_
    case hkan11 => (intro w hSw; (try dsimp only at hSw); go_split_ands; go_simp; (try with_reducible rfl))
    (try simp only [Act.put, List.setIfInBounds_toArray, List.set_cons_zero, List.set_cons_succ])
    refine any_take 13 ?vkan12 rfl (by kernel_rfl) (by kernel_rfl) (by kernel_rfl) (fun _ _ _ h => h) (by rfl) ?hkan12 hS ?_
    case hkan12 => (intro w hSw; (try dsimp only at hSw); go_split_ands; go_simp; (try with_reducible rfl))
    (try simp only [Act.put, List.setIfInBounds_toArray, List.set_cons_zero, List.set_cons_succ])
    refine any_take 14 ?vkan13 rfl (by kernel_rfl) (by kernel_rfl) (by kernel_rfl) (fun _ _ _ h => h) (by rfl) ?hkan13 hS ?_
    case hkan13 => (intro w hSw; (try dsimp only at hSw); go_split_ands; go_simp; (try with_reducible rfl))
    (try simp only [Act.put, List.setIfInBounds_toArray, List.set_cons_zero, List.set_cons_succ])
    refine any_take 15 ?vkan14 rfl (by kernel_rfl) (by kernel_rfl) (by kernel_rfl) (fun _ _ _ h => h) (by rfl) ?hkan14 hS ?_
    case hkan14 => (intro w hSw; (try dsimp only at hSw); go_split_ands; go_simp; (try with_reducible rfl))
    (try simp only [Act.put, List.setIfInBounds_toArray, List.set_cons_zero, List.set_cons_succ])
    refine any_take 16 (.string ⟨p2.toArray⟩) rfl (by kernel_rfl) (by kernel_rfl) (by kernel_rfl) (fun _ _ _ h => h) (by rfl) (fun W hW => exec_conv 22 9 (.tmp 119) rfl (.slice (some ⟨nb, no + K, none⟩) b.length (cn - K)) _ rfl (HC3.out W hW)) hS ?_
    (try simp only [Act.put, List.setIfInBounds_toArray, List.set_cons_zero, List.set_cons_succ])
    refine any_take 17 ?vkan15 rfl (by kernel_rfl) (by kernel_rfl) (by kernel_rfl) (fun _ _ _ h => h) (by rfl) ?hkan15 hS ?_
    case hkan15 => (intro w hSw; (try dsimp only at hSw); go_split_ands; go_simp; (try with_reducible rfl))
    (try simp only [Act.put, List.setIfInBounds_toArray, List.set_cons_zero, List.set_cons_succ])
    refine any_take 18 ?vkan16 rfl (by kernel_rfl) (by kernel_rfl) (by kernel_rfl) (fun _ _ _ h => h) (by rfl) ?hkan16 hS ?_
    case hkan16 => (intro w hSw; (try dsimp only at hSw); go_split_ands; go_simp; (try with_reducible rfl))
    (try simp only [Act.put, List.setIfInBounds_toArray, List.set_cons_zero, List.set_cons_succ])
    refine any_take 19 ?vkan17 rfl (by kernel_rfl) (by kernel_rfl) (by kernel_rfl) (fun _ _ _ h => h) (by rfl) ?hkan17 hS ?_
    case hkan17 => (intro w hSw; (try dsimp only at hSw); go_split_ands; go_simp; (try with_reducible rfl))
    (try simp only [Act.put, List.setIfInBounds_toArray, List.set_cons_zero, List.set_cons_succ])
    refine any_take 20 (.string ⟨p2.toArray⟩) rfl (by kernel_rfl) (by kernel_rfl) (by kernel_rfl) (fun _ _ _ h => h) (by rfl) (fun W hW => exec_conv 22 9 (.tmp 123) rfl (.slice a1 b.length c1) _ rfl (HC4.out W hW)) hS ?_
    (try simp only [Act.put, List.setIfInBounds_toArray, List.set_cons_zero, List.set_cons_succ])
    refine any_take 21 ?vkan18 rfl (by kernel_rfl) (by kernel_rfl) (by kernel_rfl) (fun _ _ _ h => h) (by rfl) ?hkan18 hS ?_
    case hkan18 => (intro w hSw; (try dsimp only at hSw); go_split_ands; go_simp; (try with_reducible rfl))
    (try simp only [Act.put, List.setIfInBounds_toArray, List.set_cons_zero, List.set_cons_succ])
    refine any_take 22 ?vkan19 rfl (by kernel_rfl) (by kernel_rfl) (by kernel_rfl) (fun _ _ _ h => h) (by rfl) ?hkan19 hS ?_
    case hkan19 => (intro w hSw; (try dsimp only at hSw); go_split_ands; go_simp; (try with_reducible rfl))
    (try simp only [Act.put, List.setIfInBounds_toArray, List.set_cons_zero, List.set_cons_succ])
    refine any_take 23 ?vkan20 rfl (by kernel_rfl) (by kernel_rfl) (by kernel_rfl) (fun _ _ _ h => h) (by rfl) ?hkan20 hS ?_
    case hkan20 => (intro w hSw; (try dsimp only at hSw); go_split_ands; go_simp; (try with_reducible rfl))
    (try simp only [Act.put, List.setIfInBounds_toArray, List.set_cons_zero, List.set_cons_succ])
    refine any_take 24 ?vkan21 rfl (by kernel_rfl) (by kernel_rfl) (by kernel_rfl) (fun _ _ _ h => h) (by rfl) ?hkan21 hS ?_
    case hkan21 => (intro w hSw; (try dsimp only at hSw); go_split_ands; go_simp; (try with_reducible rfl))
    (try simp only [Act.put, List.setIfInBounds_toArray, List.set_cons_zero, List.set_cons_succ])
    refine any_take 25 ?vkan22 rfl (by kernel_rfl) (by kernel_rfl) (by kernel_rfl) (fun _ _ _ h => h) (by rfl) ?hkan22 hS ?_
    case hkan22 => (intro w hSw; (try dsimp only at hSw); go_split_ands; go_simp; (try with_reducible rfl))
    (try simp only [Act.put, List.setIfInBounds_toArray, List.set_cons_zero, List.set_cons_succ])
    refine any_take 26 ?vkan23 rfl (by kernel_rfl) (by kernel_rfl) (by kernel_rfl) (fun _ _ _ h => h) (by rfl) ?hkan23 hS ?_
    case hkan23 => (intro w hSw; (try dsimp only at hSw); go_split_ands; go_simp; (try with_reducible rfl))
    (try simp only [Act.put, List.setIfInBounds_toArray, List.set_cons_zero, List.set_cons_succ])
    refine any_take 27 ?vkan24 rfl (by kernel_rfl) (by kernel_rfl) (by kernel_rfl) (fun _ _ _ h => h) (by rfl) ?hkan24 hS ?_
    case hkan24 => (intro w hSw; (try dsimp only at hSw); go_split_ands; go_simp; (try with_reducible rfl))
    (try simp only [Act.put, List.setIfInBounds_toArray, List.set_cons_zero, List.set_cons_succ])
    refine any_take 28 ?vkan25 rfl (by kernel_rfl) (by kernel_rfl) (by kernel_rfl) (fun _ _ _ h => h) (by rfl) ?hkan25 hS ?_
    case hkan25 => (intro w hSw; (try dsimp only at hSw); go_split_ands; go_simp; (try with_reducible rfl))
    (try simp only [Act.put, List.setIfInBounds_toArray, List.set_cons_zero, List.set_cons_succ])
    refine any_take 29 (.string ⟨p3.toArray⟩) rfl (by kernel_rfl) (by kernel_rfl) (by kernel_rfl) (fun _ _ _ h => h) (by rfl) (fun W hW => exec_conv 22 9 (.tmp 132) rfl (.slice (some ⟨nb, no + M, none⟩) (200 - M) (cn - M)) _ rfl (HC5.out W hW)) hS ?_
    (try simp only [Act.put, List.setIfInBounds_toArray, List.set_cons_zero, List.set_cons_succ])
    refine any_take 30 ?vkan26 rfl (by kernel_rfl) (by kernel_rfl) (by kernel_rfl) (fun _ _ _ h => h) (by rfl) ?hkan26 hS ?_
    case hkan26 => (intro w hSw; (try dsimp only at hSw); go_split_ands; go_simp; (try with_reducible rfl))
    (try simp only [Act.put, List.setIfInBounds_toArray, List.set_cons_zero, List.set_cons_succ])
    refine any_take 31 ?vkan27 rfl (by kernel_rfl) (by kernel_rfl) (by kernel_rfl) (fun _ _ _ h => h) (by rfl) ?hkan27 hS ?_
    case hkan27 => (intro w hSw; (try dsimp only at hSw); go_split_ands; go_simp; (try with_reducible rfl))
    (try simp only [Act.put, List.setIfInBounds_toArray, List.set_cons_zero, List.set_cons_succ])
    refine any_take 32 ?vkan28 rfl (by kernel_rfl) (by kernel_rfl) (by kernel_rfl) (fun _ _ _ h => h) (by rfl) ?hkan28 hS ?_
    case hkan28 => (intro w hSw; (try dsimp only at hSw); go_split_ands; go_simp; (try with_reducible rfl))
    (try simp only [Act.put, List.setIfInBounds_toArray, List.set_cons_zero, List.set_cons_succ])
    refine any_take 33 ?vkan29 rfl (by kernel_rfl) (by kernel_rfl) (by kernel_rfl) (fun _ _ _ h => h) (by rfl) ?hkan29 hS ?_
    case hkan29 => (intro w hSw; (try dsimp only at hSw); go_split_ands; go_simp; (try with_reducible rfl))
    (try simp only [Act.put, List.setIfInBounds_toArray, List.set_cons_zero, List.set_cons_succ])
    refine any_take 34 ?vkan30 rfl (by kernel_rfl) (by kernel_rfl) (by kernel_rfl) (fun _ _ _ h => h) (by rfl) ?hkan30 hS ?_
    case hkan30 => (intro w hSw; (try dsimp only at hSw); go_split_ands; go_simp; (try with_reducible rfl))
    (try simp only [Act.put, List.setIfInBounds_toArray, List.set_cons_zero, List.set_cons_succ])
    refine any_take 35 (.string ⟨p3.toArray⟩) rfl (by kernel_rfl) (by kernel_rfl) (by kernel_rfl) (fun _ _ _ h => h) (by rfl) (fun W hW => exec_conv 22 9 (.tmp 138) rfl (.slice (some ⟨wb, wo + M, none⟩) (200 - M) (cw - M)) _ rfl (HC6.out W hW)) hS ?_
    (try simp only [Act.put, List.setIfInBounds_toArray, List.set_cons_zero, List.set_cons_succ])
    refine any_take 36 ?vkan31 rfl (by kernel_rfl) (by kernel_rfl) (by kernel_rfl) (fun _ _ _ h => h) (by rfl) ?hkan31 hS ?_
    case hkan31 => (intro w hSw; (try dsimp only at hSw); go_split_ands; go_simp; (try with_reducible rfl))
    (try simp only [Act.put, List.setIfInBounds_toArray, List.set_cons_zero, List.set_cons_succ])
    refine any_take 37 ?vkan32 rfl (by kernel_rfl) (by kernel_rfl) (by kernel_rfl) (fun _ _ _ h => h) (by rfl) ?hkan32 hS ?_
    case hkan32 => (intro w hSw; (try dsimp only at hSw); go_split_ands; go_simp; (try with_reducible rfl))
    (try simp only [Act.put, List.setIfInBounds_toArray, List.set_cons_zero, List.set_cons_succ])
    refine any_take 38 ?vkan33 rfl (by kernel_rfl) (by kernel_rfl) (by kernel_rfl) (fun _ _ _ h => h) (by rfl) ?hkan33 hS ?_
    case hkan33 => (intro w hSw; (try dsimp only at hSw); go_split_ands; go_simp; (try with_reducible rfl))
    (try simp only [Act.put, List.setIfInBounds_toArray, List.set_cons_zero, List.set_cons_succ])
    refine any_one 39 rfl (by kernel_rfl) (by rfl) (fun K hK => ?_)
    have hSS : Below w7.heap.size w7 _ := hS
    clear hS
    go_simp
    refine (awake_ok _).mono ?_
    rintro e w8 ⟨rfl, hb8⟩
    have hS8 : Below w7.heap.size w7 w8 := hSS.trans (hb8.mono hSS.size)
    clear hSS hb8
    refine hK.out _ _ (hS8) (fun hS => ?_)
    clear hK
    (try simp only [Act.put, List.setIfInBounds_toArray, List.set_cons_zero, List.set_cons_succ])
    refine any_take 40 ?vkan34 rfl (by kernel_rfl) (by kernel_rfl) (by kernel_rfl) (fun _ _ _ h => h) (by rfl) ?hkan34 hS ?_
    case hkan34 => (intro w hSw; (try dsimp only at hSw); go_split_ands; go_simp; (try with_reducible rfl))
    (try simp only [Act.put, List.setIfInBounds_toArray, List.set_cons_zero, List.set_cons_succ])
    refine any_take 41 ?vkan35 rfl (by kernel_rfl) (by kernel_rfl) (by kernel_rfl) (fun _ _ _ h => h) (by rfl) ?hkan35 hS ?_
    case hkan35 => (intro w hSw; (try dsimp only at hSw); go_split_ands; go_simp; (try with_reducible rfl))
    (try simp only [Act.put, List.setIfInBounds_toArray, List.set_cons_zero, List.set_cons_succ])
    refine wpAnyH_done (by kernel_rfl) ?_ _
    refine NoPanic.normal ?_
    have HE : Hid (Below w.heap.size w w8) := HB7.out.trans (hS.mono HB7.out.size)
    clear hS HC1 HC2 HC3 HC4 HC5 HC6
    go_wp2
    go_ret
    exact ⟨rfl, HE.out⟩
  · have hTw : (Lit.int .i64 (T : Int)).wf = true := wf_i64 _ (by omega) (by omega)
    have htr := tear_beside H2.out 0 (T : Int) (by decide) hTw ⟨B, 1, true, 0, T, false⟩ (by unfold tearS; rw [if_pos ⟨by omega, by omega⟩]; rfl)
    go_wp2_with fail
    refine htr.mono ?_
    rintro e w9 ⟨⟨v9, rfl⟩, h9⟩
    clear htr H2 hTw
    have H3 : Hid (Beside w w9 g ⟨B, 1, true, 0, T, false⟩ dw cw B) := h9
    clear h9
    by_cases hTb : T < b.length
    · have hcb : T ≤ b.length := by omega
      have hci : min (b.length : Int) (T : Int) = (T : Nat) := by omega
      have hcn : min b.length T = T := by omega
      have HPL : Hid ((putAt B K T b).length = 200) := (putAt_len B K T b (by rw [HBL.out]; omega) hcb).trans HBL.out
      have hnp := torn_put B HBL.out K T b (by omega) T hcn.symm
      have hwr := write_beside H3.out (by simp) (K : Int) hKw a1 c1 b HS1.out 5 ⟨putAt B K T b, 2, true, 0, T, true⟩ hnp.1 hnp.2
      clear hnp
      go_wp2_with fail
      refine hwr.mono ?_
      rintro e w4 ⟨rfl, h4⟩
      clear hwr
      have H4 : Hid (Beside w w4 g ⟨putAt B K T b, 2, true, 0, T, true⟩ dw cw B) := h4
      have hdd := dead_held h4.held true rfl
      clear h4
      go_wp2_with fail
      refine hdd.mono ?_
      rintro e w5 ⟨rfl, rfl⟩
      clear hdd
      have hwk := wake_beside H4.out ⟨putAt B K T b, 2, false, 0, 0, false⟩ rfl
      go_wp2_with fail
      refine hwk.mono ?_
      rintro e w6 ⟨⟨v6, rfl⟩, h6⟩
      clear hwk
      have hrd := read_held h6.held 0 200 (by decide) (putAt B K T b) 0 (read_all _ _ HPL.out).1 (read_all _ _ HPL.out).2
      rw [HPL.out] at hrd
      have HW6 : Hid (Sees w6 dw cw B) := h6.sees
      clear h6
      go_wp2_with fail
      refine hrd.mono ?_
      rintro e w7 ⟨dn, cn, rfl, hsn, h7, hb7⟩
      clear hrd
      have hsw := HW6.out.below hb7
      have hsb := HS1.out.below h7.base
      have HB7 : Hid (Below w.heap.size w w7) := h7.base
      obtain ⟨nb, no, rfl⟩ : ∃ nb no, dn = some ⟨nb, no, none⟩ := by
        obtain ⟨nb, no, h, _⟩ := hsn.at' (fun h => by have := HPL.out; rw [h] at this; simp at this)
        exact ⟨nb, no, h⟩
      obtain ⟨wb, wo, rfl⟩ : ∃ wb wo, dw = some ⟨wb, wo, none⟩ := by
        obtain ⟨wb, wo, h, _⟩ := hsw.at' (fun h => by have := HBL.out; rw [h] at this; simp at this)
        exact ⟨wb, wo, h⟩
      obtain ⟨p1, hp1⟩ : ∃ p, p = B.take K := ⟨_, rfl⟩
      obtain ⟨p2, hp2⟩ : ∃ p, p = b.take T := ⟨_, rfl⟩
      obtain ⟨p3, hp3⟩ : ∃ p, p = B.drop (K + T) := ⟨_, rfl⟩
      have cn2 : 200 ≤ cn := by have := hsn.fits; rw [HPL.out] at this; exact this
      have cw2 : 200 ≤ cw := by have := hsw.fits; rw [HBL.out] at this; exact this
      have cn3 : cn ≤ 9223372036854775807 := by have := hsn.room; unfold maxLen at this; omega
      have cw3 : cw ≤ 9223372036854775807 := by have := hsw.room; unfold maxLen at this; omega
      have c13 : c1 ≤ 9223372036854775807 := by have := hsb.room; unfold maxLen at this; omega
      have c12 : b.length ≤ c1 := hsb.fits
      have q1 := (put_parts B K T b HBL.out (by omega) hcb).1
      have q2 := (put_parts B K T b HBL.out (by omega) hcb).2.1
      have q3 := (put_parts B K T b HBL.out (by omega) hcb).2.2
      have cvn : ∀ (l : List UInt8) (a : Option Addr) (ca n : Nat) W, Sees W a ca l → l.length = n → (Go.convert 22 9 (.slice a n ca)).run Try.prog W = .ok (.string ⟨l.toArray⟩) W := fun l a ca n W hs hl => by
        rw [← hl]; exact hs.convert (P := Try.prog) 22 5 9 Try.underlying22 Try.underlying5 Try.underlying9
      obtain ⟨M, hM⟩ : ∃ M, M = K + T := ⟨_, rfl⟩
      have HC1 : Hid (∀ W, Below w7.heap.size w7 W → (Go.convert 22 9 (.slice (some ⟨nb, no, none⟩) K cn)).run Try.prog W = .ok (.string ⟨p1.toArray⟩) W) := fun W hW => by
        refine cvn p1 _ cn K W ?_ (by rw [hp1, List.length_take, HBL.out]; omega)
        rw [hp1, ← q1]; exact (hsn.below hW).take K
      have HC2 : Hid (∀ W, Below w7.heap.size w7 W → (Go.convert 22 9 (.slice (some ⟨wb, wo, none⟩) K cw)).run Try.prog W = .ok (.string ⟨p1.toArray⟩) W) := fun W hW => by
        refine cvn p1 _ cw K W ?_ (by rw [hp1, List.length_take, HBL.out]; omega)
        rw [hp1]; exact (hsw.below hW).take K
      have HC3 : Hid (∀ W, Below w7.heap.size w7 W → (Go.convert 22 9 (.slice (some ⟨nb, no + K, none⟩) T (cn - K))).run Try.prog W = .ok (.string ⟨p2.toArray⟩) W) := fun W hW => by
        refine cvn p2 _ (cn - K) T W ?_ (by rw [hp2, List.length_take]; omega)
        rw [hp2, ← q2]; exact ((hsn.below hW).tail K (by rw [HPL.out]; omega)).take T
      have HC4 : Hid (∀ W, Below w7.heap.size w7 W → (Go.convert 22 9 (.slice a1 T c1)).run Try.prog W = .ok (.string ⟨p2.toArray⟩) W) := fun W hW => by
        refine cvn p2 _ c1 T W ?_ (by rw [hp2, List.length_take]; omega)
        rw [hp2]; exact (hsb.below hW).take T
      have HC5 : Hid (∀ W, Below w7.heap.size w7 W → (Go.convert 22 9 (.slice (some ⟨nb, no + M, none⟩) (200 - M) (cn - M))).run Try.prog W = .ok (.string ⟨p3.toArray⟩) W) := fun W hW => by
        refine cvn p3 _ (cn - M) (200 - M) W ?_ (by rw [hp3, ← hM, List.length_drop, HBL.out])
        rw [hp3, ← q3, ← hM]; exact (hsn.below hW).tail M (by rw [HPL.out]; omega)
      have HC6 : Hid (∀ W, Below w7.heap.size w7 W → (Go.convert 22 9 (.slice (some ⟨wb, wo + M, none⟩) (200 - M) (cw - M))).run Try.prog W = .ok (.string ⟨p3.toArray⟩) W) := fun W hW => by
        refine cvn p3 _ (cw - M) (200 - M) W ?_ (by rw [hp3, ← hM, List.length_drop, HBL.out])
        rw [hp3, ← hM]; exact (hsw.below hW).tail M (by rw [HBL.out]; omega)
      have e1 : K ≤ cn := by omega
      have e2 : K ≤ cw := by omega
      have e3 : M ≤ cn := by omega
      have e6 : K ≤ M := by omega
      have e7 : M - K = T := by omega
      have e4 : T ≤ c1 := by omega
      have e5 : M ≤ 200 := by omega
      have e8 : (M : Int) ≤ 200 := by omega
      have hwp : IntKind.i64.wrap ((K : Int) + (T : Nat)) = (M : Int) := by rw [IntKind.wrap_i64]; omega
      have n1 : ¬ (cn = K) := by omega
      have n2 : ¬ (cn = M) := by omega
      have n3 : ¬ (cw = M) := by omega
      clear hM hsn hsw hsb h7 hb7 hp1 hp2 hp3 q1 q2 q3 cvn HW6 H4 H3
      go_wp2
      refine wp_region_noPanic ?_
      refine wp_region_held (S := fun W => Below w7.heap.size w7 W) (by kernel_rfl) ?_
      have hS := (show (fun W : World => Below w7.heap.size w7 W) w7.drew from (Below.refl _ _).drew)
      refine any_take 0 ?vkbn1 rfl (by kernel_rfl) (by kernel_rfl) (by kernel_rfl) (fun _ _ _ h => h) (by rfl) ?hkbn1 hS ?_
      case hkbn1 => (intro w hSw; (try dsimp only at hSw); go_split_ands; go_simp; (try with_reducible rfl))
      (try simp only [Act.put, List.setIfInBounds_toArray, List.set_cons_zero, List.set_cons_succ])
      refine any_take 1 ?vkbn2 rfl (by kernel_rfl) (by kernel_rfl) (by kernel_rfl) (fun _ _ _ h => h) (by rfl) ?hkbn2 hS ?_
      case hkbn2 => (intro w hSw; (try dsimp only at hSw); go_split_ands; go_simp; (try with_reducible rfl))
      (try simp only [Act.put, List.setIfInBounds_toArray, List.set_cons_zero, List.set_cons_succ])
      refine any_take 2 ?vkbn3 rfl (by kernel_rfl) (by kernel_rfl) (by kernel_rfl) (fun _ _ _ h => h) (by rfl) ?hkbn3 hS ?_
      case hkbn3 => (intro w hSw; (try dsimp only at hSw); go_split_ands; go_simp; (try with_reducible rfl))
      (try simp only [Act.put, List.setIfInBounds_toArray, List.set_cons_zero, List.set_cons_succ])
      refine any_take 3 (.string ⟨p1.toArray⟩) rfl (by kernel_rfl) (by kernel_rfl) (by kernel_rfl) (fun _ _ _ h => h) (by rfl) (fun W hW => exec_conv 22 9 (.tmp 106) rfl (.slice (some ⟨nb, no, none⟩) K cn) _ rfl (HC1.out W hW)) hS ?_
      (try simp only [Act.put, List.setIfInBounds_toArray, List.set_cons_zero, List.set_cons_succ])
      refine any_take 4 ?vkbn4 rfl (by kernel_rfl) (by kernel_rfl) (by kernel_rfl) (fun _ _ _ h => h) (by rfl) ?hkbn4 hS ?_
      case hkbn4 => (intro w hSw; (try dsimp only at hSw); go_split_ands; go_simp; (try with_reducible rfl))
      (try simp only [Act.put, List.setIfInBounds_toArray, List.set_cons_zero, List.set_cons_succ])
      refine any_take 5 ?vkbn5 rfl (by kernel_rfl) (by kernel_rfl) (by kernel_rfl) (fun _ _ _ h => h) (by rfl) ?hkbn5 hS ?_
      case hkbn5 => (intro w hSw; (try dsimp only at hSw); go_split_ands; go_simp; (try with_reducible rfl))
      (try simp only [Act.put, List.setIfInBounds_toArray, List.set_cons_zero, List.set_cons_succ])
      refine any_take 6 ?vkbn6 rfl (by kernel_rfl) (by kernel_rfl) (by kernel_rfl) (fun _ _ _ h => h) (by rfl) ?hkbn6 hS ?_
      case hkbn6 => (intro w hSw; (try dsimp only at hSw); go_split_ands; go_simp; (try with_reducible rfl))
      (try simp only [Act.put, List.setIfInBounds_toArray, List.set_cons_zero, List.set_cons_succ])
      refine any_take 7 (.string ⟨p1.toArray⟩) rfl (by kernel_rfl) (by kernel_rfl) (by kernel_rfl) (fun _ _ _ h => h) (by rfl) (fun W hW => exec_conv 22 9 (.tmp 110) rfl (.slice (some ⟨wb, wo, none⟩) K cw) _ rfl (HC2.out W hW)) hS ?_
      (try simp only [Act.put, List.setIfInBounds_toArray, List.set_cons_zero, List.set_cons_succ])
      refine any_take 8 ?vkbn7 rfl (by kernel_rfl) (by kernel_rfl) (by kernel_rfl) (fun _ _ _ h => h) (by rfl) ?hkbn7 hS ?_
      case hkbn7 => (intro w hSw; (try dsimp only at hSw); go_split_ands; go_simp; (try with_reducible rfl))
      (try simp only [Act.put, List.setIfInBounds_toArray, List.set_cons_zero, List.set_cons_succ])
      refine any_take 9 ?vkbn8 rfl (by kernel_rfl) (by kernel_rfl) (by kernel_rfl) (fun _ _ _ h => h) (by rfl) ?hkbn8 hS ?_
      case hkbn8 => (intro w hSw; (try dsimp only at hSw); go_split_ands; go_simp; (try with_reducible rfl))
      (try simp only [Act.put, List.setIfInBounds_toArray, List.set_cons_zero, List.set_cons_succ])
      refine any_take 10 ?vkbn9 rfl (by kernel_rfl) (by kernel_rfl) (by kernel_rfl) (fun _ _ _ h => h) (by rfl) ?hkbn9 hS ?_
      case hkbn9 => (intro w hSw; (try dsimp only at hSw); go_split_ands; go_simp; (try with_reducible rfl))
      (try simp only [Act.put, List.setIfInBounds_toArray, List.set_cons_zero, List.set_cons_succ])
      refine any_take 11 ?vkbn10 rfl (by kernel_rfl) (by kernel_rfl) (by kernel_rfl) (fun _ _ _ h => h) (by rfl) ?hkbn10 hS ?_
      case hkbn10 => (intro w hSw; (try dsimp only at hSw); go_split_ands; go_simp; (try with_reducible rfl))
      (try simp only [Act.put, List.setIfInBounds_toArray, List.set_cons_zero, List.set_cons_succ])
      refine any_take 12 ?vkbn11 rfl (by kernel_rfl) (by kernel_rfl) (by kernel_rfl) (fun _ _ _ h => h) (by rfl) ?hkbn11 hS ?_
      case hkbn11 => (intro w hSw; (try dsimp only at hSw); go_split_ands; go_simp; (try with_reducible rfl))
      (try simp only [Act.put, List.setIfInBounds_toArray, List.set_cons_zero, List.set_cons_succ])
      refine any_take 13 ?vkbn12 rfl (by kernel_rfl) (by kernel_rfl) (by kernel_rfl) (fun _ _ _ h => h) (by rfl) ?hkbn12 hS ?_
      case hkbn12 => (intro w hSw; (try dsimp only at hSw); go_split_ands; go_simp; (try with_reducible rfl))
      (try simp only [Act.put, List.setIfInBounds_toArray, List.set_cons_zero, List.set_cons_succ])
      refine any_take 14 ?vkbn13 rfl (by kernel_rfl) (by kernel_rfl) (by kernel_rfl) (fun _ _ _ h => h) (by rfl) ?hkbn13 hS ?_
      case hkbn13 => (intro w hSw; (try dsimp only at hSw); go_split_ands; go_simp; (try with_reducible rfl))
      (try simp only [Act.put, List.setIfInBounds_toArray, List.set_cons_zero, List.set_cons_succ])
      refine any_take 15 ?vkbn14 rfl (by kernel_rfl) (by kernel_rfl) (by kernel_rfl) (fun _ _ _ h => h) (by rfl) ?hkbn14 hS ?_
      case hkbn14 => (intro w hSw; (try dsimp only at hSw); go_split_ands; go_simp; (try with_reducible rfl))
      (try simp only [Act.put, List.setIfInBounds_toArray, List.set_cons_zero, List.set_cons_succ])
      refine any_take 16 (.string ⟨p2.toArray⟩) rfl (by kernel_rfl) (by kernel_rfl) (by kernel_rfl) (fun _ _ _ h => h) (by rfl) (fun W hW => exec_conv 22 9 (.tmp 119) rfl (.slice (some ⟨nb, no + K, none⟩) T (cn - K)) _ rfl (HC3.out W hW)) hS ?_
      (try simp only [Act.put, List.setIfInBounds_toArray, List.set_cons_zero, List.set_cons_succ])
      refine any_take 17 ?vkbn15 rfl (by kernel_rfl) (by kernel_rfl) (by kernel_rfl) (fun _ _ _ h => h) (by rfl) ?hkbn15 hS ?_
      case hkbn15 => (intro w hSw; (try dsimp only at hSw); go_split_ands; go_simp; (try with_reducible rfl))
      (try simp only [Act.put, List.setIfInBounds_toArray, List.set_cons_zero, List.set_cons_succ])
      refine any_take 18 ?vkbn16 rfl (by kernel_rfl) (by kernel_rfl) (by kernel_rfl) (fun _ _ _ h => h) (by rfl) ?hkbn16 hS ?_
      case hkbn16 => (intro w hSw; (try dsimp only at hSw); go_split_ands; go_simp; (try with_reducible rfl))
      (try simp only [Act.put, List.setIfInBounds_toArray, List.set_cons_zero, List.set_cons_succ])
      refine any_take 19 ?vkbn17 rfl (by kernel_rfl) (by kernel_rfl) (by kernel_rfl) (fun _ _ _ h => h) (by rfl) ?hkbn17 hS ?_
      case hkbn17 => (intro w hSw; (try dsimp only at hSw); go_split_ands; go_simp; (try with_reducible rfl))
      (try simp only [Act.put, List.setIfInBounds_toArray, List.set_cons_zero, List.set_cons_succ])
      refine any_take 20 (.string ⟨p2.toArray⟩) rfl (by kernel_rfl) (by kernel_rfl) (by kernel_rfl) (fun _ _ _ h => h) (by rfl) (fun W hW => exec_conv 22 9 (.tmp 123) rfl (.slice a1 T c1) _ rfl (HC4.out W hW)) hS ?_
      (try simp only [Act.put, List.setIfInBounds_toArray, List.set_cons_zero, List.set_cons_succ])
      refine any_take 21 ?vkbn18 rfl (by kernel_rfl) (by kernel_rfl) (by kernel_rfl) (fun _ _ _ h => h) (by rfl) ?hkbn18 hS ?_
      case hkbn18 => (intro w hSw; (try dsimp only at hSw); go_split_ands; go_simp; (try with_reducible rfl))
      (try simp only [Act.put, List.setIfInBounds_toArray, List.set_cons_zero, List.set_cons_succ])
      refine any_take 22 ?vkbn19 rfl (by kernel_rfl) (by kernel_rfl) (by kernel_rfl) (fun _ _ _ h => h) (by rfl) ?hkbn19 hS ?_
      case hkbn19 => (intro w hSw; (try dsimp only at hSw); go_split_ands; go_simp; (try with_reducible rfl))
      (try simp only [Act.put, List.setIfInBounds_toArray, List.set_cons_zero, List.set_cons_succ])
      refine any_take 23 ?vkbn20 rfl (by kernel_rfl) (by kernel_rfl) (by kernel_rfl) (fun _ _ _ h => h) (by rfl) ?hkbn20 hS ?_
      case hkbn20 => (intro w hSw; (try dsimp only at hSw); go_split_ands; go_simp; (try with_reducible rfl))
      (try simp only [Act.put, List.setIfInBounds_toArray, List.set_cons_zero, List.set_cons_succ])
      refine any_take 24 ?vkbn21 rfl (by kernel_rfl) (by kernel_rfl) (by kernel_rfl) (fun _ _ _ h => h) (by rfl) ?hkbn21 hS ?_
      case hkbn21 => (intro w hSw; (try dsimp only at hSw); go_split_ands; go_simp; (try with_reducible rfl))
      (try simp only [Act.put, List.setIfInBounds_toArray, List.set_cons_zero, List.set_cons_succ])
      refine any_take 25 ?vkbn22 rfl (by kernel_rfl) (by kernel_rfl) (by kernel_rfl) (fun _ _ _ h => h) (by rfl) ?hkbn22 hS ?_
      case hkbn22 => (intro w hSw; (try dsimp only at hSw); go_split_ands; go_simp; (try with_reducible rfl))
      (try simp only [Act.put, List.setIfInBounds_toArray, List.set_cons_zero, List.set_cons_succ])
      refine any_take 26 ?vkbn23 rfl (by kernel_rfl) (by kernel_rfl) (by kernel_rfl) (fun _ _ _ h => h) (by rfl) ?hkbn23 hS ?_
      case hkbn23 => (intro w hSw; (try dsimp only at hSw); go_split_ands; go_simp; (try with_reducible rfl))
      (try simp only [Act.put, List.setIfInBounds_toArray, List.set_cons_zero, List.set_cons_succ])
      refine any_take 27 ?vkbn24 rfl (by kernel_rfl) (by kernel_rfl) (by kernel_rfl) (fun _ _ _ h => h) (by rfl) ?hkbn24 hS ?_
      case hkbn24 => (intro w hSw; (try dsimp only at hSw); go_split_ands; go_simp; (try with_reducible rfl))
      (try simp only [Act.put, List.setIfInBounds_toArray, List.set_cons_zero, List.set_cons_succ])
      refine any_take 28 ?vkbn25 rfl (by kernel_rfl) (by kernel_rfl) (by kernel_rfl) (fun _ _ _ h => h) (by rfl) ?hkbn25 hS ?_
      case hkbn25 => (intro w hSw; (try dsimp only at hSw); go_split_ands; go_simp; (try with_reducible rfl))
      (try simp only [Act.put, List.setIfInBounds_toArray, List.set_cons_zero, List.set_cons_succ])
      refine any_take 29 (.string ⟨p3.toArray⟩) rfl (by kernel_rfl) (by kernel_rfl) (by kernel_rfl) (fun _ _ _ h => h) (by rfl) (fun W hW => exec_conv 22 9 (.tmp 132) rfl (.slice (some ⟨nb, no + M, none⟩) (200 - M) (cn - M)) _ rfl (HC5.out W hW)) hS ?_
      (try simp only [Act.put, List.setIfInBounds_toArray, List.set_cons_zero, List.set_cons_succ])
      refine any_take 30 ?vkbn26 rfl (by kernel_rfl) (by kernel_rfl) (by kernel_rfl) (fun _ _ _ h => h) (by rfl) ?hkbn26 hS ?_
      case hkbn26 => (intro w hSw; (try dsimp only at hSw); go_split_ands; go_simp; (try with_reducible rfl))
      (try simp only [Act.put, List.setIfInBounds_toArray, List.set_cons_zero, List.set_cons_succ])
      refine any_take 31 ?vkbn27 rfl (by kernel_rfl) (by kernel_rfl) (by kernel_rfl) (fun _ _ _ h => h) (by rfl) ?hkbn27 hS ?_
      case hkbn27 => (intro w hSw; (try dsimp only at hSw); go_split_ands; go_simp; (try with_reducible rfl))
      (try simp only [Act.put, List.setIfInBounds_toArray, List.set_cons_zero, List.set_cons_succ])
      refine any_take 32 ?vkbn28 rfl (by kernel_rfl) (by kernel_rfl) (by kernel_rfl) (fun _ _ _ h => h) (by rfl) ?hkbn28 hS ?_
      case hkbn28 => (intro w hSw; (try dsimp only at hSw); go_split_ands; go_simp; (try with_reducible rfl))
      (try simp only [Act.put, List.setIfInBounds_toArray, List.set_cons_zero, List.set_cons_succ])
      refine any_take 33 ?vkbn29 rfl (by kernel_rfl) (by kernel_rfl) (by kernel_rfl) (fun _ _ _ h => h) (by rfl) ?hkbn29 hS ?_
      case hkbn29 => (intro w hSw; (try dsimp only at hSw); go_split_ands; go_simp; (try with_reducible rfl))
      (try simp only [Act.put, List.setIfInBounds_toArray, List.set_cons_zero, List.set_cons_succ])
      refine any_take 34 ?vkbn30 rfl (by kernel_rfl) (by kernel_rfl) (by kernel_rfl) (fun _ _ _ h => h) (by rfl) ?hkbn30 hS ?_
      case hkbn30 => (intro w hSw; (try dsimp only at hSw); go_split_ands; go_simp; (try with_reducible rfl))
      (try simp only [Act.put, List.setIfInBounds_toArray, List.set_cons_zero, List.set_cons_succ])
      refine any_take 35 (.string ⟨p3.toArray⟩) rfl (by kernel_rfl) (by kernel_rfl) (by kernel_rfl) (fun _ _ _ h => h) (by rfl) (fun W hW => exec_conv 22 9 (.tmp 138) rfl (.slice (some ⟨wb, wo + M, none⟩) (200 - M) (cw - M)) _ rfl (HC6.out W hW)) hS ?_
      (try simp only [Act.put, List.setIfInBounds_toArray, List.set_cons_zero, List.set_cons_succ])
      refine any_take 36 ?vkbn31 rfl (by kernel_rfl) (by kernel_rfl) (by kernel_rfl) (fun _ _ _ h => h) (by rfl) ?hkbn31 hS ?_
      case hkbn31 => (intro w hSw; (try dsimp only at hSw); go_split_ands; go_simp; (try with_reducible rfl))
      (try simp only [Act.put, List.setIfInBounds_toArray, List.set_cons_zero, List.set_cons_succ])
      refine any_take 37 ?vkbn32 rfl (by kernel_rfl) (by kernel_rfl) (by kernel_rfl) (fun _ _ _ h => h) (by rfl) ?hkbn32 hS ?_
      case hkbn32 => (intro w hSw; (try dsimp only at hSw); go_split_ands; go_simp; (try with_reducible rfl))
      (try simp only [Act.put, List.setIfInBounds_toArray, List.set_cons_zero, List.set_cons_succ])
      refine any_take 38 ?vkbn33 rfl (by kernel_rfl) (by kernel_rfl) (by kernel_rfl) (fun _ _ _ h => h) (by rfl) ?hkbn33 hS ?_
      case hkbn33 => (intro w hSw; (try dsimp only at hSw); go_split_ands; go_simp; (try with_reducible rfl))
      (try simp only [Act.put, List.setIfInBounds_toArray, List.set_cons_zero, List.set_cons_succ])
      refine any_one 39 rfl (by kernel_rfl) (by rfl) (fun K hK => ?_)
      have hSS : Below w7.heap.size w7 _ := hS
      clear hS
      go_simp
      refine (awake_ok _).mono ?_
      rintro e w8 ⟨rfl, hb8⟩
      have hS8 : Below w7.heap.size w7 w8 := hSS.trans (hb8.mono hSS.size)
      clear hSS hb8
      refine hK.out _ _ (hS8) (fun hS => ?_)
      clear hK
      (try simp only [Act.put, List.setIfInBounds_toArray, List.set_cons_zero, List.set_cons_succ])
      refine any_take 40 ?vkbn34 rfl (by kernel_rfl) (by kernel_rfl) (by kernel_rfl) (fun _ _ _ h => h) (by rfl) ?hkbn34 hS ?_
      case hkbn34 => (intro w hSw; (try dsimp only at hSw); go_split_ands; go_simp; (try with_reducible rfl))
      (try simp only [Act.put, List.setIfInBounds_toArray, List.set_cons_zero, List.set_cons_succ])
      refine any_take 41 ?vkbn35 rfl (by kernel_rfl) (by kernel_rfl) (by kernel_rfl) (fun _ _ _ h => h) (by rfl) ?hkbn35 hS ?_
      case hkbn35 => (intro w hSw; (try dsimp only at hSw); go_split_ands; go_simp; (try with_reducible rfl))
      (try simp only [Act.put, List.setIfInBounds_toArray, List.set_cons_zero, List.set_cons_succ])
      refine wpAnyH_done (by kernel_rfl) ?_ _
      refine NoPanic.normal ?_
      have HE : Hid (Below w.heap.size w w8) := HB7.out.trans (hS.mono HB7.out.size)
      clear hS HC1 HC2 HC3 HC4 HC5 HC6
      go_wp2
      go_ret
      exact ⟨rfl, HE.out⟩
    · have hcb : b.length ≤ b.length := by omega
      have hci : min (b.length : Int) (T : Int) = (b.length : Nat) := by omega
      have hcn : min b.length T = b.length := by omega
      have HPL : Hid ((putAt B K b.length b).length = 200) := (putAt_len B K b.length b (by rw [HBL.out]; omega) hcb).trans HBL.out
      have hnp := torn_put B HBL.out K T b (by omega) b.length hcn.symm
      have hwr := write_beside H3.out (by simp) (K : Int) hKw a1 c1 b HS1.out 5 ⟨putAt B K b.length b, 2, true, 0, T, true⟩ hnp.1 hnp.2
      clear hnp
      go_wp2_with fail
      refine hwr.mono ?_
      rintro e w4 ⟨rfl, h4⟩
      clear hwr
      have H4 : Hid (Beside w w4 g ⟨putAt B K b.length b, 2, true, 0, T, true⟩ dw cw B) := h4
      have hdd := dead_held h4.held true rfl
      clear h4
      go_wp2_with fail
      refine hdd.mono ?_
      rintro e w5 ⟨rfl, rfl⟩
      clear hdd
      have hwk := wake_beside H4.out ⟨putAt B K b.length b, 2, false, 0, 0, false⟩ rfl
      go_wp2_with fail
      refine hwk.mono ?_
      rintro e w6 ⟨⟨v6, rfl⟩, h6⟩
      clear hwk
      have hrd := read_held h6.held 0 200 (by decide) (putAt B K b.length b) 0 (read_all _ _ HPL.out).1 (read_all _ _ HPL.out).2
      rw [HPL.out] at hrd
      have HW6 : Hid (Sees w6 dw cw B) := h6.sees
      clear h6
      go_wp2_with fail
      refine hrd.mono ?_
      rintro e w7 ⟨dn, cn, rfl, hsn, h7, hb7⟩
      clear hrd
      have hsw := HW6.out.below hb7
      have hsb := HS1.out.below h7.base
      have HB7 : Hid (Below w.heap.size w w7) := h7.base
      obtain ⟨nb, no, rfl⟩ : ∃ nb no, dn = some ⟨nb, no, none⟩ := by
        obtain ⟨nb, no, h, _⟩ := hsn.at' (fun h => by have := HPL.out; rw [h] at this; simp at this)
        exact ⟨nb, no, h⟩
      obtain ⟨wb, wo, rfl⟩ : ∃ wb wo, dw = some ⟨wb, wo, none⟩ := by
        obtain ⟨wb, wo, h, _⟩ := hsw.at' (fun h => by have := HBL.out; rw [h] at this; simp at this)
        exact ⟨wb, wo, h⟩
      obtain ⟨p1, hp1⟩ : ∃ p, p = B.take K := ⟨_, rfl⟩
      obtain ⟨p2, hp2⟩ : ∃ p, p = b.take b.length := ⟨_, rfl⟩
      obtain ⟨p3, hp3⟩ : ∃ p, p = B.drop (K + b.length) := ⟨_, rfl⟩
      have cn2 : 200 ≤ cn := by have := hsn.fits; rw [HPL.out] at this; exact this
      have cw2 : 200 ≤ cw := by have := hsw.fits; rw [HBL.out] at this; exact this
      have cn3 : cn ≤ 9223372036854775807 := by have := hsn.room; unfold maxLen at this; omega
      have cw3 : cw ≤ 9223372036854775807 := by have := hsw.room; unfold maxLen at this; omega
      have c13 : c1 ≤ 9223372036854775807 := by have := hsb.room; unfold maxLen at this; omega
      have c12 : b.length ≤ c1 := hsb.fits
      have q1 := (put_parts B K b.length b HBL.out (by omega) hcb).1
      have q2 := (put_parts B K b.length b HBL.out (by omega) hcb).2.1
      have q3 := (put_parts B K b.length b HBL.out (by omega) hcb).2.2
      have cvn : ∀ (l : List UInt8) (a : Option Addr) (ca n : Nat) W, Sees W a ca l → l.length = n → (Go.convert 22 9 (.slice a n ca)).run Try.prog W = .ok (.string ⟨l.toArray⟩) W := fun l a ca n W hs hl => by
        rw [← hl]; exact hs.convert (P := Try.prog) 22 5 9 Try.underlying22 Try.underlying5 Try.underlying9
      obtain ⟨M, hM⟩ : ∃ M, M = K + b.length := ⟨_, rfl⟩
      have HC1 : Hid (∀ W, Below w7.heap.size w7 W → (Go.convert 22 9 (.slice (some ⟨nb, no, none⟩) K cn)).run Try.prog W = .ok (.string ⟨p1.toArray⟩) W) := fun W hW => by
        refine cvn p1 _ cn K W ?_ (by rw [hp1, List.length_take, HBL.out]; omega)
        rw [hp1, ← q1]; exact (hsn.below hW).take K
      have HC2 : Hid (∀ W, Below w7.heap.size w7 W → (Go.convert 22 9 (.slice (some ⟨wb, wo, none⟩) K cw)).run Try.prog W = .ok (.string ⟨p1.toArray⟩) W) := fun W hW => by
        refine cvn p1 _ cw K W ?_ (by rw [hp1, List.length_take, HBL.out]; omega)
        rw [hp1]; exact (hsw.below hW).take K
      have HC3 : Hid (∀ W, Below w7.heap.size w7 W → (Go.convert 22 9 (.slice (some ⟨nb, no + K, none⟩) b.length (cn - K))).run Try.prog W = .ok (.string ⟨p2.toArray⟩) W) := fun W hW => by
        refine cvn p2 _ (cn - K) b.length W ?_ (by rw [hp2, List.length_take]; omega)
        rw [hp2, ← q2]; exact ((hsn.below hW).tail K (by rw [HPL.out]; omega)).take b.length
      have HC4 : Hid (∀ W, Below w7.heap.size w7 W → (Go.convert 22 9 (.slice a1 b.length c1)).run Try.prog W = .ok (.string ⟨p2.toArray⟩) W) := fun W hW => by
        refine cvn p2 _ c1 b.length W ?_ (by rw [hp2, List.length_take]; omega)
        rw [hp2]; exact (hsb.below hW).take b.length
      have HC5 : Hid (∀ W, Below w7.heap.size w7 W → (Go.convert 22 9 (.slice (some ⟨nb, no + M, none⟩) (200 - M) (cn - M))).run Try.prog W = .ok (.string ⟨p3.toArray⟩) W) := fun W hW => by
        refine cvn p3 _ (cn - M) (200 - M) W ?_ (by rw [hp3, ← hM, List.length_drop, HBL.out])
        rw [hp3, ← q3, ← hM]; exact (hsn.below hW).tail M (by rw [HPL.out]; omega)
      have HC6 : Hid (∀ W, Below w7.heap.size w7 W → (Go.convert 22 9 (.slice (some ⟨wb, wo + M, none⟩) (200 - M) (cw - M))).run Try.prog W = .ok (.string ⟨p3.toArray⟩) W) := fun W hW => by
        refine cvn p3 _ (cw - M) (200 - M) W ?_ (by rw [hp3, ← hM, List.length_drop, HBL.out])
        rw [hp3, ← hM]; exact (hsw.below hW).tail M (by rw [HBL.out]; omega)
      have e1 : K ≤ cn := by omega
      have e2 : K ≤ cw := by omega
      have e3 : M ≤ cn := by omega
      have e6 : K ≤ M := by omega
      have e7 : M - K = b.length := by omega
      have e4 : b.length ≤ c1 := by omega
      have e5 : M ≤ 200 := by omega
      have e8 : (M : Int) ≤ 200 := by omega
      have hwp : IntKind.i64.wrap ((K : Int) + (b.length : Nat)) = (M : Int) := by rw [IntKind.wrap_i64]; omega
      have n1 : ¬ (cn = K) := by omega
      have n2 : ¬ (cn = M) := by omega
      have n3 : ¬ (cw = M) := by omega
      clear hM hsn hsw hsb h7 hb7 hp1 hp2 hp3 q1 q2 q3 cvn HW6 H4 H3
      go_wp2
      refine wp_region_noPanic ?_
      refine wp_region_held (S := fun W => Below w7.heap.size w7 W) (by kernel_rfl) ?_
      have hS := (show (fun W : World => Below w7.heap.size w7 W) w7.drew from (Below.refl _ _).drew)
      refine any_take 0 ?vkcn1 rfl (by kernel_rfl) (by kernel_rfl) (by kernel_rfl) (fun _ _ _ h => h) (by rfl) ?hkcn1 hS ?_
      case hkcn1 => (intro w hSw; (try dsimp only at hSw); go_split_ands; go_simp; (try with_reducible rfl))
      (try simp only [Act.put, List.setIfInBounds_toArray, List.set_cons_zero, List.set_cons_succ])
      refine any_take 1 ?vkcn2 rfl (by kernel_rfl) (by kernel_rfl) (by kernel_rfl) (fun _ _ _ h => h) (by rfl) ?hkcn2 hS ?_
      case hkcn2 => (intro w hSw; (try dsimp only at hSw); go_split_ands; go_simp; (try with_reducible rfl))
      (try simp only [Act.put, List.setIfInBounds_toArray, List.set_cons_zero, List.set_cons_succ])
      refine any_take 2 ?vkcn3 rfl (by kernel_rfl) (by kernel_rfl) (by kernel_rfl) (fun _ _ _ h => h) (by rfl) ?hkcn3 hS ?_
      case hkcn3 => (intro w hSw; (try dsimp only at hSw); go_split_ands; go_simp; (try with_reducible rfl))
      (try simp only [Act.put, List.setIfInBounds_toArray, List.set_cons_zero, List.set_cons_succ])
      refine any_take 3 (.string ⟨p1.toArray⟩) rfl (by kernel_rfl) (by kernel_rfl) (by kernel_rfl) (fun _ _ _ h => h) (by rfl) (fun W hW => exec_conv 22 9 (.tmp 106) rfl (.slice (some ⟨nb, no, none⟩) K cn) _ rfl (HC1.out W hW)) hS ?_
      (try simp only [Act.put, List.setIfInBounds_toArray, List.set_cons_zero, List.set_cons_succ])
      refine any_take 4 ?vkcn4 rfl (by kernel_rfl) (by kernel_rfl) (by kernel_rfl) (fun _ _ _ h => h) (by rfl) ?hkcn4 hS ?_
      case hkcn4 => (intro w hSw; (try dsimp only at hSw); go_split_ands; go_simp; (try with_reducible rfl))
      (try simp only [Act.put, List.setIfInBounds_toArray, List.set_cons_zero, List.set_cons_succ])
      refine any_take 5 ?vkcn5 rfl (by kernel_rfl) (by kernel_rfl) (by kernel_rfl) (fun _ _ _ h => h) (by rfl) ?hkcn5 hS ?_
      case hkcn5 => (intro w hSw; (try dsimp only at hSw); go_split_ands; go_simp; (try with_reducible rfl))
      (try simp only [Act.put, List.setIfInBounds_toArray, List.set_cons_zero, List.set_cons_succ])
      refine any_take 6 ?vkcn6 rfl (by kernel_rfl) (by kernel_rfl) (by kernel_rfl) (fun _ _ _ h => h) (by rfl) ?hkcn6 hS ?_
      case hkcn6 => (intro w hSw; (try dsimp only at hSw); go_split_ands; go_simp; (try with_reducible rfl))
      (try simp only [Act.put, List.setIfInBounds_toArray, List.set_cons_zero, List.set_cons_succ])
      refine any_take 7 (.string ⟨p1.toArray⟩) rfl (by kernel_rfl) (by kernel_rfl) (by kernel_rfl) (fun _ _ _ h => h) (by rfl) (fun W hW => exec_conv 22 9 (.tmp 110) rfl (.slice (some ⟨wb, wo, none⟩) K cw) _ rfl (HC2.out W hW)) hS ?_
      (try simp only [Act.put, List.setIfInBounds_toArray, List.set_cons_zero, List.set_cons_succ])
      refine any_take 8 ?vkcn7 rfl (by kernel_rfl) (by kernel_rfl) (by kernel_rfl) (fun _ _ _ h => h) (by rfl) ?hkcn7 hS ?_
      case hkcn7 => (intro w hSw; (try dsimp only at hSw); go_split_ands; go_simp; (try with_reducible rfl))
      (try simp only [Act.put, List.setIfInBounds_toArray, List.set_cons_zero, List.set_cons_succ])
      refine any_take 9 ?vkcn8 rfl (by kernel_rfl) (by kernel_rfl) (by kernel_rfl) (fun _ _ _ h => h) (by rfl) ?hkcn8 hS ?_
      case hkcn8 => (intro w hSw; (try dsimp only at hSw); go_split_ands; go_simp; (try with_reducible rfl))
      (try simp only [Act.put, List.setIfInBounds_toArray, List.set_cons_zero, List.set_cons_succ])
      refine any_take 10 ?vkcn9 rfl (by kernel_rfl) (by kernel_rfl) (by kernel_rfl) (fun _ _ _ h => h) (by rfl) ?hkcn9 hS ?_
      case hkcn9 => (intro w hSw; (try dsimp only at hSw); go_split_ands; go_simp; (try with_reducible rfl))
      (try simp only [Act.put, List.setIfInBounds_toArray, List.set_cons_zero, List.set_cons_succ])
      refine any_take 11 ?vkcn10 rfl (by kernel_rfl) (by kernel_rfl) (by kernel_rfl) (fun _ _ _ h => h) (by rfl) ?hkcn10 hS ?_
      case hkcn10 => (intro w hSw; (try dsimp only at hSw); go_split_ands; go_simp; (try with_reducible rfl))
      (try simp only [Act.put, List.setIfInBounds_toArray, List.set_cons_zero, List.set_cons_succ])
      refine any_take 12 ?vkcn11 rfl (by kernel_rfl) (by kernel_rfl) (by kernel_rfl) (fun _ _ _ h => h) (by rfl) ?hkcn11 hS ?_
      case hkcn11 => (intro w hSw; (try dsimp only at hSw); go_split_ands; go_simp; (try with_reducible rfl))
      (try simp only [Act.put, List.setIfInBounds_toArray, List.set_cons_zero, List.set_cons_succ])
      refine any_take 13 ?vkcn12 rfl (by kernel_rfl) (by kernel_rfl) (by kernel_rfl) (fun _ _ _ h => h) (by rfl) ?hkcn12 hS ?_
      case hkcn12 => (intro w hSw; (try dsimp only at hSw); go_split_ands; go_simp; (try with_reducible rfl))
      (try simp only [Act.put, List.setIfInBounds_toArray, List.set_cons_zero, List.set_cons_succ])
      refine any_take 14 ?vkcn13 rfl (by kernel_rfl) (by kernel_rfl) (by kernel_rfl) (fun _ _ _ h => h) (by rfl) ?hkcn13 hS ?_
      case hkcn13 => (intro w hSw; (try dsimp only at hSw); go_split_ands; go_simp; (try with_reducible rfl))
      (try simp only [Act.put, List.setIfInBounds_toArray, List.set_cons_zero, List.set_cons_succ])
      refine any_take 15 ?vkcn14 rfl (by kernel_rfl) (by kernel_rfl) (by kernel_rfl) (fun _ _ _ h => h) (by rfl) ?hkcn14 hS ?_
      case hkcn14 => (intro w hSw; (try dsimp only at hSw); go_split_ands; go_simp; (try with_reducible rfl))
      (try simp only [Act.put, List.setIfInBounds_toArray, List.set_cons_zero, List.set_cons_succ])
      refine any_take 16 (.string ⟨p2.toArray⟩) rfl (by kernel_rfl) (by kernel_rfl) (by kernel_rfl) (fun _ _ _ h => h) (by rfl) (fun W hW => exec_conv 22 9 (.tmp 119) rfl (.slice (some ⟨nb, no + K, none⟩) b.length (cn - K)) _ rfl (HC3.out W hW)) hS ?_
      (try simp only [Act.put, List.setIfInBounds_toArray, List.set_cons_zero, List.set_cons_succ])
      refine any_take 17 ?vkcn15 rfl (by kernel_rfl) (by kernel_rfl) (by kernel_rfl) (fun _ _ _ h => h) (by rfl) ?hkcn15 hS ?_
      case hkcn15 => (intro w hSw; (try dsimp only at hSw); go_split_ands; go_simp; (try with_reducible rfl))
      (try simp only [Act.put, List.setIfInBounds_toArray, List.set_cons_zero, List.set_cons_succ])
      refine any_take 18 ?vkcn16 rfl (by kernel_rfl) (by kernel_rfl) (by kernel_rfl) (fun _ _ _ h => h) (by rfl) ?hkcn16 hS ?_
      case hkcn16 => (intro w hSw; (try dsimp only at hSw); go_split_ands; go_simp; (try with_reducible rfl))
      (try simp only [Act.put, List.setIfInBounds_toArray, List.set_cons_zero, List.set_cons_succ])
      refine any_take 19 ?vkcn17 rfl (by kernel_rfl) (by kernel_rfl) (by kernel_rfl) (fun _ _ _ h => h) (by rfl) ?hkcn17 hS ?_
      case hkcn17 => (intro w hSw; (try dsimp only at hSw); go_split_ands; go_simp; (try with_reducible rfl))
      (try simp only [Act.put, List.setIfInBounds_toArray, List.set_cons_zero, List.set_cons_succ])
      refine any_take 20 (.string ⟨p2.toArray⟩) rfl (by kernel_rfl) (by kernel_rfl) (by kernel_rfl) (fun _ _ _ h => h) (by rfl) (fun W hW => exec_conv 22 9 (.tmp 123) rfl (.slice a1 b.length c1) _ rfl (HC4.out W hW)) hS ?_
      (try simp only [Act.put, List.setIfInBounds_toArray, List.set_cons_zero, List.set_cons_succ])
      refine any_take 21 ?vkcn18 rfl (by kernel_rfl) (by kernel_rfl) (by kernel_rfl) (fun _ _ _ h => h) (by rfl) ?hkcn18 hS ?_
      case hkcn18 => (intro w hSw; (try dsimp only at hSw); go_split_ands; go_simp; (try with_reducible rfl))
      (try simp only [Act.put, List.setIfInBounds_toArray, List.set_cons_zero, List.set_cons_succ])
      refine any_take 22 ?vkcn19 rfl (by kernel_rfl) (by kernel_rfl) (by kernel_rfl) (fun _ _ _ h => h) (by rfl) ?hkcn19 hS ?_
      case hkcn19 => (intro w hSw; (try dsimp only at hSw); go_split_ands; go_simp; (try with_reducible rfl))
      (try simp only [Act.put, List.setIfInBounds_toArray, List.set_cons_zero, List.set_cons_succ])
      refine any_take 23 ?vkcn20 rfl (by kernel_rfl) (by kernel_rfl) (by kernel_rfl) (fun _ _ _ h => h) (by rfl) ?hkcn20 hS ?_
      case hkcn20 => (intro w hSw; (try dsimp only at hSw); go_split_ands; go_simp; (try with_reducible rfl))
      (try simp only [Act.put, List.setIfInBounds_toArray, List.set_cons_zero, List.set_cons_succ])
      refine any_take 24 ?vkcn21 rfl (by kernel_rfl) (by kernel_rfl) (by kernel_rfl) (fun _ _ _ h => h) (by rfl) ?hkcn21 hS ?_
      case hkcn21 => (intro w hSw; (try dsimp only at hSw); go_split_ands; go_simp; (try with_reducible rfl))
      (try simp only [Act.put, List.setIfInBounds_toArray, List.set_cons_zero, List.set_cons_succ])
      refine any_take 25 ?vkcn22 rfl (by kernel_rfl) (by kernel_rfl) (by kernel_rfl) (fun _ _ _ h => h) (by rfl) ?hkcn22 hS ?_
      case hkcn22 => (intro w hSw; (try dsimp only at hSw); go_split_ands; go_simp; (try with_reducible rfl))
      (try simp only [Act.put, List.setIfInBounds_toArray, List.set_cons_zero, List.set_cons_succ])
      refine any_take 26 ?vkcn23 rfl (by kernel_rfl) (by kernel_rfl) (by kernel_rfl) (fun _ _ _ h => h) (by rfl) ?hkcn23 hS ?_
      case hkcn23 => (intro w hSw; (try dsimp only at hSw); go_split_ands; go_simp; (try with_reducible rfl))
      (try simp only [Act.put, List.setIfInBounds_toArray, List.set_cons_zero, List.set_cons_succ])
      refine any_take 27 ?vkcn24 rfl (by kernel_rfl) (by kernel_rfl) (by kernel_rfl) (fun _ _ _ h => h) (by rfl) ?hkcn24 hS ?_
      case hkcn24 => (intro w hSw; (try dsimp only at hSw); go_split_ands; go_simp; (try with_reducible rfl))
      (try simp only [Act.put, List.setIfInBounds_toArray, List.set_cons_zero, List.set_cons_succ])
      refine any_take 28 ?vkcn25 rfl (by kernel_rfl) (by kernel_rfl) (by kernel_rfl) (fun _ _ _ h => h) (by rfl) ?hkcn25 hS ?_
      case hkcn25 => (intro w hSw; (try dsimp only at hSw); go_split_ands; go_simp; (try with_reducible rfl))
      (try simp only [Act.put, List.setIfInBounds_toArray, List.set_cons_zero, List.set_cons_succ])
      refine any_take 29 (.string ⟨p3.toArray⟩) rfl (by kernel_rfl) (by kernel_rfl) (by kernel_rfl) (fun _ _ _ h => h) (by rfl) (fun W hW => exec_conv 22 9 (.tmp 132) rfl (.slice (some ⟨nb, no + M, none⟩) (200 - M) (cn - M)) _ rfl (HC5.out W hW)) hS ?_
      (try simp only [Act.put, List.setIfInBounds_toArray, List.set_cons_zero, List.set_cons_succ])
      refine any_take 30 ?vkcn26 rfl (by kernel_rfl) (by kernel_rfl) (by kernel_rfl) (fun _ _ _ h => h) (by rfl) ?hkcn26 hS ?_
      case hkcn26 => (intro w hSw; (try dsimp only at hSw); go_split_ands; go_simp; (try with_reducible rfl))
      (try simp only [Act.put, List.setIfInBounds_toArray, List.set_cons_zero, List.set_cons_succ])
      refine any_take 31 ?vkcn27 rfl (by kernel_rfl) (by kernel_rfl) (by kernel_rfl) (fun _ _ _ h => h) (by rfl) ?hkcn27 hS ?_
      case hkcn27 => (intro w hSw; (try dsimp only at hSw); go_split_ands; go_simp; (try with_reducible rfl))
      (try simp only [Act.put, List.setIfInBounds_toArray, List.set_cons_zero, List.set_cons_succ])
      refine any_take 32 ?vkcn28 rfl (by kernel_rfl) (by kernel_rfl) (by kernel_rfl) (fun _ _ _ h => h) (by rfl) ?hkcn28 hS ?_
      case hkcn28 => (intro w hSw; (try dsimp only at hSw); go_split_ands; go_simp; (try with_reducible rfl))
      (try simp only [Act.put, List.setIfInBounds_toArray, List.set_cons_zero, List.set_cons_succ])
      refine any_take 33 ?vkcn29 rfl (by kernel_rfl) (by kernel_rfl) (by kernel_rfl) (fun _ _ _ h => h) (by rfl) ?hkcn29 hS ?_
      case hkcn29 => (intro w hSw; (try dsimp only at hSw); go_split_ands; go_simp; (try with_reducible rfl))
      (try simp only [Act.put, List.setIfInBounds_toArray, List.set_cons_zero, List.set_cons_succ])
      refine any_take 34 ?vkcn30 rfl (by kernel_rfl) (by kernel_rfl) (by kernel_rfl) (fun _ _ _ h => h) (by rfl) ?hkcn30 hS ?_
      case hkcn30 => (intro w hSw; (try dsimp only at hSw); go_split_ands; go_simp; (try with_reducible rfl))
      (try simp only [Act.put, List.setIfInBounds_toArray, List.set_cons_zero, List.set_cons_succ])
      refine any_take 35 (.string ⟨p3.toArray⟩) rfl (by kernel_rfl) (by kernel_rfl) (by kernel_rfl) (fun _ _ _ h => h) (by rfl) (fun W hW => exec_conv 22 9 (.tmp 138) rfl (.slice (some ⟨wb, wo + M, none⟩) (200 - M) (cw - M)) _ rfl (HC6.out W hW)) hS ?_
      (try simp only [Act.put, List.setIfInBounds_toArray, List.set_cons_zero, List.set_cons_succ])
      refine any_take 36 ?vkcn31 rfl (by kernel_rfl) (by kernel_rfl) (by kernel_rfl) (fun _ _ _ h => h) (by rfl) ?hkcn31 hS ?_
      case hkcn31 => (intro w hSw; (try dsimp only at hSw); go_split_ands; go_simp; (try with_reducible rfl))
      (try simp only [Act.put, List.setIfInBounds_toArray, List.set_cons_zero, List.set_cons_succ])
      refine any_take 37 ?vkcn32 rfl (by kernel_rfl) (by kernel_rfl) (by kernel_rfl) (fun _ _ _ h => h) (by rfl) ?hkcn32 hS ?_
      case hkcn32 => (intro w hSw; (try dsimp only at hSw); go_split_ands; go_simp; (try with_reducible rfl))
      (try simp only [Act.put, List.setIfInBounds_toArray, List.set_cons_zero, List.set_cons_succ])
      refine any_take 38 ?vkcn33 rfl (by kernel_rfl) (by kernel_rfl) (by kernel_rfl) (fun _ _ _ h => h) (by rfl) ?hkcn33 hS ?_
      case hkcn33 => (intro w hSw; (try dsimp only at hSw); go_split_ands; go_simp; (try with_reducible rfl))
      (try simp only [Act.put, List.setIfInBounds_toArray, List.set_cons_zero, List.set_cons_succ])
      refine any_one 39 rfl (by kernel_rfl) (by rfl) (fun K hK => ?_)
      have hSS : Below w7.heap.size w7 _ := hS
      clear hS
      go_simp
      refine (awake_ok _).mono ?_
      rintro e w8 ⟨rfl, hb8⟩
      have hS8 : Below w7.heap.size w7 w8 := hSS.trans (hb8.mono hSS.size)
      clear hSS hb8
      refine hK.out _ _ (hS8) (fun hS => ?_)
      clear hK
      (try simp only [Act.put, List.setIfInBounds_toArray, List.set_cons_zero, List.set_cons_succ])
      refine any_take 40 ?vkcn34 rfl (by kernel_rfl) (by kernel_rfl) (by kernel_rfl) (fun _ _ _ h => h) (by rfl) ?hkcn34 hS ?_
      case hkcn34 => (intro w hSw; (try dsimp only at hSw); go_split_ands; go_simp; (try with_reducible rfl))
      (try simp only [Act.put, List.setIfInBounds_toArray, List.set_cons_zero, List.set_cons_succ])
      refine any_take 41 ?vkcn35 rfl (by kernel_rfl) (by kernel_rfl) (by kernel_rfl) (fun _ _ _ h => h) (by rfl) ?hkcn35 hS ?_
      case hkcn35 => (intro w hSw; (try dsimp only at hSw); go_split_ands; go_simp; (try with_reducible rfl))
      (try simp only [Act.put, List.setIfInBounds_toArray, List.set_cons_zero, List.set_cons_succ])
      refine wpAnyH_done (by kernel_rfl) ?_ _
      refine NoPanic.normal ?_
      have HE : Hid (Below w.heap.size w w8) := HB7.out.trans (hS.mono HB7.out.size)
      clear hS HC1 HC2 HC3 HC4 HC5 HC6
      go_wp2
      go_ret
      exact ⟨rfl, HE.out⟩
end Go.Proofs.Ythgfapnndobhbaa
