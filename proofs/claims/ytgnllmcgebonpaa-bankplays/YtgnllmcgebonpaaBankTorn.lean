/-
  A Save, torn anywhere: what the two banks hold behind it. No program here.
-/
import Derived.Test.YtgnllmcgebonpaaBankSim
namespace Go.Proofs.Ytgnllmcgebonpaa

theorem putAt_get (b : List UInt8) (a c : Nat) (l : List UInt8) (h : a + c ≤ b.length) (hc : c ≤ l.length) (i : Nat) : (putAt b a c l)[i]? = if i < a then b[i]? else if i < a + c then l[i - a]? else b[i]? := by
  unfold putAt
  by_cases h1 : i < a
  · rw [if_pos h1, List.append_assoc, List.getElem?_append_left (by simp; omega), List.getElem?_take, if_pos h1]
  · rw [if_neg h1]
    by_cases h2 : i < a + c
    · rw [if_pos h2, List.append_assoc, List.getElem?_append_right (by simp; omega), List.getElem?_append_left (by simp; omega), List.getElem?_take]
      rw [show (b.take a).length = a by simp; omega, if_pos (by omega)]
    · rw [if_neg h2, List.getElem?_append_right (by simp; omega), List.getElem?_drop]
      congr 1
      simp
      omega
/-- The row of a bank among bytes. -/
def rowB (b : List UInt8) (A N k : Nat) : List UInt8 := (b.drop (A + k * (N + 8))).take (N + 8)
theorem rowB_get (b : List UInt8) (A N k i : Nat) : (rowB b A N k)[i]? = if i < N + 8 then b[A + k * (N + 8) + i]? else none := by
  unfold rowB
  rw [List.getElem?_take]
  split
  · rw [List.getElem?_drop]
  · rfl
theorem rowB_len (b : List UInt8) (A N k : Nat) (hk : k ≤ 1) (h : A + 2 * (N + 8) ≤ b.length) : (rowB b A N k).length = N + 8 := by
  unfold rowB
  have : k * (N + 8) ≤ 1 * (N + 8) := Nat.mul_le_mul_right _ hk
  simp; omega
theorem row_same (b : List UInt8) (A N j o c : Nat) (l : List UInt8) (hj : j ≤ 1) (h : A + 2 * (N + 8) ≤ b.length) (ho : o + c ≤ N + 8) (hc : c ≤ l.length) :
    rowB (putAt b (A + j * (N + 8) + o) c l) A N j = putAt (rowB b A N j) o c l := by
  have hm : j * (N + 8) ≤ 1 * (N + 8) := Nat.mul_le_mul_right _ hj
  have hl := rowB_len b A N j hj h
  apply List.ext_getElem?
  intro i
  rw [putAt_get _ o c l (by omega) hc, rowB_get, rowB_get, putAt_get _ _ c l (by omega) hc]
  by_cases h1 : i < N + 8
  · rw [if_pos h1]
    by_cases h2 : i < o
    · rw [if_pos h2, if_pos (by omega), if_pos h1]
    · rw [if_neg h2, if_neg (by omega)]
      by_cases h3 : i < o + c
      · rw [if_pos h3, if_pos (by omega)]; congr 1; omega
      · rw [if_neg h3, if_neg (by omega), if_pos h1]
  · rw [if_neg h1, if_neg (by omega), if_neg (by omega), if_neg h1]
theorem row_other (b : List UInt8) (A N i j o c : Nat) (l : List UInt8) (hi : i ≤ 1) (hj : j ≤ 1) (hij : i ≠ j) (h : A + 2 * (N + 8) ≤ b.length) (ho : o + c ≤ N + 8) (hc : c ≤ l.length) :
    rowB (putAt b (A + j * (N + 8) + o) c l) A N i = rowB b A N i := by
  have hm : j * (N + 8) ≤ 1 * (N + 8) := Nat.mul_le_mul_right _ hj
  apply List.ext_getElem?
  intro t
  rw [rowB_get, rowB_get, putAt_get _ _ c l (by omega) hc]
  by_cases h1 : t < N + 8
  · rw [if_pos h1, if_pos h1]
    rcases (by omega : (i = 0 ∧ j = 1) ∨ (i = 1 ∧ j = 0)) with ⟨rfl, rfl⟩ | ⟨rfl, rfl⟩
    · rw [if_pos (by omega)]
    · rw [if_neg (by omega), if_neg (by omega)]
  · rw [if_neg h1, if_neg h1]

/-- What is behind the sign: its length, its number, its record. -/
theorem body_len (z : Nat) (l : List UInt8) : (bodyL z l).length = l.length + 7 := by
  simp [bodyL, fixL, w4s_length, sum3]; omega
theorem full_sign (B : List UInt8) : signB (90 :: B) = true := rfl
theorem full_whole (z : Nat) (l : List UInt8) (hz : z < 4294967295) : wholeB (90 :: bodyL z l) = true ∧ numL (90 :: bodyL z l) = z ∧ ((90 :: bodyL z l).drop 5).take l.length = l := by
  have hn : numL (90 :: bodyL z l) = z := by
    show be ((bodyL z l).take 4) = z
    rw [bodyL, fixL, show w4s [z] = w4 z by simp [w4s], List.append_assoc, List.take_append_of_le_length (by simp [w4_length]), show (w4 z).take 4 = w4 z from rfl]
    exact be_w4 z (by omega)
  refine ⟨?_, hn, ?_⟩
  · unfold wholeB
    rw [hn, full_sign, show (90 :: bodyL z l).drop 1 = bodyL z l from rfl]
    unfold bodyL
    rw [fix_good]
    simp; omega
  · show ((bodyL z l).drop 4).take l.length = l
    rw [bodyL, fixL, show w4s [z] = w4 z by simp [w4s], List.append_assoc, List.drop_append_of_le_length (by simp [w4_length]), show (w4 z).drop 4 = [] from rfl, List.nil_append, List.take_append_of_le_length (by simp), List.take_length]

/-- A flash that is awake, no tear due, with the record D saved i times in all (none, if i is 0). -/
structure Calm (s : PS) (A N i : Nat) (D : List UInt8) : Prop where
  dead : s.dead = false
  due : s.due = false
  fits : A + 2 * (N + 8) ≤ s.b.length
  num : numN s A N = i
  told : (i = 0 ∧ newI s A N = none ∧ freshB s A N = true) ∨ (0 < i ∧ loadE s A N = 0 ∧ loadL s A N = D)

theorem rowL_eq (s : PS) (A N k : Nat) : rowL s A N k = rowB s.b A N k := rfl
theorem whole_not_sign {x : List UInt8} (h : signB x = false) : wholeB x = false := by unfold wholeB; rw [h]; rfl

theorem newR_none {x y : List UInt8} (h : newR x y = none) : wholeB x = false ∧ wholeB y = false := by
  unfold newR at h
  cases hx : wholeB x <;> cases hy : wholeB y <;> simp [hx, hy] at h ⊢
  split at h <;> simp at h

/-- The new record, all of it. -/
theorem fin_full {s W : PS} {A N i : Nat} {D l : List UInt8} (h : Calm s A N i D) (hi : i < 4294967294) (hl : l.length = N) (hd : W.dead = false) (hu : W.due = false) (hb : W.b.length = s.b.length)
    (hj : rowL W A N (slotN s A N) = 90 :: bodyL (i + 1) l) (ho : rowL W A N (1 - slotN s A N) = rowL s A N (1 - slotN s A N)) : Calm W A N (i + 1) l := by
  obtain ⟨f1, f2, f3⟩ := full_whole (i + 1) l (by omega)
  have hnum := h.num
  have key : newI W A N = some (slotN s A N) := by
    unfold slotN at hj ho ⊢
    cases hn : newI s A N with
    | none =>
      rw [hn] at hj ho
      simp only [reduceCtorEq, if_false, Nat.sub_zero] at hj ho ⊢
      have hnn := newR_none hn
      unfold newI newR
      rw [hj, ho, f1]
      rw [hnn.2]; rfl
    | some k =>
      rw [hn] at hj ho
      have hk := newI_le hn
      have hkw := newI_whole hn
      have hkn : numL (rowL s A N k) = i := by rw [numN, if_neg (by simp [h.dead]), hn] at hnum; exact hnum
      rcases (by omega : k = 0 ∨ k = 1) with rfl | rfl
      · simp only [if_true, Nat.sub_self] at hj ho ⊢
        unfold newI newR
        rw [hj, ho, f1, f2, hkw, hkn]
        simp
      · simp only [Option.some.injEq, Nat.one_ne_zero, if_false, Nat.sub_zero] at hj ho ⊢
        unfold newI newR
        rw [hj, ho, f1, f2, hkw, hkn]
        simp
  refine ⟨hd, hu, by rw [hb]; exact h.fits, ?_, .inr ⟨by omega, ?_, ?_⟩⟩
  · rw [numN, if_neg (by simp [hd]), key]; show numL (rowL W A N (slotN s A N)) = _; rw [hj, f2]
  · rw [loadE, if_neg (by simp [hd]), key]
  · rw [loadL, if_neg (by simp [hd]), key]
    show ((rowL W A N (slotN s A N)).drop 5).take N = l
    rw [hj, ← hl]; exact f3

/-- The old record, all of it. -/
theorem fin_old {s W : PS} {A N i : Nat} {D : List UInt8} (h : Calm s A N i D) (hd : W.dead = false) (hu : W.due = false) (hb : W.b.length = s.b.length)
    (hj : signB (rowL W A N (slotN s A N)) = false ∨ rowL W A N (slotN s A N) = rowL s A N (slotN s A N)) (ho : rowL W A N (1 - slotN s A N) = rowL s A N (1 - slotN s A N)) : Calm W A N i D := by
  have key : newI W A N = newI s A N ∧ ∀ k, newI s A N = some k → rowL W A N k = rowL s A N k := by
    unfold slotN at hj ho
    cases hn : newI s A N with
    | none =>
      rw [hn] at hj ho
      simp only [reduceCtorEq, if_false, Nat.sub_zero] at hj ho
      refine ⟨?_, fun k hk => by cases hk⟩
      obtain ⟨h0, h1⟩ := newR_none hn
      unfold newI newR
      have h2 : wholeB (rowL W A N 0) = false := by
        rcases hj with hj | hj
        · exact whole_not_sign hj
        · rw [hj]; exact h0
      rw [ho, h1, h2]; rfl
    | some k =>
      rw [hn] at hj ho
      have hk := newI_le hn
      have hkw := newI_whole hn
      rcases (by omega : k = 0 ∨ k = 1) with rfl | rfl
      · simp only [if_true, Nat.sub_self] at hj ho
        refine ⟨?_, fun k hk => by cases hk; exact ho⟩
        rcases hj with hj | hj
        · unfold newI newR
          rw [ho, hkw, whole_not_sign hj]; rfl
        · unfold newI at hn ⊢
          rw [ho, hj]; exact hn
      · simp only [Option.some.injEq, Nat.one_ne_zero, if_false, Nat.sub_zero] at hj ho
        refine ⟨?_, fun k hk => by cases hk; exact ho⟩
        rcases hj with hj | hj
        · unfold newI newR
          rw [ho, hkw, whole_not_sign hj]; rfl
        · unfold newI at hn ⊢
          rw [ho, hj]; exact hn
  obtain ⟨k1, k2⟩ := key
  have hnum : numN W A N = numN s A N := by
    rw [numN, if_neg (by simp [hd]), numN, if_neg (by simp [h.dead]), k1]
    cases hn : newI s A N with
    | none => rfl
    | some k => show numL (rowL W A N k) = numL (rowL s A N k); rw [k2 k hn]
  refine ⟨hd, hu, by rw [hb]; exact h.fits, hnum.trans h.num, ?_⟩
  rcases h.told with ⟨r1, r2, r3⟩ | ⟨r1, r2, r3⟩
  · refine .inl ⟨r1, k1.trans r2, ?_⟩
    unfold freshB at r3 ⊢
    rw [h.dead] at r3
    rw [hd]
    simp only [Bool.not_false, Bool.true_and, Bool.and_eq_true, Bool.not_eq_true'] at r3 ⊢
    unfold slotN at hj ho
    rw [r2] at hj ho
    simp only [reduceCtorEq, if_false, Nat.sub_zero] at hj ho
    refine ⟨?_, by rw [ho]; exact r3.2⟩
    rcases hj with hj | hj
    · exact hj
    · rw [hj]; exact r3.1
  · refine .inr ⟨r1, ?_, ?_⟩
    · rw [loadE, if_neg (by simp [h.dead])] at r2
      rw [loadE, if_neg (by simp [hd]), k1]; exact r2
    · rw [loadL, if_neg (by simp [h.dead])] at r3
      rw [loadL, if_neg (by simp [hd]), k1]
      cases hn : newI s A N with
      | none => rw [hn] at r3; exact r3
      | some k => rw [hn] at r3; show ((rowL W A N k).drop 5).take N = D; rw [k2 k hn]; exact r3
end Go.Proofs.Ytgnllmcgebonpaa
