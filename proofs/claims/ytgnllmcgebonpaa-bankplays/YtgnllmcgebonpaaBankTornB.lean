/-
  A Save, torn anywhere or not at all: the old record or the new one, all of it. No program here.
-/
import Derived.Test.YtgnllmcgebonpaaBankTorn
namespace Go.Proofs.Ytgnllmcgebonpaa

theorem write_alive (s : PS) (p : Nat) (l : List UInt8) (hd : s.dead = false) (hp : p + l.length ≤ s.b.length) :
    writeE s (p : Int) l = (if tornB s = true then 5 else 0) ∧ writeS s (p : Int) l = { nextS s with b := putAt s.b p (cutN s l.length) l, n := s.n + 1, dead := tornB s } := by
  have hc : checkE s (p : Int) l.length = 0 := by unfold checkE; rw [hd, if_neg (by simp), if_neg (by omega)]
  constructor
  · unfold writeE; rw [if_neg (by simp [hc])]
  · unfold writeS; rw [if_neg (by simp [hc]), hd]; rfl

theorem sign_zero (x : List UInt8) (h : 1 ≤ x.length) : signB (putAt x 0 1 [0]) = false := by
  unfold signB; rw [putAt_get x 0 1 [0] (by omega) (by simp)]; rfl
theorem sign_keep (x B : List UInt8) (c : Nat) (h : 1 + c ≤ x.length) (hc : c ≤ B.length) : signB (putAt x 1 c B) = signB x := by
  unfold signB; rw [putAt_get x 1 c B h hc, if_pos (by omega)]
theorem putAt_none (x l : List UInt8) (a : Nat) : putAt x a 0 l = x := by simp [putAt]
theorem row_full (x B : List UInt8) (m : Nat) (hx : x.length = m + 1) (hB : B.length = m) : putAt (putAt (putAt x 0 1 [0]) 1 m B) 0 1 [90] = 90 :: B := by
  have l1 : (putAt x 0 1 [0]).length = m + 1 := by rw [putAt_len _ _ _ _ (by omega) (by simp)]; exact hx
  have l2 : (putAt (putAt x 0 1 [0]) 1 m B).length = m + 1 := by rw [putAt_len _ _ _ _ (by omega) (by omega)]; exact l1
  apply List.ext_getElem?
  intro i
  rw [putAt_get _ 0 1 [90] (by omega) (by simp), if_neg (by omega)]
  cases i with
  | zero => rfl
  | succ i =>
    rw [if_neg (by omega), putAt_get _ 1 m B (by omega) (by omega), if_neg (by omega)]
    by_cases h1 : i < m
    · rw [if_pos (by omega)]; simp
    · rw [if_neg (by omega), putAt_get _ 0 1 [0] (by omega) (by simp), if_neg (by omega), if_neg (by omega), List.getElem?_eq_none (by omega), List.getElem?_eq_none (by simp; omega)]

/-- What three Writes leave in the two banks. -/
theorem three_rows (s : PS) (A N j : Nat) (hj : j ≤ 1) (B : List UInt8) (hB : B.length = N + 7) (hd : s.dead = false) (hf : A + 2 * (N + 8) ≤ s.b.length) (E : Nat) (hE : E = threeE writeE writeS s ((A + j * (N + 8) : Nat) : Int) B) (S : PS) (hS : S = threeS writeE writeS s ((A + j * (N + 8) : Nat) : Int) B) :
    S.b.length = s.b.length ∧ rowL S A N (1 - j) = rowL s A N (1 - j) ∧
    ((E = 0 ∧ S.dead = false ∧ S.due = s.due ∧ rowL S A N j = 90 :: B) ∨ (E = 5 ∧ s.due = true ∧ (rowL S A N j = 90 :: B ∨ signB (rowL S A N j) = false ∨ rowL S A N j = rowL s A N j))) := by
  have hm : j * (N + 8) ≤ 1 * (N + 8) := Nat.mul_le_mul_right _ hj
  obtain ⟨P, hP⟩ : ∃ P, P = A + j * (N + 8) := ⟨_, rfl⟩
  rw [← hP] at hE hS
  have hxl := rowB_len s.b A N j hj hf
  have hc1 : cutN s 1 ≤ 1 := by unfold cutN; split <;> omega
  obtain ⟨e1, s1⟩ := write_alive s P [0] hd (by simp; omega)
  rw [show ([0] : List UInt8).length = 1 from rfl] at s1
  have b1 : (putAt s.b P (cutN s 1) [0]).length = s.b.length := putAt_len _ _ _ _ (by omega) (by simp; omega)
  have r1 : rowB (putAt s.b P (cutN s 1) [0]) A N j = putAt (rowB s.b A N j) 0 (cutN s 1) [0] := by
    have := row_same s.b A N j 0 (cutN s 1) [0] hj hf (by omega) (by simp; omega)
    rw [Nat.add_zero, ← hP] at this; exact this
  have o1 : rowB (putAt s.b P (cutN s 1) [0]) A N (1 - j) = rowB s.b A N (1 - j) := by
    have := row_other s.b A N (1 - j) j 0 (cutN s 1) [0] (by omega) hj (by omega) hf (by omega) (by simp; omega)
    rw [Nat.add_zero, ← hP] at this; exact this
  cases ht1 : tornB s
  · skip
    rw [ht1] at e1 s1
    have c1 : cutN s 1 = 1 := by unfold cutN; rw [ht1]; rfl
    rw [c1] at s1 b1 r1 o1
    obtain ⟨t1, ht1'⟩ : ∃ t1, t1 = writeS s (P : Int) [0] := ⟨_, rfl⟩
    rw [← ht1'] at s1
    have tb : t1.b = putAt s.b P 1 [0] := by rw [s1]
    have td : t1.dead = false := by rw [s1]
    have tu : t1.due = s.due := by rw [s1]; rfl
    have hc2 : cutN t1 (N + 7) ≤ N + 7 := by unfold cutN; split <;> omega
    obtain ⟨e2, s2⟩ := write_alive t1 (P + 1) B td (by rw [tb, b1, hB]; omega)
    rw [show (((P + 1 : Nat)) : Int) = (P : Int) + 1 by omega, hB] at s2
    rw [show (((P + 1 : Nat)) : Int) = (P : Int) + 1 by omega] at e2
    have b2 : (putAt t1.b (P + 1) (cutN t1 (N + 7)) B).length = s.b.length := by rw [putAt_len _ _ _ _ (by rw [tb, b1]; omega) (by omega), tb, b1]
    have r2 : rowB (putAt t1.b (P + 1) (cutN t1 (N + 7)) B) A N j = putAt (putAt (rowB s.b A N j) 0 1 [0]) 1 (cutN t1 (N + 7)) B := by
      have := row_same t1.b A N j 1 (cutN t1 (N + 7)) B hj (by rw [tb, b1]; exact hf) (by omega) (by omega)
      rw [← hP] at this
      rw [this, tb, r1]
    have o2 : rowB (putAt t1.b (P + 1) (cutN t1 (N + 7)) B) A N (1 - j) = rowB s.b A N (1 - j) := by
      have := row_other t1.b A N (1 - j) j 1 (cutN t1 (N + 7)) B (by omega) hj (by omega) (by rw [tb, b1]; exact hf) (by omega) (by omega)
      rw [← hP] at this
      rw [this, tb, o1]
    have sg2 : ∀ c, c ≤ N + 7 → signB (putAt (putAt (rowB s.b A N j) 0 1 [0]) 1 c B) = false := fun c hc => by
      rw [sign_keep _ _ _ (by rw [putAt_len _ _ _ _ (by omega) (by simp)]; omega) (by omega)]
      exact sign_zero _ (by omega)
    cases ht2 : tornB t1
    · skip
      rw [ht2] at e2 s2
      have c2 : cutN t1 (N + 7) = N + 7 := by unfold cutN; rw [ht2]; rfl
      rw [c2] at s2 b2 r2 o2
      obtain ⟨t2, ht2'⟩ : ∃ t2, t2 = writeS t1 ((P : Int) + 1) B := ⟨_, rfl⟩
      rw [← ht2'] at s2
      have ub : t2.b = putAt t1.b (P + 1) (N + 7) B := by rw [s2]
      have ud : t2.dead = false := by rw [s2]
      have uu : t2.due = s.due := by rw [s2]; exact tu
      have hc3 : cutN t2 1 ≤ 1 := by unfold cutN; split <;> omega
      obtain ⟨e3, s3⟩ := write_alive t2 P [90] ud (by rw [ub, b2]; simp; omega)
      rw [show ([90] : List UInt8).length = 1 from rfl] at s3
      have b3 : (putAt t2.b P (cutN t2 1) [90]).length = s.b.length := by rw [putAt_len _ _ _ _ (by rw [ub, b2]; omega) (by simp; omega), ub, b2]
      have r3 : rowB (putAt t2.b P (cutN t2 1) [90]) A N j = putAt (putAt (putAt (rowB s.b A N j) 0 1 [0]) 1 (N + 7) B) 0 (cutN t2 1) [90] := by
        have := row_same t2.b A N j 0 (cutN t2 1) [90] hj (by rw [ub, b2]; exact hf) (by omega) (by simp; omega)
        rw [Nat.add_zero, ← hP] at this
        rw [this, ub, r2]
      have o3 : rowB (putAt t2.b P (cutN t2 1) [90]) A N (1 - j) = rowB s.b A N (1 - j) := by
        have := row_other t2.b A N (1 - j) j 0 (cutN t2 1) [90] (by omega) hj (by omega) (by rw [ub, b2]; exact hf) (by omega) (by simp; omega)
        rw [Nat.add_zero, ← hP] at this
        rw [this, ub, o2]
      have EE : E = writeE t2 (P : Int) [90] := by rw [hE, threeE, e1, if_neg (by simp), ← ht1', e2, if_neg (by simp), ← ht2']
      have SS : S = writeS t2 (P : Int) [90] := by rw [hS, threeS, e1, if_neg (by simp), ← ht1', e2, if_neg (by simp), ← ht2']
      have Sb : S.b = putAt t2.b P (cutN t2 1) [90] := by rw [SS, s3]
      refine ⟨by rw [Sb, b3], by rw [rowL_eq, Sb, o3, rowL_eq], ?_⟩
      rw [rowL_eq, Sb, r3]
      cases ht3 : tornB t2
      · left
        have c3 : cutN t2 1 = 1 := by unfold cutN; rw [ht3]; rfl
        refine ⟨by rw [EE, e3, ht3]; rfl, by rw [SS, s3]; exact ht3, by rw [SS, s3]; exact uu, ?_⟩
        rw [c3]; exact row_full _ B (N + 7) (by omega) hB
      · right
        refine ⟨by rw [EE, e3, ht3]; rfl, by rw [← uu]; unfold tornB at ht3; simp at ht3; exact ht3.1, ?_⟩
        rcases (by omega : cutN t2 1 = 0 ∨ cutN t2 1 = 1) with c3 | c3
        · right; left; rw [c3, putAt_none]; exact sg2 _ (by omega)
        · left; rw [c3]; exact row_full _ B (N + 7) (by omega) hB
    · have EE : E = 5 := by rw [hE, threeE, e1, if_neg (by simp), ← ht1', e2, ht2]; rfl
      have SS : S = writeS t1 ((P : Int) + 1) B := by rw [hS, threeS, e1, if_neg (by simp), ← ht1', e2, ht2]; rfl
      have Sb : S.b = putAt t1.b (P + 1) (cutN t1 (N + 7)) B := by rw [SS, s2]
      refine ⟨by rw [Sb, b2], by rw [rowL_eq, Sb, o2, rowL_eq], .inr ⟨EE, by rw [← tu]; unfold tornB at ht2; simp at ht2; exact ht2.1, .inr (.inl ?_)⟩⟩
      rw [rowL_eq, Sb, r2]; exact sg2 _ hc2
  · have EE : E = 5 := by rw [hE, threeE, e1, ht1]; rfl
    have SS : S = writeS s (P : Int) [0] := by rw [hS, threeS, e1, ht1]; rfl
    have Sb : S.b = putAt s.b P (cutN s 1) [0] := by rw [SS, s1]
    refine ⟨by rw [Sb, b1], by rw [rowL_eq, Sb, o1, rowL_eq], .inr ⟨EE, by unfold tornB at ht1; simp at ht1; exact ht1.1, ?_⟩⟩
    rw [rowL_eq, Sb, r1]
    rcases (by omega : cutN s 1 = 0 ∨ cutN s 1 = 1) with c1 | c1
    · right; right; rw [c1, putAt_none]; rfl
    · right; left; rw [c1]; exact sign_zero _ (by omega)

/-- What a Save asks of the flash alone. -/
theorem Calm.saveE {s s' : PS} {A N i : Nat} {D l : List UInt8} (h : Calm s A N i D) (hi : i < 4294967294) (hl : l.length = N) (hb : s'.b = s.b) (hd : s'.dead = false) :
    Go.Proofs.Ytgnllmcgebonpaa.saveE s' A N l = threeE writeE writeS s' ((A + slotN s A N * (N + 8) : Nat) : Int) (bodyL (i + 1) l) ∧ saveS s' A N l = threeS writeE writeS s' ((A + slotN s A N * (N + 8) : Nat) : Int) (bodyL (i + 1) l) := by
  have hr : ∀ k, rowL s' A N k = rowL s A N k := fun k => by rw [rowL_eq, rowL_eq, hb]
  have hn : newI s' A N = newI s A N := by unfold newI; rw [hr, hr]
  have hz : numN s' A N = i := by
    rw [← h.num, numN, numN, if_neg (by simp [hd]), if_neg (by simp [h.dead]), hn]
    cases newI s A N <;> simp [hr]
  have hs : slotN s' A N = slotN s A N := by unfold slotN; rw [hn]
  constructor
  · unfold Go.Proofs.Ytgnllmcgebonpaa.saveE; rw [if_neg (by simp [hl]), if_neg (by simp [hd]), hz, if_neg (by omega), hs]
  · unfold saveS; rw [if_neg (by simp [hl]), if_neg (by simp [hd]), hz, if_neg (by omega), hs]
theorem slot_le (s : PS) (A N : Nat) : slotN s A N ≤ 1 := by unfold slotN; split <;> omega

/-- A Save that nothing tears. -/
theorem calm_save {s : PS} {A N i : Nat} {D l : List UInt8} (h : Calm s A N i D) (hi : i < 4294967294) (hl : l.length = N) : Go.Proofs.Ytgnllmcgebonpaa.saveE s A N l = 0 ∧ Calm (saveS s A N l) A N (i + 1) l := by
  obtain ⟨hE, hS⟩ := h.saveE hi hl (s' := s) rfl h.dead
  obtain ⟨k1, k2, k3⟩ := three_rows s A N (slotN s A N) (slot_le s A N) (bodyL (i + 1) l) (by rw [body_len, hl]) h.dead h.fits _ hE _ hS
  rcases k3 with ⟨e, d, u, r⟩ | ⟨_, u, _⟩
  · exact ⟨e, fin_full h hi hl d (by rw [u]; exact h.due) k1 r k2⟩
  · rw [h.due] at u; cases u

/-- A Save that is torn anywhere, and the flash woken. -/
theorem calm_torn {s s' : PS} {A N i : Nat} {D l : List UInt8} (h : Calm s A N i D) (hi : i < 4294967294) (hl : l.length = N) (hb : s'.b = s.b) (hd : s'.dead = false) :
    Calm (wakeS (saveS s' A N l)) A N (i + 1) l ∨ (Go.Proofs.Ytgnllmcgebonpaa.saveE s' A N l ≠ 0 ∧ Calm (wakeS (saveS s' A N l)) A N i D) := by
  obtain ⟨hE, hS⟩ := h.saveE hi hl hb hd
  obtain ⟨k1, k2, k3⟩ := three_rows s' A N (slotN s A N) (slot_le s A N) (bodyL (i + 1) l) (by rw [body_len, hl]) hd (by rw [hb]; exact h.fits) _ hE _ hS
  have hr : ∀ k, rowL s' A N k = rowL s A N k := fun k => by rw [rowL_eq, rowL_eq, hb]
  have hw : ∀ k, rowL (wakeS (saveS s' A N l)) A N k = rowL (saveS s' A N l) A N k := fun k => rfl
  have hbl : (wakeS (saveS s' A N l)).b.length = s.b.length := by rw [← hb]; exact k1
  rcases k3 with ⟨_, _, _, r⟩ | ⟨e, _, r | r | r⟩
  · exact .inl (fin_full h hi hl rfl rfl hbl (by rw [hw]; exact r) (by rw [hw, k2, hr]))
  · exact .inl (fin_full h hi hl rfl rfl hbl (by rw [hw]; exact r) (by rw [hw, k2, hr]))
  · exact .inr ⟨by rw [e]; decide, fin_old h rfl rfl hbl (.inl (by rw [hw]; exact r)) (by rw [hw, k2, hr])⟩
  · exact .inr ⟨by rw [e]; decide, fin_old h rfl rfl hbl (.inr (by rw [hw, r, hr])) (by rw [hw, k2, hr])⟩

/-- A new flash holds no record. -/
theorem calm_new (n A N : Nat) (h : A + 2 * (N + 8) ≤ n) : Calm (newS n) A N 0 [] := by
  have hr : ∀ k, k ≤ 1 → signB (rowL (newS n) A N k) = false := fun k hk => by
    have : k * (N + 8) ≤ 1 * (N + 8) := Nat.mul_le_mul_right _ hk
    unfold signB
    rw [rowL_eq, rowB_get, if_pos (by omega), show (newS n).b = List.replicate n 255 from rfl, List.getElem?_replicate, if_pos (by omega)]
    rfl
  have hn : newI (newS n) A N = none := by
    unfold newI newR
    rw [whole_not_sign (hr 0 (by omega)), whole_not_sign (hr 1 (by omega))]; rfl
  refine ⟨rfl, rfl, by simpa [newS] using h, by rw [numN, if_neg (by simp [newS]), hn], .inl ⟨rfl, hn, ?_⟩⟩
  unfold freshB
  rw [hr 0 (by omega), hr 1 (by omega)]; rfl
end Go.Proofs.Ytgnllmcgebonpaa
