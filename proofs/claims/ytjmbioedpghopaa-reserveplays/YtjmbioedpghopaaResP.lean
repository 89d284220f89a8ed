/-
  What a reserve does to the flash beneath it, torn anywhere: no number twice, only upwards. No program here.
-/
import Derived.Test.YtjmbioedpghopaaResH
import Derived.Test.YtjmbioedpghopaaBankSide
namespace Go.Proofs.Ytjmbioedpghopaa
open Go.ChangeShapes Go.WideShapes Go.ChangeAt Go.RowKit

/-- A calm flash with i saves, the last of the incarnation x and the mark y. -/
def Rec (c : PS) (A i x y : Nat) : Prop := ∃ D, Calm c A 12 i D ∧ ((i = 0 ∧ x = 0 ∧ y = 0) ∨ (0 < i ∧ D = recL x y)) ∧ x ≤ 65535 ∧ y ≤ 1048576

theorem rec_new (n A : Nat) (h : A + 40 ≤ n) : Rec (newS n) A 0 0 0 := ⟨[], calm_new n A 12 h, .inl ⟨rfl, rfl, rfl⟩, by omega, by omega⟩
theorem rec_be0 (x y : Nat) (hx : x < 4294967296) : be (((recL x y).drop 0).take 4) = x := by
  have : ((recL x y).drop 0).take 4 = w4 x := rfl
  rw [this]; exact be_w4 x hx
theorem rec_be4 (x y : Nat) (hy : y < 4294967296) : be (((recL x y).drop 4).take 4) = y := by
  have : ((recL x y).drop 4).take 4 = w4 y := rfl
  rw [this]; exact be_w4 y hy
theorem row_of_b {s c : PS} (hb : s.b = c.b) (A N k : Nat) : rowL s A N k = rowL c A N k := by rw [rowL_eq, rowL_eq, hb]
theorem newI_of_b {s c : PS} (hb : s.b = c.b) (A N : Nat) : newI s A N = newI c A N := by unfold newI; rw [row_of_b hb, row_of_b hb]
theorem Rec.told {c : PS} {A i x y : Nat} (h : Rec c A i x y) (s : PS) (hb : s.b = c.b) (hd : s.dead = false) : lE s A = 0 ∧ lI s A = x ∧ lM s A = y := by
  obtain ⟨D, hc, hD, hx, hy⟩ := h
  have hn := newI_of_b hb A 12
  have e1 : loadE s A 12 = loadE c A 12 := by rw [loadE, loadE, if_neg (by simp [hd]), if_neg (by simp [hc.dead]), hn]
  have e2 : loadL s A 12 = loadL c A 12 := by
    rw [loadL, loadL, if_neg (by simp [hd]), if_neg (by simp [hc.dead]), hn]
    cases newI c A 12 <;> simp [row_of_b hb]
  have e3 : freshB s A 12 = freshB c A 12 := by rw [freshB, freshB, hd, hc.dead, row_of_b hb, row_of_b hb]
  unfold lE lI lM
  rw [e1, e2, e3]
  rcases hc.told with ⟨h0, hnn, hf⟩ | ⟨h0, hl, hL⟩
  · have hl : loadE c A 12 = 8 := by rw [loadE, if_neg (by simp [hc.dead]), hnn]
    rcases hD with ⟨_, rfl, rfl⟩ | ⟨h1, _⟩
    · rw [hl, hf]; simp
    · omega
  · rcases hD with ⟨h1, _⟩ | ⟨_, rfl⟩
    · omega
    · rw [hl, hL]
      simp only [if_true]
      exact ⟨by simp, rec_be0 x y (by omega), rec_be4 x y (by omega)⟩
theorem Rec.save {c : PS} {A i x y : Nat} (h : Rec c A i x y) (s : PS) (hb : s.b = c.b) (hd : s.dead = false) (hi : i < 4294967294) (x' y' : Nat) (hx' : x' ≤ 65535) (hy' : y' ≤ 1048576) (E : Nat) (hE : E = saveE s A 12 (recL x' y')) (S : PS) (hS : S = saveS s A 12 (recL x' y')) :
    (E = 0 ∧ S.dead = false ∧ S.due = s.due ∧ Rec (wakeS S) A (i + 1) x' y') ∨ (E ≠ 0 ∧ s.due = true ∧ (Rec (wakeS S) A (i + 1) x' y' ∨ Rec (wakeS S) A i x y)) := by
  obtain ⟨D, hc, hD, hx, hy⟩ := h
  obtain ⟨hE', hS'⟩ := hc.saveE hi (recL_len x' y') hb hd
  obtain ⟨k1, k2, k3⟩ := three_rows s A 12 (slotN c A 12) (slot_le c A 12) (bodyL (i + 1) (recL x' y')) (by rw [body_len, recL_len]) hd (by rw [hb]; exact hc.fits) E (hE.trans hE') S (hS.trans hS')
  have hr : ∀ k, rowL s A 12 k = rowL c A 12 k := row_of_b hb A 12
  have hw : ∀ k, rowL (wakeS S) A 12 k = rowL S A 12 k := fun k => rfl
  have hbl : (wakeS S).b.length = c.b.length := by rw [← hb]; exact k1
  have full : rowL S A 12 (slotN c A 12) = 90 :: bodyL (i + 1) (recL x' y') → Rec (wakeS S) A (i + 1) x' y' := fun r =>
    ⟨_, fin_full hc hi (recL_len x' y') rfl rfl hbl (by rw [hw]; exact r) (by rw [hw, k2, hr]), .inr ⟨by omega, rfl⟩, hx', hy'⟩
  have old : (signB (rowL S A 12 (slotN c A 12)) = false ∨ rowL S A 12 (slotN c A 12) = rowL s A 12 (slotN c A 12)) → Rec (wakeS S) A i x y := fun r =>
    ⟨D, fin_old hc rfl rfl hbl (by rw [hw, ← hr]; exact r) (by rw [hw, k2, hr]), hD, hx, hy⟩
  rcases k3 with ⟨e, d, u, r⟩ | ⟨e, u, r | r | r⟩
  · exact .inl ⟨e, d, u, full r⟩
  · exact .inr ⟨by rw [e]; decide, u, .inl (full r)⟩
  · exact .inr ⟨by rw [e]; decide, u, .inr (old (.inl r))⟩
  · exact .inr ⟨by rw [e]; decide, u, .inr (old (.inr r))⟩

/-- Behind k acts: what was taken lies below the least number that can be taken; what lies in the flash is no less than what was told. -/
structure Once (k : Nat) (s : PS) (v : VS) (taken : List Nat) (last : Nat) : Prop where
  ok : v.ok
  low : ∀ x ∈ taken, x < v.least
  born : last ≤ v.inc
  n : s.n ≤ 3 * k
  len : s.b.length = 64
  held : ∃ c i x y, Rec c 0 i x y ∧ s.b = c.b ∧ i ≤ k ∧ ((v.over = false ∧ s.dead = false ∧ x = v.inc ∧ y = v.mark) ∨ (v.over = true ∧ v.inc ≤ x ∧ v.mark ≤ y))

theorem once_new (blk : Nat) (h1 : 1 ≤ blk) (h2 : blk ≤ 1024) : Once 0 (newS 64) ⟨blk, 0, 0, 0, false⟩ [] 0 :=
  ⟨⟨h1, h2, by simp, by simp, by simp⟩, by simp, by simp, by simp [newS], by simp [newS], newS 64, 0, 0, 0, rec_new 64 0 (by omega), rfl, by omega, .inl ⟨rfl, rfl, rfl, rfl⟩⟩
theorem Once.tear {k : Nat} {s : PS} {v : VS} {taken : List Nat} {last : Nat} (h : Once k s v taken last) (a b : Int) : Once k (tearS s a b) v taken last := by
  obtain ⟨c, i, x, y, hr, hb, hi, hh⟩ := h.held
  obtain ⟨t1, t2⟩ := tear_b s a b
  exact ⟨h.ok, h.low, h.born, by rw [tear_n]; exact h.n, by rw [t1]; exact h.len, c, i, x, y, hr, by rw [t1]; exact hb, hi, by rw [t2]; exact hh⟩
theorem Once.more {k : Nat} {s : PS} {v : VS} {taken : List Nat} {last : Nat} (h : Once k s v taken last) : Once (k + 1) s v taken last := by
  obtain ⟨c, i, x, y, hr, hb, hi, hh⟩ := h.held
  exact ⟨h.ok, h.low, h.born, by have := h.n; omega, h.len, c, i, x, y, hr, hb, by omega, hh⟩
/-- Woken and opened again. -/
theorem Once.again {k : Nat} {s : PS} {v : VS} {taken : List Nat} {last : Nat} (h : Once k s v taken last) (S : PS) (hS : S = wakeS s) (blk : Nat) (h1 : 1 ≤ blk) (h2 : blk ≤ 1024) (V : VS) (hV : V = opV S 0 (blk : Int)) : opE S 0 (blk : Int) = 0 ∧ Once (k + 1) S V taken last := by
  obtain ⟨c, i, x, y, hr, hb, hi, hh⟩ := h.held
  obtain ⟨e1, e2, e3⟩ := hr.told S (by rw [hS]; exact hb) (by rw [hS]; rfl)
  have hx : x ≤ 65535 := by obtain ⟨_, _, _, hx, _⟩ := hr; exact hx
  have hy : y ≤ 1048576 := by obtain ⟨_, _, _, _, hy⟩ := hr; exact hy
  have hO : opE S 0 (blk : Int) = 0 := by
    rw [opE, if_neg (by omega), e1, e2, e3, if_neg (by omega), if_neg (by omega)]
  have hV' : V = ⟨blk, x, y, y, false⟩ := by rw [hV, opV, e2, e3, Int.toNat_natCast]
  have hle : v.inc ≤ x ∧ v.mark ≤ y := by rcases hh with ⟨_, _, h3, h4⟩ | ⟨_, h3, h4⟩ <;> omega
  refine ⟨hO, ?_⟩
  rw [hV']
  have hl := h.ok.l1
  refine ⟨⟨h1, h2, hx, hy, Nat.le_refl _⟩, fun z hz => ?_, ?_, by rw [hS, wake_n]; have := h.n; omega, by rw [hS]; exact h.len, c, i, x, y, hr, by rw [hS]; exact hb, by omega, .inl ⟨rfl, by rw [hS]; rfl, rfl, rfl⟩⟩
  · have := h.low z hz
    show z < y
    omega
  · have := h.born
    show last ≤ x
    omega
theorem newM_ge (v : VS) (n : Nat) (hv : v.ok) (hn : n < 1048576) : n + 1 ≤ newM v n ∧ newM v n ≤ 1048576 := by
  have := hv.b1
  unfold newM
  omega
theorem Once.take {k : Nat} {s : PS} {v : VS} {taken : List Nat} {last : Nat} (h : Once k s v taken last) (hk : k ≤ 1000) (n : Nat) (hn : n < 1048576) (e0 : Nat) (he0 : e0 = saveE s 0 12 (recL v.inc (newM v n))) (s0 : PS) (hs0 : s0 = saveS s 0 12 (recL v.inc (newM v n)))
    (E : Nat) (hE : E = tkE v (n : Int) e0) (S : PS) (hS : S = tkS v (n : Int) s s0) (V : VS) (hV : V = tkV v (n : Int) e0) :
    (E = 0 → Once (k + 1) S V (taken ++ [n]) last ∧ ∀ x ∈ taken, x ≠ n) ∧ (E ≠ 0 → Once (k + 1) S V taken last) := by
  have hbad : ¬ ((n : Int) < 0 ∨ 1048576 ≤ (n : Int)) := by omega
  rw [tkE, if_neg hbad] at hE
  rw [tkS, if_neg hbad] at hS
  rw [tkV, if_neg hbad] at hV
  by_cases hold : (n : Int) < (v.least : Int)
  · rw [if_pos hold] at hE hS hV
    subst hE hS hV
    exact ⟨(fun h0 => by cases h0), fun _ => h.more⟩
  rw [if_neg hold] at hE hS hV
  by_cases ho : v.over = true
  · rw [if_pos ho] at hE hS hV
    subst hE hS hV
    exact ⟨(fun h0 => by cases h0), fun _ => h.more⟩
  rw [if_neg ho] at hE hS hV
  have hnew : ∀ x ∈ taken, x ≠ n := fun x hx => by have := h.low x hx; omega
  obtain ⟨c, i, x, y, hr, hb, hi, hh⟩ := h.held
  obtain ⟨h1, h2, h3, h4⟩ : v.over = false ∧ s.dead = false ∧ x = v.inc ∧ y = v.mark := by
    rcases hh with hh | hh
    · exact hh
    · exact absurd hh.1 ho
  have hok := h.ok
  by_cases hlow : (n : Int) < (v.mark : Int)
  · rw [if_pos hlow] at hE hS hV
    rw [Int.toNat_natCast] at hV
    subst hE hS hV
    refine ⟨fun _ => ⟨⟨⟨hok.b1, hok.b2, hok.i1, hok.m1, by show n + 1 ≤ v.mark; omega⟩, fun z hz => ?_, h.born, by have := h.n; omega, h.len, c, i, x, y, hr, hb, by omega, .inl ⟨h1, h2, h3, h4⟩⟩, hnew⟩, fun h0 => absurd rfl h0⟩
    show z < n + 1
    rcases List.mem_append.1 hz with hz | hz
    · have := h.low z hz; omega
    · simp at hz; omega
  rw [if_neg hlow] at hE hS hV
  rw [Int.toNat_natCast] at hV
  obtain ⟨g1, g2⟩ := newM_ge v n hok hn
  have hsv := hr.save s hb h2 (by omega) v.inc (newM v n) hok.i1 g2 e0 he0 s0 hs0
  have hsn := save_n s 0 12 (recL v.inc (newM v n))
  have hsl := save_len s 0 12 (recL v.inc (newM v n))
  rw [← hs0] at hsn hsl
  have hnn := h.n
  have hll := h.len
  subst hE hS
  rcases hsv with ⟨e, d, _, r⟩ | ⟨e, _, r⟩
  · rw [if_pos e] at hV
    refine ⟨fun _ => ⟨?_, hnew⟩, fun h0 => absurd e h0⟩
    rw [hV]
    refine ⟨⟨hok.b1, hok.b2, hok.i1, g2, g1⟩, fun z hz => ?_, h.born, by omega, by omega, wakeS S, i + 1, v.inc, newM v n, r, rfl, by omega, .inl ⟨h1, d, rfl, rfl⟩⟩
    show z < n + 1
    rcases List.mem_append.1 hz with hz | hz
    · have := h.low z hz; omega
    · simp at hz; omega
  · rw [if_neg e] at hV
    refine ⟨fun h0 => absurd h0 e, fun _ => ?_⟩
    rw [hV]
    rcases r with r | r
    · exact ⟨⟨hok.b1, hok.b2, hok.i1, hok.m1, hok.l1⟩, h.low, h.born, by omega, by omega, wakeS S, i + 1, v.inc, newM v n, r, rfl, by omega, .inr ⟨rfl, Nat.le_refl _, by show v.mark ≤ newM v n; omega⟩⟩
    · exact ⟨⟨hok.b1, hok.b2, hok.i1, hok.m1, hok.l1⟩, h.low, h.born, by omega, by omega, wakeS S, i, x, y, r, rfl, by omega, .inr ⟨rfl, by show v.inc ≤ x; omega, by show v.mark ≤ y; omega⟩⟩
theorem Once.birth {k : Nat} {s : PS} {v : VS} {taken : List Nat} {last : Nat} (h : Once k s v taken last) (hk : k ≤ 1000) (e0 : Nat) (he0 : e0 = saveE s 0 12 (recL (v.inc + 1) v.mark)) (s0 : PS) (hs0 : s0 = saveS s 0 12 (recL (v.inc + 1) v.mark))
    (E : Nat) (hE : E = bnE v e0) (S : PS) (hS : S = bnS v s s0) (V : VS) (hV : V = bnV v e0) :
    (E = 0 → Once (k + 1) S V taken V.inc ∧ last < V.inc) ∧ (E ≠ 0 → Once (k + 1) S V taken last) := by
  rw [bnE] at hE
  rw [bnS] at hS
  rw [bnV] at hV
  by_cases hf : v.inc = 65535
  · rw [if_pos hf] at hE hS hV
    subst hE hS hV
    exact ⟨(fun h0 => by cases h0), fun _ => h.more⟩
  rw [if_neg hf] at hE hS hV
  by_cases ho : v.over = true
  · rw [if_pos ho] at hE hS hV
    subst hE hS hV
    exact ⟨(fun h0 => by cases h0), fun _ => h.more⟩
  rw [if_neg ho] at hE hS hV
  obtain ⟨c, i, x, y, hr, hb, hi, hh⟩ := h.held
  obtain ⟨h1, h2, h3, h4⟩ : v.over = false ∧ s.dead = false ∧ x = v.inc ∧ y = v.mark := by
    rcases hh with hh | hh
    · exact hh
    · exact absurd hh.1 ho
  have hok := h.ok
  have hi1 := hok.i1
  have hsv := hr.save s hb h2 (by omega) (v.inc + 1) v.mark (by omega) hok.m1 e0 he0 s0 hs0
  have hsn := save_n s 0 12 (recL (v.inc + 1) v.mark)
  have hsl := save_len s 0 12 (recL (v.inc + 1) v.mark)
  rw [← hs0] at hsn hsl
  have hnn := h.n
  have hll := h.len
  have hbo := h.born
  subst hE hS
  rcases hsv with ⟨e, d, _, r⟩ | ⟨e, _, r⟩
  · rw [if_pos e] at hV
    refine ⟨fun _ => ?_, fun h0 => absurd e h0⟩
    rw [hV]
    refine ⟨⟨⟨hok.b1, hok.b2, by show v.inc + 1 ≤ 65535; omega, hok.m1, hok.l1⟩, h.low, Nat.le_refl _, by omega, by omega, wakeS S, i + 1, v.inc + 1, v.mark, r, rfl, by omega, .inl ⟨h1, d, rfl, rfl⟩⟩, ?_⟩
    show last < v.inc + 1
    omega
  · rw [if_neg e] at hV
    refine ⟨fun h0 => absurd h0 e, fun _ => ?_⟩
    rw [hV]
    rcases r with r | r
    · exact ⟨⟨hok.b1, hok.b2, hok.i1, hok.m1, hok.l1⟩, h.low, h.born, by omega, by omega, wakeS S, i + 1, v.inc + 1, v.mark, r, rfl, by omega, .inr ⟨rfl, by show v.inc ≤ v.inc + 1; omega, Nat.le_refl _⟩⟩
    · exact ⟨⟨hok.b1, hok.b2, hok.i1, hok.m1, hok.l1⟩, h.low, h.born, by omega, by omega, wakeS S, i, x, y, r, rfl, by omega, .inr ⟨rfl, by show v.inc ≤ x; omega, by show v.mark ≤ y; omega⟩⟩

/-- With no tear. -/
structure Rise (k : Nat) (s : PS) (v : VS) : Prop where
  once : Once k s v [] 0
  over : v.over = false
  due : s.due = false
theorem rise_new (blk : Nat) (h1 : 1 ≤ blk) (h2 : blk ≤ 1024) : Rise 0 (newS 64) ⟨blk, 0, 0, 0, false⟩ := ⟨once_new blk h1 h2, rfl, rfl⟩
theorem Rise.take {k : Nat} {s : PS} {v : VS} (h : Rise k s v) (hk : k ≤ 1000) (n : Nat) (hn : n < 1048576) (e0 : Nat) (he0 : e0 = saveE s 0 12 (recL v.inc (newM v n))) (s0 : PS) (hs0 : s0 = saveS s 0 12 (recL v.inc (newM v n)))
    (E : Nat) (hE : E = tkE v (n : Int) e0) (S : PS) (hS : S = tkS v (n : Int) s s0) (V : VS) (hV : V = tkV v (n : Int) e0) :
    Rise (k + 1) S V ∧ ((n < v.least ∧ E = 10 ∧ V.least = v.least) ∨ (v.least ≤ n ∧ E = 0 ∧ V.least = n + 1)) := by
  have key : V.over = false ∧ S.due = false ∧ ((n < v.least ∧ E = 10 ∧ V.least = v.least) ∨ (v.least ≤ n ∧ E = 0 ∧ V.least = n + 1)) := by
    have hbad : ¬ ((n : Int) < 0 ∨ 1048576 ≤ (n : Int)) := by omega
    have hE' := hE
    have hS' := hS
    have hV' := hV
    rw [tkE, if_neg hbad] at hE'
    rw [tkS, if_neg hbad] at hS'
    rw [tkV, if_neg hbad] at hV'
    by_cases hold : (n : Int) < (v.least : Int)
    · rw [if_pos hold] at hE' hS' hV'
      rw [hE', hS', hV']
      exact ⟨h.over, h.due, .inl ⟨by omega, rfl, rfl⟩⟩
    rw [if_neg hold, if_neg (by simp [h.over])] at hE' hS' hV'
    by_cases hlow : (n : Int) < (v.mark : Int)
    · rw [if_pos hlow] at hE' hS' hV'
      rw [hE', hS', hV']
      exact ⟨h.over, h.due, .inr ⟨by omega, rfl, by simp⟩⟩
    rw [if_neg hlow] at hE' hS' hV'
    obtain ⟨c, i, x, y, hr, hb, hi, hh⟩ := h.once.held
    obtain ⟨h1, h2, h3, h4⟩ : v.over = false ∧ s.dead = false ∧ x = v.inc ∧ y = v.mark := by
      rcases hh with hh | hh
      · exact hh
      · have := hh.1; rw [h.over] at this; cases this
    have hok := h.once.ok
    obtain ⟨g1, g2⟩ := newM_ge v n hok hn
    rcases hr.save s hb h2 (by omega) v.inc (newM v n) hok.i1 g2 e0 he0 s0 hs0 with ⟨e, d, u, r⟩ | ⟨e, u, r⟩
    · rw [if_pos e] at hV'
      rw [hE', hS', hV']
      exact ⟨h.over, by rw [u]; exact h.due, .inr ⟨by omega, e, by simp⟩⟩
    · rw [h.due] at u; cases u
  obtain ⟨k1, k2, k3⟩ := key
  have ho := h.once.take hk n hn e0 he0 s0 hs0 E hE S hS V hV
  refine ⟨⟨?_, k1, k2⟩, k3⟩
  by_cases h0 : E = 0
  · obtain ⟨o, _⟩ := ho.1 h0
    exact ⟨o.ok, by simp, o.born, o.n, o.len, o.held⟩
  · exact ho.2 h0
/-- Opened again. -/
theorem Rise.again {k : Nat} {s : PS} {v : VS} (h : Rise k s v) (blk : Nat) (h1 : 1 ≤ blk) (h2 : blk ≤ 1024) : opE s 0 (blk : Int) = 0 ∧ opV s 0 (blk : Int) = ⟨blk, v.inc, v.mark, v.mark, false⟩ := by
  obtain ⟨c, i, x, y, hr, hb, hi, hh⟩ := h.once.held
  obtain ⟨_, g2, g3, g4⟩ : v.over = false ∧ s.dead = false ∧ x = v.inc ∧ y = v.mark := by
    rcases hh with hh | hh
    · exact hh
    · have := hh.1; rw [h.over] at this; cases this
  obtain ⟨e1, e2, e3⟩ := hr.told s hb g2
  have hi := h.once.ok.i1
  have hm := h.once.ok.m1
  constructor
  · rw [opE, if_neg (by omega), e1, e2, e3, if_neg (by omega), if_neg (by omega)]
  · rw [opV, e2, e3, Int.toNat_natCast, g3, g4]
end Go.Proofs.Ytjmbioedpghopaa
