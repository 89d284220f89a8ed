/-
  The program's bank and the document's, act by act; both in memory with their flashes.

  A Save, torn anywhere: what the two banks hold behind it. No program here.

  A Save, torn anywhere or not at all: the old record or the new one, all of it. No program here.

  A bank of the program's alone, act by act; awake.

  Both banks made; what both tell.
-/
import Derived.Test.YtjmbioedpghopaaBankF
namespace Go.Proofs.Ytjmbioedpghopaa
open Go.ChangeShapes Go.WideShapes Go.ChangeAt Go.RowKit

theorem Sim.row {s : PS} {t : RS} (h : Sim s t) (A N k : Nat) : rowL (psOf t) A N k = rowL s A N k := by unfold rowL; rw [h.b]; rfl
theorem Sim.newest {s : PS} {t : RS} (h : Sim s t) (A N : Nat) : newI (psOf t) A N = newI s A N := by unfold newI; rw [h.row, h.row]
theorem Sim.num {s : PS} {t : RS} (h : Sim s t) (A N : Nat) : numN (psOf t) A N = numN s A N := by
  unfold numN; rw [h.newest, show (psOf t).dead = s.dead from h.dead.symm]; congr 1; cases newI s A N <;> simp [h.row]
theorem Sim.loadl {s : PS} {t : RS} (h : Sim s t) (A N : Nat) : loadL (psOf t) A N = loadL s A N := by
  unfold loadL; rw [h.newest, show (psOf t).dead = s.dead from h.dead.symm]; congr 1; cases newI s A N <;> simp [h.row]
theorem Sim.loade {s : PS} {t : RS} (h : Sim s t) (A N : Nat) : loadE (psOf t) A N = loadE s A N := by
  unfold loadE; rw [h.newest, show (psOf t).dead = s.dead from h.dead.symm]
theorem Sim.fresh {s : PS} {t : RS} (h : Sim s t) (A N : Nat) : freshB (psOf t) A N = freshB s A N := by
  unfold freshB; rw [h.row, h.row, show (psOf t).dead = s.dead from h.dead.symm]
theorem Sim.slot {s : PS} {t : RS} (h : Sim s t) (A N : Nat) : slotN (psOf t) A N = slotN s A N := by unfold slotN; rw [h.newest]
theorem Sim.three {s : PS} {t : RS} (h : Sim s t) (p : Int) (B : List UInt8) : threeE writeE writeS s p B = threeE rwriteE rwriteT t p B ∧ Sim (threeS writeE writeS s p B) (threeS rwriteE rwriteT t p B) := by
  have h1 := sim_write h p [0]
  have h2 := sim_write h1.2 (p + 1) B
  have h3 := sim_write h2.2 p [90]
  unfold threeE threeS
  rw [h1.1, h2.1, h3.1]
  refine ⟨rfl, ?_⟩
  split
  · exact h1.2
  · split
    · exact h2.2
    · exact h3.2
theorem Sim.save {s : PS} {t : RS} (h : Sim s t) (A N : Nat) (l : List UInt8) : rsaveE t A N l = saveE s A N l ∧ Sim (saveS s A N l) (rsaveT t A N l) := by
  unfold rsaveE saveE saveS rsaveT
  rw [h.num, h.slot, ← h.dead]
  have h1 := h.three ((A + slotN s A N * (N + 8) : Nat) : Int) (bodyL (numN s A N + 1) l)
  rw [h1.1]
  refine ⟨rfl, ?_⟩
  split
  · exact h
  · split
    · exact h
    · split
      · exact h
      · exact h1.2

theorem write_len (s : PS) (a : Int) (l : List UInt8) : (writeS s a l).b.length = s.b.length := by
  unfold writeS
  split
  · rfl
  · rename_i h
    have h0 : checkE s a l.length = 0 := by simpa using h
    obtain ⟨_, h1, _, h2⟩ := check_zero h0
    have hc : cutN s l.length ≤ l.length := by unfold cutN; split <;> omega
    exact putAt_len s.b a.toNat _ l (by omega) hc
theorem rwrite_len (t : RS) (a : Int) (l : List UInt8) : (rwriteT t a l).b.length = t.b.length := by
  unfold rwriteT
  split
  · rfl
  · rename_i h
    have h0 : chk t.dead t.b.length a l.length = 0 := by simpa using h
    obtain ⟨_, h1, _, h2⟩ := chk_zero h0
    have hc : rcut t l.length ≤ l.length := by unfold rcut; split <;> omega
    exact putAt_len t.b a.toNat _ l (by omega) hc
theorem save_len (s : PS) (A N : Nat) (l : List UInt8) : (saveS s A N l).b.length = s.b.length := by
  unfold saveS threeS
  repeat' split
  all_goals simp only [write_len]
theorem save_n (s : PS) (A N : Nat) (l : List UInt8) : (saveS s A N l).n ≤ s.n + 3 := by
  have w1 := fun s a l => write_n s a l
  unfold saveS threeS
  repeat' split
  all_goals first
    | omega
    | (have h1 := w1 s ((A + slotN s A N * (N + 8) : Nat) : Int) [0]
       have h2 := w1 (writeS s ((A + slotN s A N * (N + 8) : Nat) : Int) [0]) (((A + slotN s A N * (N + 8) : Nat) : Int) + 1) (bodyL (numN s A N + 1) l)
       have h3 := w1 (writeS (writeS s ((A + slotN s A N * (N + 8) : Nat) : Int) [0]) (((A + slotN s A N * (N + 8) : Nat) : Int) + 1) (bodyL (numN s A N + 1) l)) ((A + slotN s A N * (N + 8) : Nat) : Int) [90]
       omega)
theorem rsave_len (t : RS) (A N : Nat) (l : List UInt8) : (rsaveT t A N l).b.length = t.b.length := by
  unfold rsaveT threeS
  repeat' split
  all_goals simp only [rwrite_len]
theorem tear_len (s : PS) (k n : Int) : (tearS s k n).b.length = s.b.length := by unfold tearS; split <;> rfl
theorem rtear_len (t : RS) (k n : Int) : (rtearT t k n).b.length = t.b.length := by unfold rtearT; split <;> rfl

/-- Both banks with their flashes, in memory that w0 has not, apart from each other. -/
structure Four (w0 w : World) (b g v r A N : Nat) (s : PS) (t : RS) (F G : Nat → Prop) : Prop where
  p : BK w b g A N s F
  q : RK w v r A N t G
  dis : ∀ k, F k → ¬ G k
  f0 : ∀ k, F k → w0.heap.size ≤ k
  g0 : ∀ k, G k → w0.heap.size ≤ k
  fb : ¬ F b
  gb : ¬ G b
  fv : ¬ F v
  gv : ¬ G v
  low : Below w0.heap.size w0 w
def Quad (w0 w : World) (b g v r A N : Nat) (s : PS) (t : RS) : Prop := ∃ F G, Four w0 w b g v r A N s t F G

theorem Quad.low {w0 w : World} {b g v r A N : Nat} {s : PS} {t : RS} (h : Quad w0 w b g v r A N s t) : Below w0.heap.size w0 w := by obtain ⟨F, G, h⟩ := h; exact h.low
theorem Quad.next {w0 w w' : World} {b g v r A N : Nat} {s : PS} {t : RS} (h : Quad w0 w b g v r A N s t) (hb : Below w.heap.size w w') : Quad w0 w' b g v r A N s t := by
  obtain ⟨F, G, h⟩ := h
  exact ⟨F, G, h.p.below hb, h.q.below hb, h.dis, h.f0, h.g0, h.fb, h.gb, h.fv, h.gv, h.low.trans (hb.mono h.low.size)⟩
theorem Quad.drew {w0 w : World} {b g v r A N : Nat} {s : PS} {t : RS} (h : Quad w0 w b g v r A N s t) : Quad w0 w.drew b g v r A N s t := h.next (Below.refl _ _).drew
/-- An act on the program's flash. -/
theorem Four.first {w0 w w' : World} {b g v r A N : Nat} {s s' : PS} {t : RS} {F G : Nat → Prop} (h : Four w0 w b g v r A N s t F G) (hl : Left PF w F g s' w') (hs : s'.b.length = s.b.length) : Quad w0 w' b g v r A N s' t := by
  obtain ⟨F', k1, k2, k3⟩ := id hl
  have hbl := h.p.bk.lt
  have hvl := h.q.bk.lt
  have hsz := h.low.size
  refine ⟨F', G, ⟨k1, hl.ba h.p.bk h.fb, by rw [hs]; exact h.p.fits, h.p.small, by rw [hs]; exact h.p.len⟩, ⟨rf_kept.keep h.q.fl fun k hk => k2.block k (rf_kept.lt h.q.fl k hk) fun hF => h.dis k hF hk, ?_, h.q.fits, h.q.small, h.q.len⟩,
    fun k hk hg => ?_, fun k hk => ?_, h.g0, fun hk => ?_, h.gb, fun hk => ?_, h.gv, hl.below h.low h.f0 hsz⟩
  · show w'.heap[v]? = _
    rw [k2.block v hvl h.fv]; exact h.q.bk
  · rcases k3 k hk with h1 | h1
    · exact h.dis k h1 hg
    · have := rf_kept.lt h.q.fl k hg; omega
  · rcases k3 k hk with h1 | h1
    · exact h.f0 k h1
    · omega
  · rcases k3 b hk with h1 | h1
    · exact h.fb h1
    · omega
  · rcases k3 v hk with h1 | h1
    · exact h.fv h1
    · omega
/-- An act on the document's flash. -/
theorem Four.second {w0 w w' : World} {b g v r A N : Nat} {s : PS} {t t' : RS} {F G : Nat → Prop} (h : Four w0 w b g v r A N s t F G) (hl : Left RF w G r t' w') (hs : t'.b.length = t.b.length) : Quad w0 w' b g v r A N s t' := by
  obtain ⟨G', k1, k2, k3⟩ := id hl
  have hbl := h.p.bk.lt
  have hvl := h.q.bk.lt
  have hsz := h.low.size
  refine ⟨F, G', ⟨pf_kept.keep h.p.fl fun k hk => k2.block k (pf_kept.lt h.p.fl k hk) fun hG => h.dis k hk hG, ?_, h.p.fits, h.p.small, h.p.len⟩, ⟨k1, hl.rba h.q.bk h.gv, by rw [hs]; exact h.q.fits, h.q.small, by rw [hs]; exact h.q.len⟩,
    fun k hk hg => ?_, h.f0, fun k hk => ?_, h.fb, fun hk => ?_, h.fv, fun hk => ?_, hl.below h.low h.g0 hsz⟩
  · show w'.heap[b]? = _
    rw [k2.block b hbl h.gb]; exact h.p.bk
  · rcases k3 k hg with h1 | h1
    · exact h.dis k hk h1
    · have := pf_kept.lt h.p.fl k hk; omega
  · rcases k3 k hk with h1 | h1
    · exact h.g0 k h1
    · omega
  · rcases k3 b hk with h1 | h1
    · exact h.gb h1
    · omega
  · rcases k3 v hk with h1 | h1
    · exact h.gv h1
    · omega

theorem psave_quad {w0 w : World} {b g v r A N : Nat} {s : PS} {t : RS} (h : Quad w0 w b g v r A N s t) (hn : s.n ≤ 999990) (x : Option Addr) (cx : Nat) (l : List UInt8) (hx : Sees w0 x cx l) (E : Nat) (hE : E = saveE s A N l) (S : PS) (hS : S = saveS s A N l) :
    Calls Try.prog 52 #[.pointer (some ⟨b, 0, none⟩), .slice x l.length cx] w fun e w' => e = .returned (.int .i64 (E : Int)) ∧ Quad w0 w' b g v r A N S t := by
  obtain ⟨F, G, h⟩ := h
  refine (save_ok w b g A N s F h.p h.fb hn x cx l (hx.below h.low) (fun bb off he hne hf => ?_) E hE S hS).mono ?_
  · have := h.f0 bb hf; have := sees_lt hx bb off he hne; omega
  · rintro e w' ⟨rfl, hl⟩
    exact ⟨rfl, h.first hl (by rw [hS, save_len])⟩
theorem rsave_quad {w0 w : World} {b g v r A N : Nat} {s : PS} {t : RS} (h : Quad w0 w b g v r A N s t) (hn : t.n ≤ 999990) (x : Option Addr) (cx : Nat) (l : List UInt8) (hx : Sees w0 x cx l) (E : Nat) (hE : E = rsaveE t A N l) (T : RS) (hT : T = rsaveT t A N l) :
    Calls Try.prog 54 #[.pointer (some ⟨v, 0, none⟩), .slice x l.length cx] w fun e w' => e = .returned (.int .i64 (E : Int)) ∧ Quad w0 w' b g v r A N s T := by
  obtain ⟨F, G, h⟩ := h
  refine (rsave_ok w v r A N t G h.q h.gv hn x cx l (hx.below h.low) E hE T hT).mono ?_
  rintro e w' ⟨rfl, hl⟩
  exact ⟨rfl, h.second hl (by rw [hT, rsave_len])⟩
theorem ptear_quad {w0 w : World} {b g v r A N : Nat} {s : PS} {t : RS} (h : Quad w0 w b g v r A N s t) (k n : Int) (hk : (Lit.int .i64 k).wf = true) (hn : (Lit.int .i64 n).wf = true) :
    Calls Try.prog 14 #[.pointer (some ⟨g, 0, none⟩), .int .i64 k, .int .i64 n] w fun e w' => (∃ z, e = .returned z) ∧ Quad w0 w' b g v r A N (tearS s k n) t := by
  obtain ⟨F, G, h⟩ := h
  refine (tear_ok w g s F h.p.fl k n hk hn).mono ?_
  rintro e w' ⟨he, hl⟩
  exact ⟨he, h.first hl (tear_len s k n)⟩
theorem rtear_quad {w0 w : World} {b g v r A N : Nat} {s : PS} {t : RS} (h : Quad w0 w b g v r A N s t) (k n : Int) (hk : (Lit.int .i64 k).wf = true) (hn : (Lit.int .i64 n).wf = true) :
    Calls Try.prog 15 #[.pointer (some ⟨r, 0, none⟩), .int .i64 k, .int .i64 n] w fun e w' => (∃ z, e = .returned z) ∧ Quad w0 w' b g v r A N s (rtearT t k n) := by
  obtain ⟨F, G, h⟩ := h
  refine (rtear_ok w r t G h.q.fl k n hk hn).mono ?_
  rintro e w' ⟨he, hl⟩
  exact ⟨he, h.second hl (rtear_len t k n)⟩
theorem pwake_quad {w0 w : World} {b g v r A N : Nat} {s : PS} {t : RS} (h : Quad w0 w b g v r A N s t) :
    Calls Try.prog 20 #[.pointer (some ⟨g, 0, none⟩)] w fun e w' => (∃ z, e = .returned z) ∧ Quad w0 w' b g v r A N (wakeS s) t := by
  obtain ⟨F, G, h⟩ := h
  refine (wake_ok w g s F h.p.fl).mono ?_
  rintro e w' ⟨he, hl⟩
  exact ⟨he, h.first hl rfl⟩
theorem rwake_quad {w0 w : World} {b g v r A N : Nat} {s : PS} {t : RS} (h : Quad w0 w b g v r A N s t) :
    Calls Try.prog 21 #[.pointer (some ⟨r, 0, none⟩)] w fun e w' => (∃ z, e = .returned z) ∧ Quad w0 w' b g v r A N s (rwakeT t) := by
  obtain ⟨F, G, h⟩ := h
  refine (rwake_ok w r t G h.q.fl).mono ?_
  rintro e w' ⟨he, hl⟩
  exact ⟨he, h.second hl rfl⟩

theorem awake_pure : saveE (newS 40) 0 4 [1, 2, 3, 4] = 0 ∧ numN (saveS (newS 40) 0 4 [1, 2, 3, 4]) 0 4 = 1 := by decide +kernel
end Go.Proofs.Ytjmbioedpghopaa

namespace Go.Proofs.Ytjmbioedpghopaa

theorem putAt_get (b : List UInt8) (a c : Nat) (l : List UInt8) (h : a + c ≤ b.length) (hc : c ≤ l.length) (i : Nat) : (putAt b a c l)[i]? = if i < a then b[i]? else if i < a + c then l[i - a]? else b[i]? := by
  unfold putAt
  by_cases h1 : i < a
  · rw [if_pos h1, List.append_assoc, List.getElem?_append_left (by simp; omega), List.getElem?_take, if_pos h1]
  · rw [if_neg h1]
    by_cases h2 : i < a + c
    · rw [if_pos h2, List.append_assoc, List.getElem?_append_right (by simp; omega), List.getElem?_append_left (by simp; omega), List.getElem?_take]
      rw [show (b.take a).length = a by simp; omega, if_pos (by omega)]
    · rw [if_neg h2, List.getElem?_append_right (by simp; omega), List.getElem?_drop]
      congr 1
      simp
      omega
/-- The row of a bank among bytes. -/
def rowB (b : List UInt8) (A N k : Nat) : List UInt8 := (b.drop (A + k * (N + 8))).take (N + 8)
theorem rowB_get (b : List UInt8) (A N k i : Nat) : (rowB b A N k)[i]? = if i < N + 8 then b[A + k * (N + 8) + i]? else none := by
  unfold rowB
  rw [List.getElem?_take]
  split
  · rw [List.getElem?_drop]
  · rfl
theorem rowB_len (b : List UInt8) (A N k : Nat) (hk : k ≤ 1) (h : A + 2 * (N + 8) ≤ b.length) : (rowB b A N k).length = N + 8 := by
  unfold rowB
  have : k * (N + 8) ≤ 1 * (N + 8) := Nat.mul_le_mul_right _ hk
  simp; omega
theorem row_same (b : List UInt8) (A N j o c : Nat) (l : List UInt8) (hj : j ≤ 1) (h : A + 2 * (N + 8) ≤ b.length) (ho : o + c ≤ N + 8) (hc : c ≤ l.length) :
    rowB (putAt b (A + j * (N + 8) + o) c l) A N j = putAt (rowB b A N j) o c l := by
  have hm : j * (N + 8) ≤ 1 * (N + 8) := Nat.mul_le_mul_right _ hj
  have hl := rowB_len b A N j hj h
  apply List.ext_getElem?
  intro i
  rw [putAt_get _ o c l (by omega) hc, rowB_get, rowB_get, putAt_get _ _ c l (by omega) hc]
  by_cases h1 : i < N + 8
  · rw [if_pos h1]
    by_cases h2 : i < o
    · rw [if_pos h2, if_pos (by omega), if_pos h1]
    · rw [if_neg h2, if_neg (by omega)]
      by_cases h3 : i < o + c
      · rw [if_pos h3, if_pos (by omega)]; congr 1; omega
      · rw [if_neg h3, if_neg (by omega), if_pos h1]
  · rw [if_neg h1, if_neg (by omega), if_neg (by omega), if_neg h1]
theorem row_other (b : List UInt8) (A N i j o c : Nat) (l : List UInt8) (hi : i ≤ 1) (hj : j ≤ 1) (hij : i ≠ j) (h : A + 2 * (N + 8) ≤ b.length) (ho : o + c ≤ N + 8) (hc : c ≤ l.length) :
    rowB (putAt b (A + j * (N + 8) + o) c l) A N i = rowB b A N i := by
  have hm : j * (N + 8) ≤ 1 * (N + 8) := Nat.mul_le_mul_right _ hj
  apply List.ext_getElem?
  intro t
  rw [rowB_get, rowB_get, putAt_get _ _ c l (by omega) hc]
  by_cases h1 : t < N + 8
  · rw [if_pos h1, if_pos h1]
    rcases (by omega : (i = 0 ∧ j = 1) ∨ (i = 1 ∧ j = 0)) with ⟨rfl, rfl⟩ | ⟨rfl, rfl⟩
    · rw [if_pos (by omega)]
    · rw [if_neg (by omega), if_neg (by omega)]
  · rw [if_neg h1, if_neg h1]

/-- What is behind the sign: its length, its number, its record. -/
theorem body_len (z : Nat) (l : List UInt8) : (bodyL z l).length = l.length + 7 := by
  simp [bodyL, fixL, w4s_length, sum3]; omega
theorem full_sign (B : List UInt8) : signB (90 :: B) = true := rfl
theorem full_whole (z : Nat) (l : List UInt8) (hz : z < 4294967295) : wholeB (90 :: bodyL z l) = true ∧ numL (90 :: bodyL z l) = z ∧ ((90 :: bodyL z l).drop 5).take l.length = l := by
  have hn : numL (90 :: bodyL z l) = z := by
    show be ((bodyL z l).take 4) = z
    rw [bodyL, fixL, show w4s [z] = w4 z by simp [w4s], List.append_assoc, List.take_append_of_le_length (by simp [w4_length]), show (w4 z).take 4 = w4 z from rfl]
    exact be_w4 z (by omega)
  refine ⟨?_, hn, ?_⟩
  · unfold wholeB
    rw [hn, full_sign, show (90 :: bodyL z l).drop 1 = bodyL z l from rfl]
    unfold bodyL
    rw [fix_good]
    simp; omega
  · show ((bodyL z l).drop 4).take l.length = l
    rw [bodyL, fixL, show w4s [z] = w4 z by simp [w4s], List.append_assoc, List.drop_append_of_le_length (by simp [w4_length]), show (w4 z).drop 4 = [] from rfl, List.nil_append, List.take_append_of_le_length (by simp), List.take_length]

/-- A flash that is awake, no tear due, with the record D saved i times in all (none, if i is 0). -/
structure Calm (s : PS) (A N i : Nat) (D : List UInt8) : Prop where
  dead : s.dead = false
  due : s.due = false
  fits : A + 2 * (N + 8) ≤ s.b.length
  num : numN s A N = i
  told : (i = 0 ∧ newI s A N = none ∧ freshB s A N = true) ∨ (0 < i ∧ loadE s A N = 0 ∧ loadL s A N = D)

theorem rowL_eq (s : PS) (A N k : Nat) : rowL s A N k = rowB s.b A N k := rfl
theorem whole_not_sign {x : List UInt8} (h : signB x = false) : wholeB x = false := by unfold wholeB; rw [h]; rfl

theorem newR_none {x y : List UInt8} (h : newR x y = none) : wholeB x = false ∧ wholeB y = false := by
  unfold newR at h
  cases hx : wholeB x <;> cases hy : wholeB y <;> simp [hx, hy] at h ⊢
  split at h <;> simp at h

/-- The new record, all of it. -/
theorem fin_full {s W : PS} {A N i : Nat} {D l : List UInt8} (h : Calm s A N i D) (hi : i < 4294967294) (hl : l.length = N) (hd : W.dead = false) (hu : W.due = false) (hb : W.b.length = s.b.length)
    (hj : rowL W A N (slotN s A N) = 90 :: bodyL (i + 1) l) (ho : rowL W A N (1 - slotN s A N) = rowL s A N (1 - slotN s A N)) : Calm W A N (i + 1) l := by
  obtain ⟨f1, f2, f3⟩ := full_whole (i + 1) l (by omega)
  have hnum := h.num
  have key : newI W A N = some (slotN s A N) := by
    unfold slotN at hj ho ⊢
    cases hn : newI s A N with
    | none =>
      rw [hn] at hj ho
      simp only [reduceCtorEq, if_false, Nat.sub_zero] at hj ho ⊢
      have hnn := newR_none hn
      unfold newI newR
      rw [hj, ho, f1]
      rw [hnn.2]; rfl
    | some k =>
      rw [hn] at hj ho
      have hk := newI_le hn
      have hkw := newI_whole hn
      have hkn : numL (rowL s A N k) = i := by rw [numN, if_neg (by simp [h.dead]), hn] at hnum; exact hnum
      rcases (by omega : k = 0 ∨ k = 1) with rfl | rfl
      · simp only [if_true, Nat.sub_self] at hj ho ⊢
        unfold newI newR
        rw [hj, ho, f1, f2, hkw, hkn]
        simp
      · simp only [Option.some.injEq, Nat.one_ne_zero, if_false, Nat.sub_zero] at hj ho ⊢
        unfold newI newR
        rw [hj, ho, f1, f2, hkw, hkn]
        simp
  refine ⟨hd, hu, by rw [hb]; exact h.fits, ?_, .inr ⟨by omega, ?_, ?_⟩⟩
  · rw [numN, if_neg (by simp [hd]), key]; show numL (rowL W A N (slotN s A N)) = _; rw [hj, f2]
  · rw [loadE, if_neg (by simp [hd]), key]
  · rw [loadL, if_neg (by simp [hd]), key]
    show ((rowL W A N (slotN s A N)).drop 5).take N = l
    rw [hj, ← hl]; exact f3

/-- The old record, all of it. -/
theorem fin_old {s W : PS} {A N i : Nat} {D : List UInt8} (h : Calm s A N i D) (hd : W.dead = false) (hu : W.due = false) (hb : W.b.length = s.b.length)
    (hj : signB (rowL W A N (slotN s A N)) = false ∨ rowL W A N (slotN s A N) = rowL s A N (slotN s A N)) (ho : rowL W A N (1 - slotN s A N) = rowL s A N (1 - slotN s A N)) : Calm W A N i D := by
  have key : newI W A N = newI s A N ∧ ∀ k, newI s A N = some k → rowL W A N k = rowL s A N k := by
    unfold slotN at hj ho
    cases hn : newI s A N with
    | none =>
      rw [hn] at hj ho
      simp only [reduceCtorEq, if_false, Nat.sub_zero] at hj ho
      refine ⟨?_, fun k hk => by cases hk⟩
      obtain ⟨h0, h1⟩ := newR_none hn
      unfold newI newR
      have h2 : wholeB (rowL W A N 0) = false := by
        rcases hj with hj | hj
        · exact whole_not_sign hj
        · rw [hj]; exact h0
      rw [ho, h1, h2]; rfl
    | some k =>
      rw [hn] at hj ho
      have hk := newI_le hn
      have hkw := newI_whole hn
      rcases (by omega : k = 0 ∨ k = 1) with rfl | rfl
      · simp only [if_true, Nat.sub_self] at hj ho
        refine ⟨?_, fun k hk => by cases hk; exact ho⟩
        rcases hj with hj | hj
        · unfold newI newR
          rw [ho, hkw, whole_not_sign hj]; rfl
        · unfold newI at hn ⊢
          rw [ho, hj]; exact hn
      · simp only [Option.some.injEq, Nat.one_ne_zero, if_false, Nat.sub_zero] at hj ho
        refine ⟨?_, fun k hk => by cases hk; exact ho⟩
        rcases hj with hj | hj
        · unfold newI newR
          rw [ho, hkw, whole_not_sign hj]; rfl
        · unfold newI at hn ⊢
          rw [ho, hj]; exact hn
  obtain ⟨k1, k2⟩ := key
  have hnum : numN W A N = numN s A N := by
    rw [numN, if_neg (by simp [hd]), numN, if_neg (by simp [h.dead]), k1]
    cases hn : newI s A N with
    | none => rfl
    | some k => show numL (rowL W A N k) = numL (rowL s A N k); rw [k2 k hn]
  refine ⟨hd, hu, by rw [hb]; exact h.fits, hnum.trans h.num, ?_⟩
  rcases h.told with ⟨r1, r2, r3⟩ | ⟨r1, r2, r3⟩
  · refine .inl ⟨r1, k1.trans r2, ?_⟩
    unfold freshB at r3 ⊢
    rw [h.dead] at r3
    rw [hd]
    simp only [Bool.not_false, Bool.true_and, Bool.and_eq_true, Bool.not_eq_true'] at r3 ⊢
    unfold slotN at hj ho
    rw [r2] at hj ho
    simp only [reduceCtorEq, if_false, Nat.sub_zero] at hj ho
    refine ⟨?_, by rw [ho]; exact r3.2⟩
    rcases hj with hj | hj
    · exact hj
    · rw [hj]; exact r3.1
  · refine .inr ⟨r1, ?_, ?_⟩
    · rw [loadE, if_neg (by simp [h.dead])] at r2
      rw [loadE, if_neg (by simp [hd]), k1]; exact r2
    · rw [loadL, if_neg (by simp [h.dead])] at r3
      rw [loadL, if_neg (by simp [hd]), k1]
      cases hn : newI s A N with
      | none => rw [hn] at r3; exact r3
      | some k => rw [hn] at r3; show ((rowL W A N k).drop 5).take N = D; rw [k2 k hn]; exact r3
end Go.Proofs.Ytjmbioedpghopaa

namespace Go.Proofs.Ytjmbioedpghopaa

theorem write_alive (s : PS) (p : Nat) (l : List UInt8) (hd : s.dead = false) (hp : p + l.length ≤ s.b.length) :
    writeE s (p : Int) l = (if tornB s = true then 5 else 0) ∧ writeS s (p : Int) l = { nextS s with b := putAt s.b p (cutN s l.length) l, n := s.n + 1, dead := tornB s } := by
  have hc : checkE s (p : Int) l.length = 0 := by unfold checkE; rw [hd, if_neg (by simp), if_neg (by omega)]
  constructor
  · unfold writeE; rw [if_neg (by simp [hc])]
  · unfold writeS; rw [if_neg (by simp [hc]), hd]; rfl

theorem sign_zero (x : List UInt8) (h : 1 ≤ x.length) : signB (putAt x 0 1 [0]) = false := by
  unfold signB; rw [putAt_get x 0 1 [0] (by omega) (by simp)]; rfl
theorem sign_keep (x B : List UInt8) (c : Nat) (h : 1 + c ≤ x.length) (hc : c ≤ B.length) : signB (putAt x 1 c B) = signB x := by
  unfold signB; rw [putAt_get x 1 c B h hc, if_pos (by omega)]
theorem putAt_none (x l : List UInt8) (a : Nat) : putAt x a 0 l = x := by simp [putAt]
theorem row_full (x B : List UInt8) (m : Nat) (hx : x.length = m + 1) (hB : B.length = m) : putAt (putAt (putAt x 0 1 [0]) 1 m B) 0 1 [90] = 90 :: B := by
  have l1 : (putAt x 0 1 [0]).length = m + 1 := by rw [putAt_len _ _ _ _ (by omega) (by simp)]; exact hx
  have l2 : (putAt (putAt x 0 1 [0]) 1 m B).length = m + 1 := by rw [putAt_len _ _ _ _ (by omega) (by omega)]; exact l1
  apply List.ext_getElem?
  intro i
  rw [putAt_get _ 0 1 [90] (by omega) (by simp), if_neg (by omega)]
  cases i with
  | zero => rfl
  | succ i =>
    rw [if_neg (by omega), putAt_get _ 1 m B (by omega) (by omega), if_neg (by omega)]
    by_cases h1 : i < m
    · rw [if_pos (by omega)]; simp
    · rw [if_neg (by omega), putAt_get _ 0 1 [0] (by omega) (by simp), if_neg (by omega), if_neg (by omega), List.getElem?_eq_none (by omega), List.getElem?_eq_none (by simp; omega)]

/-- What three Writes leave in the two banks. -/
theorem three_rows (s : PS) (A N j : Nat) (hj : j ≤ 1) (B : List UInt8) (hB : B.length = N + 7) (hd : s.dead = false) (hf : A + 2 * (N + 8) ≤ s.b.length) (E : Nat) (hE : E = threeE writeE writeS s ((A + j * (N + 8) : Nat) : Int) B) (S : PS) (hS : S = threeS writeE writeS s ((A + j * (N + 8) : Nat) : Int) B) :
    S.b.length = s.b.length ∧ rowL S A N (1 - j) = rowL s A N (1 - j) ∧
    ((E = 0 ∧ S.dead = false ∧ S.due = s.due ∧ rowL S A N j = 90 :: B) ∨ (E = 5 ∧ s.due = true ∧ (rowL S A N j = 90 :: B ∨ signB (rowL S A N j) = false ∨ rowL S A N j = rowL s A N j))) := by
  have hm : j * (N + 8) ≤ 1 * (N + 8) := Nat.mul_le_mul_right _ hj
  obtain ⟨P, hP⟩ : ∃ P, P = A + j * (N + 8) := ⟨_, rfl⟩
  rw [← hP] at hE hS
  have hxl := rowB_len s.b A N j hj hf
  have hc1 : cutN s 1 ≤ 1 := by unfold cutN; split <;> omega
  obtain ⟨e1, s1⟩ := write_alive s P [0] hd (by simp; omega)
  rw [show ([0] : List UInt8).length = 1 from rfl] at s1
  have b1 : (putAt s.b P (cutN s 1) [0]).length = s.b.length := putAt_len _ _ _ _ (by omega) (by simp; omega)
  have r1 : rowB (putAt s.b P (cutN s 1) [0]) A N j = putAt (rowB s.b A N j) 0 (cutN s 1) [0] := by
    have := row_same s.b A N j 0 (cutN s 1) [0] hj hf (by omega) (by simp; omega)
    rw [Nat.add_zero, ← hP] at this; exact this
  have o1 : rowB (putAt s.b P (cutN s 1) [0]) A N (1 - j) = rowB s.b A N (1 - j) := by
    have := row_other s.b A N (1 - j) j 0 (cutN s 1) [0] (by omega) hj (by omega) hf (by omega) (by simp; omega)
    rw [Nat.add_zero, ← hP] at this; exact this
  cases ht1 : tornB s
  · skip
    rw [ht1] at e1 s1
    have c1 : cutN s 1 = 1 := by unfold cutN; rw [ht1]; rfl
    rw [c1] at s1 b1 r1 o1
    obtain ⟨t1, ht1'⟩ : ∃ t1, t1 = writeS s (P : Int) [0] := ⟨_, rfl⟩
    rw [← ht1'] at s1
    have tb : t1.b = putAt s.b P 1 [0] := by rw [s1]
    have td : t1.dead = false := by rw [s1]
    have tu : t1.due = s.due := by rw [s1]; rfl
    have hc2 : cutN t1 (N + 7) ≤ N + 7 := by unfold cutN; split <;> omega
    obtain ⟨e2, s2⟩ := write_alive t1 (P + 1) B td (by rw [tb, b1, hB]; omega)
    rw [show (((P + 1 : Nat)) : Int) = (P : Int) + 1 by omega, hB] at s2
    rw [show (((P + 1 : Nat)) : Int) = (P : Int) + 1 by omega] at e2
    have b2 : (putAt t1.b (P + 1) (cutN t1 (N + 7)) B).length = s.b.length := by rw [putAt_len _ _ _ _ (by rw [tb, b1]; omega) (by omega), tb, b1]
    have r2 : rowB (putAt t1.b (P + 1) (cutN t1 (N + 7)) B) A N j = putAt (putAt (rowB s.b A N j) 0 1 [0]) 1 (cutN t1 (N + 7)) B := by
      have := row_same t1.b A N j 1 (cutN t1 (N + 7)) B hj (by rw [tb, b1]; exact hf) (by omega) (by omega)
      rw [← hP] at this
      rw [this, tb, r1]
    have o2 : rowB (putAt t1.b (P + 1) (cutN t1 (N + 7)) B) A N (1 - j) = rowB s.b A N (1 - j) := by
      have := row_other t1.b A N (1 - j) j 1 (cutN t1 (N + 7)) B (by omega) hj (by omega) (by rw [tb, b1]; exact hf) (by omega) (by omega)
      rw [← hP] at this
      rw [this, tb, o1]
    have sg2 : ∀ c, c ≤ N + 7 → signB (putAt (putAt (rowB s.b A N j) 0 1 [0]) 1 c B) = false := fun c hc => by
      rw [sign_keep _ _ _ (by rw [putAt_len _ _ _ _ (by omega) (by simp)]; omega) (by omega)]
      exact sign_zero _ (by omega)
    cases ht2 : tornB t1
    · skip
      rw [ht2] at e2 s2
      have c2 : cutN t1 (N + 7) = N + 7 := by unfold cutN; rw [ht2]; rfl
      rw [c2] at s2 b2 r2 o2
      obtain ⟨t2, ht2'⟩ : ∃ t2, t2 = writeS t1 ((P : Int) + 1) B := ⟨_, rfl⟩
      rw [← ht2'] at s2
      have ub : t2.b = putAt t1.b (P + 1) (N + 7) B := by rw [s2]
      have ud : t2.dead = false := by rw [s2]
      have uu : t2.due = s.due := by rw [s2]; exact tu
      have hc3 : cutN t2 1 ≤ 1 := by unfold cutN; split <;> omega
      obtain ⟨e3, s3⟩ := write_alive t2 P [90] ud (by rw [ub, b2]; simp; omega)
      rw [show ([90] : List UInt8).length = 1 from rfl] at s3
      have b3 : (putAt t2.b P (cutN t2 1) [90]).length = s.b.length := by rw [putAt_len _ _ _ _ (by rw [ub, b2]; omega) (by simp; omega), ub, b2]
      have r3 : rowB (putAt t2.b P (cutN t2 1) [90]) A N j = putAt (putAt (putAt (rowB s.b A N j) 0 1 [0]) 1 (N + 7) B) 0 (cutN t2 1) [90] := by
        have := row_same t2.b A N j 0 (cutN t2 1) [90] hj (by rw [ub, b2]; exact hf) (by omega) (by simp; omega)
        rw [Nat.add_zero, ← hP] at this
        rw [this, ub, r2]
      have o3 : rowB (putAt t2.b P (cutN t2 1) [90]) A N (1 - j) = rowB s.b A N (1 - j) := by
        have := row_other t2.b A N (1 - j) j 0 (cutN t2 1) [90] (by omega) hj (by omega) (by rw [ub, b2]; exact hf) (by omega) (by simp; omega)
        rw [Nat.add_zero, ← hP] at this
        rw [this, ub, o2]
      have EE : E = writeE t2 (P : Int) [90] := by rw [hE, threeE, e1, if_neg (by simp), ← ht1', e2, if_neg (by simp), ← ht2']
      have SS : S = writeS t2 (P : Int) [90] := by rw [hS, threeS, e1, if_neg (by simp), ← ht1', e2, if_neg (by simp), ← ht2']
      have Sb : S.b = putAt t2.b P (cutN t2 1) [90] := by rw [SS, s3]
      refine ⟨by rw [Sb, b3], by rw [rowL_eq, Sb, o3, rowL_eq], ?_⟩
      rw [rowL_eq, Sb, r3]
      cases ht3 : tornB t2
      · left
        have c3 : cutN t2 1 = 1 := by unfold cutN; rw [ht3]; rfl
        refine ⟨by rw [EE, e3, ht3]; rfl, by rw [SS, s3]; exact ht3, by rw [SS, s3]; exact uu, ?_⟩
        rw [c3]; exact row_full _ B (N + 7) (by omega) hB
      · right
        refine ⟨by rw [EE, e3, ht3]; rfl, by rw [← uu]; unfold tornB at ht3; simp at ht3; exact ht3.1, ?_⟩
        rcases (by omega : cutN t2 1 = 0 ∨ cutN t2 1 = 1) with c3 | c3
        · right; left; rw [c3, putAt_none]; exact sg2 _ (by omega)
        · left; rw [c3]; exact row_full _ B (N + 7) (by omega) hB
    · have EE : E = 5 := by rw [hE, threeE, e1, if_neg (by simp), ← ht1', e2, ht2]; rfl
      have SS : S = writeS t1 ((P : Int) + 1) B := by rw [hS, threeS, e1, if_neg (by simp), ← ht1', e2, ht2]; rfl
      have Sb : S.b = putAt t1.b (P + 1) (cutN t1 (N + 7)) B := by rw [SS, s2]
      refine ⟨by rw [Sb, b2], by rw [rowL_eq, Sb, o2, rowL_eq], .inr ⟨EE, by rw [← tu]; unfold tornB at ht2; simp at ht2; exact ht2.1, .inr (.inl ?_)⟩⟩
      rw [rowL_eq, Sb, r2]; exact sg2 _ hc2
  · have EE : E = 5 := by rw [hE, threeE, e1, ht1]; rfl
    have SS : S = writeS s (P : Int) [0] := by rw [hS, threeS, e1, ht1]; rfl
    have Sb : S.b = putAt s.b P (cutN s 1) [0] := by rw [SS, s1]
    refine ⟨by rw [Sb, b1], by rw [rowL_eq, Sb, o1, rowL_eq], .inr ⟨EE, by unfold tornB at ht1; simp at ht1; exact ht1.1, ?_⟩⟩
    rw [rowL_eq, Sb, r1]
    rcases (by omega : cutN s 1 = 0 ∨ cutN s 1 = 1) with c1 | c1
    · right; right; rw [c1, putAt_none]; rfl
    · right; left; rw [c1]; exact sign_zero _ (by omega)

/-- What a Save asks of the flash alone. -/
theorem Calm.saveE {s s' : PS} {A N i : Nat} {D l : List UInt8} (h : Calm s A N i D) (hi : i < 4294967294) (hl : l.length = N) (hb : s'.b = s.b) (hd : s'.dead = false) :
    Go.Proofs.Ytjmbioedpghopaa.saveE s' A N l = threeE writeE writeS s' ((A + slotN s A N * (N + 8) : Nat) : Int) (bodyL (i + 1) l) ∧ saveS s' A N l = threeS writeE writeS s' ((A + slotN s A N * (N + 8) : Nat) : Int) (bodyL (i + 1) l) := by
  have hr : ∀ k, rowL s' A N k = rowL s A N k := fun k => by rw [rowL_eq, rowL_eq, hb]
  have hn : newI s' A N = newI s A N := by unfold newI; rw [hr, hr]
  have hz : numN s' A N = i := by
    rw [← h.num, numN, numN, if_neg (by simp [hd]), if_neg (by simp [h.dead]), hn]
    cases newI s A N <;> simp [hr]
  have hs : slotN s' A N = slotN s A N := by unfold slotN; rw [hn]
  constructor
  · unfold Go.Proofs.Ytjmbioedpghopaa.saveE; rw [if_neg (by simp [hl]), if_neg (by simp [hd]), hz, if_neg (by omega), hs]
  · unfold saveS; rw [if_neg (by simp [hl]), if_neg (by simp [hd]), hz, if_neg (by omega), hs]
theorem slot_le (s : PS) (A N : Nat) : slotN s A N ≤ 1 := by unfold slotN; split <;> omega

/-- A Save that nothing tears. -/
theorem calm_save {s : PS} {A N i : Nat} {D l : List UInt8} (h : Calm s A N i D) (hi : i < 4294967294) (hl : l.length = N) : Go.Proofs.Ytjmbioedpghopaa.saveE s A N l = 0 ∧ Calm (saveS s A N l) A N (i + 1) l := by
  obtain ⟨hE, hS⟩ := h.saveE hi hl (s' := s) rfl h.dead
  obtain ⟨k1, k2, k3⟩ := three_rows s A N (slotN s A N) (slot_le s A N) (bodyL (i + 1) l) (by rw [body_len, hl]) h.dead h.fits _ hE _ hS
  rcases k3 with ⟨e, d, u, r⟩ | ⟨_, u, _⟩
  · exact ⟨e, fin_full h hi hl d (by rw [u]; exact h.due) k1 r k2⟩
  · rw [h.due] at u; cases u

/-- A Save that is torn anywhere, and the flash woken. -/
theorem calm_torn {s s' : PS} {A N i : Nat} {D l : List UInt8} (h : Calm s A N i D) (hi : i < 4294967294) (hl : l.length = N) (hb : s'.b = s.b) (hd : s'.dead = false) :
    Calm (wakeS (saveS s' A N l)) A N (i + 1) l ∨ (Go.Proofs.Ytjmbioedpghopaa.saveE s' A N l ≠ 0 ∧ Calm (wakeS (saveS s' A N l)) A N i D) := by
  obtain ⟨hE, hS⟩ := h.saveE hi hl hb hd
  obtain ⟨k1, k2, k3⟩ := three_rows s' A N (slotN s A N) (slot_le s A N) (bodyL (i + 1) l) (by rw [body_len, hl]) hd (by rw [hb]; exact h.fits) _ hE _ hS
  have hr : ∀ k, rowL s' A N k = rowL s A N k := fun k => by rw [rowL_eq, rowL_eq, hb]
  have hw : ∀ k, rowL (wakeS (saveS s' A N l)) A N k = rowL (saveS s' A N l) A N k := fun k => rfl
  have hbl : (wakeS (saveS s' A N l)).b.length = s.b.length := by rw [← hb]; exact k1
  rcases k3 with ⟨_, _, _, r⟩ | ⟨e, _, r | r | r⟩
  · exact .inl (fin_full h hi hl rfl rfl hbl (by rw [hw]; exact r) (by rw [hw, k2, hr]))
  · exact .inl (fin_full h hi hl rfl rfl hbl (by rw [hw]; exact r) (by rw [hw, k2, hr]))
  · exact .inr ⟨by rw [e]; decide, fin_old h rfl rfl hbl (.inl (by rw [hw]; exact r)) (by rw [hw, k2, hr])⟩
  · exact .inr ⟨by rw [e]; decide, fin_old h rfl rfl hbl (.inr (by rw [hw, r, hr])) (by rw [hw, k2, hr])⟩

/-- A new flash holds no record. -/
theorem calm_new (n A N : Nat) (h : A + 2 * (N + 8) ≤ n) : Calm (newS n) A N 0 [] := by
  have hr : ∀ k, k ≤ 1 → signB (rowL (newS n) A N k) = false := fun k hk => by
    have : k * (N + 8) ≤ 1 * (N + 8) := Nat.mul_le_mul_right _ hk
    unfold signB
    rw [rowL_eq, rowB_get, if_pos (by omega), show (newS n).b = List.replicate n 255 from rfl, List.getElem?_replicate, if_pos (by omega)]
    rfl
  have hn : newI (newS n) A N = none := by
    unfold newI newR
    rw [whole_not_sign (hr 0 (by omega)), whole_not_sign (hr 1 (by omega))]; rfl
  refine ⟨rfl, rfl, by simpa [newS] using h, by rw [numN, if_neg (by simp [newS]), hn], .inl ⟨rfl, hn, ?_⟩⟩
  unfold freshB
  rw [hr 0 (by omega), hr 1 (by omega)]; rfl
end Go.Proofs.Ytjmbioedpghopaa

namespace Go.Proofs.Ytjmbioedpghopaa
open Go.ChangeShapes Go.WideShapes Go.ChangeAt Go.RowKit

/-- A bank with its flash, in memory that w0 has not; w0's own is as it was. -/
def Solo (w0 w : World) (b g A N : Nat) (s : PS) : Prop := ∃ F, BK w b g A N s F ∧ (∀ k, F k → w0.heap.size ≤ k) ∧ ¬ F b ∧ Below w0.heap.size w0 w
theorem Solo.low {w0 w : World} {b g A N : Nat} {s : PS} (h : Solo w0 w b g A N s) : Below w0.heap.size w0 w := by obtain ⟨F, h1, h2, h3, h4⟩ := h; exact h4
theorem Solo.next {w0 w w' : World} {b g A N : Nat} {s : PS} (h : Solo w0 w b g A N s) (hb : Below w.heap.size w w') : Solo w0 w' b g A N s := by
  obtain ⟨F, h1, h2, h3, h4⟩ := h
  exact ⟨F, h1.below hb, h2, h3, h4.trans (hb.mono h4.size)⟩
theorem Solo.act {w0 w w' : World} {b g A N : Nat} {s s' : PS} {F : Nat → Prop} (h1 : BK w b g A N s F) (h2 : ∀ k, F k → w0.heap.size ≤ k) (h3 : ¬ F b) (h4 : Below w0.heap.size w0 w) (hl : Left PF w F g s' w') (hs : s'.b.length = s.b.length) : Solo w0 w' b g A N s' := by
  obtain ⟨F', k1, k2, k3⟩ := id hl
  have hbl := h1.bk.lt
  have hsz := h4.size
  refine ⟨F', ⟨k1, hl.ba h1.bk h3, by rw [hs]; exact h1.fits, h1.small, by rw [hs]; exact h1.len⟩, fun k hk => ?_, fun hk => ?_, hl.below h4 h2 hsz⟩
  · rcases k3 k hk with h | h
    · exact h2 k h
    · omega
  · rcases k3 b hk with h | h
    · exact h3 h
    · omega
/-- Save of bytes that are newer than the flash; what is newer stays. -/
theorem save_solo {w0 w w1 : World} {b g A N : Nat} {s : PS} (h : Solo w0 w b g A N s) (hb : Below w.heap.size w w1) (hn : s.n ≤ 999990) (x : Option Addr) (cx : Nat) (l : List UInt8) (hx : Sees w1 x cx l) (hxn : ∀ bb off, x = some ⟨bb, off, none⟩ → l ≠ [] → w.heap.size ≤ bb) (E : Nat) (hE : E = saveE s A N l) (S : PS) (hS : S = saveS s A N l) :
    Calls Try.prog 52 #[.pointer (some ⟨b, 0, none⟩), .slice x l.length cx] w1 fun e w' => e = .returned (.int .i64 (E : Int)) ∧ Solo w0 w' b g A N S ∧ ∀ y cy m, Sees w1 y cy m → (∀ bb off, y = some ⟨bb, off, none⟩ → m ≠ [] → w.heap.size ≤ bb) → Sees w' y cy m := by
  obtain ⟨F, h1, h2, h3, h4⟩ := h
  have hF : ∀ k, F k → k < w.heap.size := pf_kept.lt h1.fl
  refine (save_ok w1 b g A N s F (h1.below hb) h3 hn x cx l hx (fun bb off he hne hf => ?_) E hE S hS).mono ?_
  · have := hxn bb off he hne; have := hF bb hf; omega
  · rintro e w' ⟨rfl, hl⟩
    refine ⟨rfl, Solo.act (h1.below hb) h2 h3 (h4.trans (hb.mono h4.size)) hl (by rw [hS, save_len]), fun y cy m hy hyn => hl.sees hy (fun bb off he hne hf => ?_)⟩
    have := hyn bb off he hne; have := hF bb hf; omega
theorem tear_solo {w0 w w1 : World} {b g A N : Nat} {s : PS} (h : Solo w0 w b g A N s) (hb : Below w.heap.size w w1) (k n : Int) (hk : (Lit.int .i64 k).wf = true) (hn : (Lit.int .i64 n).wf = true) :
    Calls Try.prog 14 #[.pointer (some ⟨g, 0, none⟩), .int .i64 k, .int .i64 n] w1 fun e w' => (∃ z, e = .returned z) ∧ Solo w0 w' b g A N (tearS s k n) ∧ ∀ y cy m, Sees w1 y cy m → (∀ bb off, y = some ⟨bb, off, none⟩ → m ≠ [] → w.heap.size ≤ bb) → Sees w' y cy m := by
  obtain ⟨F, h1, h2, h3, h4⟩ := h
  have hF : ∀ k, F k → k < w.heap.size := pf_kept.lt h1.fl
  refine (tear_ok w1 g s F (h1.below hb).fl k n hk hn).mono ?_
  rintro e w' ⟨he, hl⟩
  refine ⟨he, Solo.act (h1.below hb) h2 h3 (h4.trans (hb.mono h4.size)) hl (tear_len s k n), fun y cy m hy hyn => hl.sees hy (fun bb off he hne hf => ?_)⟩
  have := hyn bb off he hne; have := hF bb hf; omega
theorem wake_solo {w0 w w1 : World} {b g A N : Nat} {s : PS} (h : Solo w0 w b g A N s) (hb : Below w.heap.size w w1) :
    Calls Try.prog 20 #[.pointer (some ⟨g, 0, none⟩)] w1 fun e w' => (∃ z, e = .returned z) ∧ Solo w0 w' b g A N (wakeS s) ∧ ∀ y cy m, Sees w1 y cy m → (∀ bb off, y = some ⟨bb, off, none⟩ → m ≠ [] → w.heap.size ≤ bb) → Sees w' y cy m := by
  obtain ⟨F, h1, h2, h3, h4⟩ := h
  have hF : ∀ k, F k → k < w.heap.size := pf_kept.lt h1.fl
  refine (wake_ok w1 g s F (h1.below hb).fl).mono ?_
  rintro e w' ⟨he, hl⟩
  refine ⟨he, Solo.act (h1.below hb) h2 h3 (h4.trans (hb.mono h4.size)) hl rfl, fun y cy m hy hyn => hl.sees hy (fun bb off he hne hf => ?_)⟩
  have := hyn bb off he hne; have := hF bb hf; omega
theorem load_solo {w0 w : World} {b g A N : Nat} {s : PS} (h : Solo w0 w b g A N s) (R : List UInt8) (E : Nat) (hR : R = loadL s A N) (hE : E = loadE s A N) :
    Calls Try.prog 57 #[.pointer (some ⟨b, 0, none⟩)] w fun e w' => ∃ d cd, e = .returned (.tuple #[.slice d R.length cd, .int .i64 (E : Int)]) ∧ Sees w' d cd R ∧ Below w.heap.size w w' := by
  obtain ⟨F, h1, h2, h3, h4⟩ := h
  exact load_ok w b g A N s F h1 R E hR hE
theorem fresh_solo {w0 w : World} {b g A N : Nat} {s : PS} (h : Solo w0 w b g A N s) (f : Bool) (hf : f = freshB s A N) :
    Calls Try.prog 58 #[.pointer (some ⟨b, 0, none⟩)] w fun e w' => e = .returned (.bool f) ∧ Below w.heap.size w w' := by
  obtain ⟨F, h1, h2, h3, h4⟩ := h
  exact fresh_ok w b g A N s F h1 f hf
/-- New upon a new flash. -/
theorem bnew_solo {w0 w : World} {g : Nat} {s : PS} (h : Held w0 w g s) (A N : Nat) (hm : mayB s.b.length A N) (hs : s.b.length ≤ 4096) :
    Calls Try.prog 31 #[.pointer (some ⟨g, 0, none⟩), .int .i64 (A : Int), .int .i64 (N : Int)] w fun e w' => ∃ b, e = .returned (.tuple #[.pointer (some ⟨b, 0, none⟩), .int .i64 0]) ∧ Solo w0 w' b g A N s := by
  obtain ⟨F, h1, h2, h3⟩ := h
  refine (bnew_ok w g s F h1 A N hm).mono ?_
  rintro e w' ⟨b, rfl, hb, hba, hbe⟩
  obtain ⟨m1, m2, m3, m4⟩ := hm
  refine ⟨b, rfl, F, ⟨pf_kept.below h1 hbe, hba, by omega, by omega, hs⟩, h2, fun hF => ?_, h3.trans (hbe.mono h3.size)⟩
  have := pf_kept.lt h1 b hF; omega

end Go.Proofs.Ytjmbioedpghopaa

namespace Go.Proofs.Ytjmbioedpghopaa
open Go.ChangeShapes Go.WideShapes Go.ChangeAt Go.RowKit

/-- Both flashes, and the program's bank. -/
def Trio (w0 w : World) (b g A N : Nat) (s : PS) (r : Nat) (t : RS) : Prop := ∃ F G, PF w g s F ∧ RF w r t G ∧ (∀ k, F k → ¬ G k) ∧ (∀ k, F k → w0.heap.size ≤ k) ∧ (∀ k, G k → w0.heap.size ≤ k) ∧ ¬ F b ∧ ¬ G b ∧ BA w b g A N ∧ Below w0.heap.size w0 w
theorem bnew_trio {w0 w : World} {g : Nat} {s : PS} {r : Nat} {t : RS} (h : Duo w0 w g s r t) (A N : Nat) (hm : mayB s.b.length A N) :
    Calls Try.prog 31 #[.pointer (some ⟨g, 0, none⟩), .int .i64 (A : Int), .int .i64 (N : Int)] w fun e w' => ∃ b, e = .returned (.tuple #[.pointer (some ⟨b, 0, none⟩), .int .i64 0]) ∧ Trio w0 w' b g A N s r t := by
  obtain ⟨⟨F, G, h1, h2, h3, h4, h5⟩, hb⟩ := h
  refine (bnew_ok w g s F h1 A N hm).mono ?_
  rintro e w' ⟨b, rfl, hbs, hba, hbe⟩
  refine ⟨b, rfl, F, G, pf_kept.below h1 hbe, rf_kept.below h2 hbe, h3, h4, h5, fun hF => ?_, fun hG => ?_, hba, hb.trans (hbe.mono hb.size)⟩
  · have := pf_kept.lt h1 b hF; omega
  · have := rf_kept.lt h2 b hG; omega
theorem rbnew_quad {w0 w : World} {b g A N : Nat} {s : PS} {r : Nat} {t : RS} (h : Trio w0 w b g A N s r t) (hsim : Sim s t) (hm : mayB s.b.length A N) (hs : s.b.length ≤ 4096) :
    Calls Try.prog 11 #[.pointer (some ⟨r, 0, none⟩), .int .i64 (A : Int), .int .i64 (N : Int)] w fun e w' => ∃ v, e = .returned (.tuple #[.pointer (some ⟨v, 0, none⟩), .int .i64 0]) ∧ Quad w0 w' b g v r A N s t := by
  obtain ⟨F, G, h1, h2, h3, h4, h5, h6, h7, h8, hb⟩ := h
  have hbt : t.b.length = s.b.length := by rw [hsim.b]
  refine (rbnew_ok w r t G h2 A N (by rw [hbt]; exact hm)).mono ?_
  rintro e w' ⟨v, rfl, hvs, hba, hbe⟩
  obtain ⟨m1, m2, m3, m4⟩ := hm
  refine ⟨v, rfl, F, G, ⟨pf_kept.below h1 hbe, h8.below hbe, by omega, by omega, hs⟩, ⟨rf_kept.below h2 hbe, hba, by omega, by omega, by omega⟩, h3, h4, h5, h6, h7, fun hF => ?_, fun hG => ?_, hb.trans (hbe.mono hb.size)⟩
  · have := pf_kept.lt h1 v hF; omega
  · have := rf_kept.lt h2 v hG; omega
theorem bnew_no_duo {w0 w : World} {g : Nat} {s : PS} {r : Nat} {t : RS} (h : Duo w0 w g s r t) (a n : Int) (ha : (Lit.int .i64 a).wf = true) (hn : (Lit.int .i64 n).wf = true) (hm : ¬ mayB s.b.length a n) :
    Calls Try.prog 31 #[.pointer (some ⟨g, 0, none⟩), .int .i64 a, .int .i64 n] w fun e w' => e = .returned (.tuple #[.pointer none, .int .i64 1]) ∧ Duo w0 w' g s r t := by
  obtain ⟨⟨F, G, h1, _⟩, _⟩ := id h
  refine (bnew_refused w g s F h1 a n ha hn hm).mono ?_
  rintro e w' ⟨rfl, hb⟩
  exact ⟨rfl, h.next hb⟩
theorem rbnew_no_duo {w0 w : World} {g : Nat} {s : PS} {r : Nat} {t : RS} (h : Duo w0 w g s r t) (hsim : Sim s t) (a n : Int) (ha : (Lit.int .i64 a).wf = true) (hn : (Lit.int .i64 n).wf = true) (hm : ¬ mayB s.b.length a n) :
    Calls Try.prog 11 #[.pointer (some ⟨r, 0, none⟩), .int .i64 a, .int .i64 n] w fun e w' => e = .returned (.tuple #[.pointer none, .int .i64 1]) ∧ w' = w := by
  obtain ⟨⟨F, G, h1, h2, _⟩, _⟩ := h
  exact rbnew_refused w r t G h2 a n ha hn (by rw [← hsim.b]; exact hm)

theorem pload_quad {w0 w : World} {b g v r A N : Nat} {s : PS} {t : RS} (h : Quad w0 w b g v r A N s t) (R : List UInt8) (E : Nat) (hR : R = loadL s A N) (hE : E = loadE s A N) :
    Calls Try.prog 57 #[.pointer (some ⟨b, 0, none⟩)] w fun e w' => ∃ d cd, e = .returned (.tuple #[.slice d R.length cd, .int .i64 (E : Int)]) ∧ Sees w' d cd R ∧ Below w.heap.size w w' := by
  obtain ⟨F, G, h⟩ := h; exact load_ok w b g A N s F h.p R E hR hE
theorem rload_quad {w0 w : World} {b g v r A N : Nat} {s : PS} {t : RS} (h : Quad w0 w b g v r A N s t) (hs : Sim s t) (R : List UInt8) (E : Nat) (hR : R = loadL s A N) (hE : E = loadE s A N) :
    Calls Try.prog 32 #[.pointer (some ⟨v, 0, none⟩)] w fun e w' => ∃ d cd, e = .returned (.tuple #[.slice d R.length cd, .int .i64 (E : Int)]) ∧ Sees w' d cd R ∧ Below w.heap.size w w' := by
  obtain ⟨F, G, h⟩ := h; exact rload_ok w v r A N t G h.q R E (by rw [hs.loadl]; exact hR) (by rw [hs.loade]; exact hE)
theorem rnum_quad {w0 w : World} {b g v r A N : Nat} {s : PS} {t : RS} (h : Quad w0 w b g v r A N s t) (hs : Sim s t) (z : Nat) (hz : z = numN s A N) : Calls Try.prog 68 #[.pointer (some ⟨v, 0, none⟩)] w fun e w' => e = .returned (.int .u32 (z : Int)) ∧ Below w.heap.size w w' := by
  obtain ⟨F, G, h⟩ := h; exact rnum_ok w v r A N t G h.q z (by rw [hs.num]; exact hz)
theorem pfresh_quad {w0 w : World} {b g v r A N : Nat} {s : PS} {t : RS} (h : Quad w0 w b g v r A N s t) (f : Bool) (hf : f = freshB s A N) : Calls Try.prog 58 #[.pointer (some ⟨b, 0, none⟩)] w fun e w' => e = .returned (.bool f) ∧ Below w.heap.size w w' := by
  obtain ⟨F, G, h⟩ := h; exact fresh_ok w b g A N s F h.p f hf
theorem rfresh_quad {w0 w : World} {b g v r A N : Nat} {s : PS} {t : RS} (h : Quad w0 w b g v r A N s t) (hs : Sim s t) (f : Bool) (hf : f = freshB s A N) : Calls Try.prog 33 #[.pointer (some ⟨v, 0, none⟩)] w fun e w' => e = .returned (.bool f) ∧ Below w.heap.size w w' := by
  obtain ⟨F, G, h⟩ := h; exact rfresh_ok w v r A N t G h.q f (by rw [hs.fresh]; exact hf)
theorem psize_quad {w0 w : World} {b g v r A N : Nat} {s : PS} {t : RS} (h : Quad w0 w b g v r A N s t) : Calls Try.prog 42 #[.pointer (some ⟨b, 0, none⟩)] w fun e w' => e = .returned (.int .i64 (N : Int)) ∧ w' = w := by
  obtain ⟨F, G, h⟩ := h; exact size_ok w b g A N h.p.bk
end Go.Proofs.Ytjmbioedpghopaa
