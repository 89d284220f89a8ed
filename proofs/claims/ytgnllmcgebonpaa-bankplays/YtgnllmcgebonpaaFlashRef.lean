/-
  The document's flash in memory; the contracts of its Tear, Wake, Read and New.
-/
import Derived.Test.YtgnllmcgebonpaaFlashHeld
import Derived.Test.YtgnllmcgebonpaaDraws
namespace Go.Proofs.Ytgnllmcgebonpaa
open Go.ChangeShapes Go.WideShapes Go.ChangeAt Go.RowKit

/-- What the document's flash holds. -/
structure RS where
  b : List UInt8
  skip : Int
  torn : Int
  dead : Bool
  n : Nat

/-- It lies in block r; v: its bytes. -/
structure RA (w : World) (r : Nat) (t : RS) (v : Value) : Prop where
  row : w.heap[r]? = some (.cells #[v, .int .i64 t.skip, .int .i64 t.torn, .bool t.dead, .int .i64 (t.n : Int)] 62 (0, 0))
  own : w.ownsRow 0 5 1 v t.b.length (t.b.map cellOf)
  small : t.b.length ≤ 4096
  s1 : -1 ≤ t.skip
  s2 : t.skip ≤ 9223372036854775807
  t1 : 0 ≤ t.torn
  t2 : t.torn ≤ 9223372036854775807

def RF (w : World) (r : Nat) (t : RS) (G : Nat → Prop) : Prop := ∃ v, RA w r t v ∧ G r ∧ (∀ k, v.ownBlock = some k → G k) ∧ ∀ k, G k → k < w.heap.size

theorem own_keep {w w' : World} {B n : Nat} {v : Value} {xs : List Value} (h : w.ownsRow B 5 1 v n xs) (hk : ∀ k, v.ownBlock = some k → w'.heap[k]? = w.heap[k]?) : w'.ownsRow B 5 1 v n xs := by
  refine ⟨h.1, ?_⟩
  rcases h.2 with h0 | ⟨g, cap, cur, rfl, hlow, hg, h7⟩
  · exact .inl h0
  · exact .inr ⟨g, cap, cur, rfl, hlow, (hk g rfl).trans hg, h7⟩

theorem rf_kept : Kept RF where
  lt := fun ⟨_, _, _, _, h⟩ => h
  keep := fun {w w' b s F} ⟨v, h1, h2, h3, h5⟩ hk => by
    refine ⟨v, ⟨(hk b h2).trans h1.row, own_keep h1.own (fun k hk' => hk k (h3 k hk')), h1.small, h1.s1, h1.s2, h1.t1, h1.t2⟩, h2, h3, fun k hF => ?_⟩
    have h8 : w'.heap[k]? = some (w.heap[k]'(h5 k hF)) := by rw [hk k hF]; simp [h5 k hF]
    exact (Array.getElem?_eq_some_iff.1 h8).1

/-- Its bytes: none, or a row. -/
theorem RA.val {w : World} {r : Nat} {t : RS} {v : Value} (h : RA w r t v) : (v = .slice none 0 0 ∧ t.b = []) ∨ ∃ q cap, v = .slice (some ⟨q, 0, none⟩) t.b.length cap ∧ t.b.length ≤ cap ∧ cap ≤ 9223372036854775807 ∧ q ≠ r := by
  rcases h.own.2 with ⟨rfl, h0⟩ | ⟨g, cap, cur, rfl, hlow, hg, h4, h5, h6, h7⟩
  · exact .inl ⟨rfl, List.eq_nil_of_length_eq_zero h0⟩
  · refine .inr ⟨g, cap, rfl, h4, by unfold maxLen at h5; omega, ?_⟩
    rintro rfl
    have := h.row
    rw [hg] at this; simp at this
theorem RA.sees {w : World} {r : Nat} {t : RS} {v : Value} (h : RA w r t v) : ∃ a cap, v = .slice a t.b.length cap ∧ Sees w a cap t.b := Sees.of_own h.own

theorem RA.c0 {w : World} {r : Nat} {t : RS} {v : Value} (h : RA w r t v) : w.cell? ⟨r, 0, none⟩ = some v := cell_of_row _ _ 0 _ _ _ h.row
theorem RA.c1 {w : World} {r : Nat} {t : RS} {v : Value} (h : RA w r t v) : w.cell? ⟨r, 1, none⟩ = some (.int .i64 t.skip) := cell_of_row _ _ 1 _ _ _ h.row
theorem RA.c2 {w : World} {r : Nat} {t : RS} {v : Value} (h : RA w r t v) : w.cell? ⟨r, 2, none⟩ = some (.int .i64 t.torn) := cell_of_row _ _ 2 _ _ _ h.row
theorem RA.c3 {w : World} {r : Nat} {t : RS} {v : Value} (h : RA w r t v) : w.cell? ⟨r, 3, none⟩ = some (.bool t.dead) := cell_of_row _ _ 3 _ _ _ h.row
theorem RA.c4 {w : World} {r : Nat} {t : RS} {v : Value} (h : RA w r t v) : w.cell? ⟨r, 4, none⟩ = some (.int .i64 (t.n : Int)) := cell_of_row _ _ 4 _ _ _ h.row
theorem RA.lax {w : World} {r : Nat} {t : RS} {v : Value} (h : RA w r t v) (i : Nat) : w.frozen? ⟨r, i, none⟩ = false := frozen_of_row _ _ i _ _ h.row
theorem RA.ne {w : World} {r : Nat} {t : RS} {v : Value} (h : RA w r t v) : v.ownBlock ≠ some r := by
  intro e
  rcases h.own.2 with ⟨rfl, _⟩ | ⟨q, cap, cur, rfl, _, hq, _⟩
  · simp [Value.ownBlock] at e
  · obtain rfl : q = r := by simpa [Value.ownBlock] using e
    have := h.row
    rw [hq] at this; simp at this

/-- One field changed, not the bytes. -/
theorem RA.set {w : World} {r : Nat} {t : RS} {v : Value} (h : RA w r t v) (i : Nat) (x : Value) (t' : RS) (hb : t'.b = t.b) (hs1 : -1 ≤ t'.skip) (hs2 : t'.skip ≤ 9223372036854775807) (ht1 : 0 ≤ t'.torn) (ht2 : t'.torn ≤ 9223372036854775807)
    (hr : (#[v, .int .i64 t.skip, .int .i64 t.torn, .bool t.dead, .int .i64 (t.n : Int)] : Array Value).setIfInBounds i x = #[v, .int .i64 t'.skip, .int .i64 t'.torn, .bool t'.dead, .int .i64 (t'.n : Int)]) : RA (w.setCell ⟨r, i, none⟩ x) r t' v :=
  ⟨by rw [heap_setCell_same _ _ _ _ _ _ h.row, hr], by rw [hb]; exact own_keep h.own (fun k hk => heap_setCell_other _ _ _ _ (by rintro rfl; exact h.ne hk)), by rw [hb]; exact h.small, hs1, hs2, ht1, ht2⟩

theorem RA.left {w w' : World} {r : Nat} {t' : RS} {v : Value} {G : Nat → Prop} (h' : RA w' r t' v) (hG : G r) (hv : ∀ k, v.ownBlock = some k → G k) (hl : ∀ k, G k → k < w.heap.size) (ha : Apart G w w') : Left RF w G r t' w' :=
  ⟨G, ⟨v, h', hG, hv, fun k hk => Nat.lt_of_lt_of_le (hl k hk) ha.size⟩, ha, fun _ hk => .inl hk⟩

def rwakeT (t : RS) : RS := { t with skip := -1, dead := false }
theorem rwake_ok (w : World) (r : Nat) (t : RS) (G : Nat → Prop) (h : RF w r t G) : Calls Try.prog 18 #[.pointer (some ⟨r, 0, none⟩)] w fun e w' => (∃ v, e = .returned v) ∧ Left RF w G r (rwakeT t) w' := by
  obtain ⟨v, h, hG, hv, hl⟩ := h
  have HE : Hid (Left RF w G r (rwakeT t) ((w.setCell ⟨r, 3, none⟩ (.bool false)).setCell ⟨r, 1, none⟩ (.int .i64 (-1)))) := by
    have h1 := h.set 3 (.bool false) { t with dead := false } rfl h.s1 h.s2 h.t1 h.t2 rfl
    have h2 := h1.set 1 (.int .i64 (-1)) (rwakeT t) rfl (by simp [rwakeT]) (by simp [rwakeT]) h.t1 h.t2 rfl
    exact h2.left hG hv hl (apart_set (apart_set (Apart.refl _ _) hG _ _) hG _ _)
  have c1 := h.c1
  have c3 := h.c3
  have f1 := h.lax 1
  have f3 := h.lax 3
  clear h hl hv
  go_enter Try.func18, Try.ntmps18
  go_wp2
  go_end0
  exact ⟨⟨_, rfl⟩, HE.out⟩

def rtearT (t : RS) (k n : Int) : RS := if 0 ≤ k ∧ 0 ≤ n then { t with skip := k, torn := n } else { t with skip := -1 }
theorem rtear_ok (w : World) (r : Nat) (t : RS) (G : Nat → Prop) (h : RF w r t G) (k n : Int) (hk : (Lit.int .i64 k).wf = true) (hn : (Lit.int .i64 n).wf = true) :
    Calls Try.prog 14 #[.pointer (some ⟨r, 0, none⟩), .int .i64 k, .int .i64 n] w fun e w' => (∃ v, e = .returned v) ∧ Left RF w G r (rtearT t k n) w' := by
  obtain ⟨v, h, hG, hv, hl⟩ := h
  have hk := bounds_i64 hk
  have hn := bounds_i64 hn
  have h1 := h.set 1 (.int .i64 (-1)) { t with skip := -1 } rfl (by simp) (by simp) h.t1 h.t2 rfl
  have HN : Hid (Left RF w G r { t with skip := -1 } (w.setCell ⟨r, 1, none⟩ (.int .i64 (-1)))) := h1.left hG hv hl (apart_set (Apart.refl _ _) hG _ _)
  have c1 := h.c1
  have c2 := h.c2
  have f1 := h.lax 1
  have f2 := h.lax 2
  by_cases h0 : 0 ≤ k ∧ 0 ≤ n
  · obtain ⟨k0, n0⟩ := h0
    have e1 : rtearT t k n = { t with skip := k, torn := n } := by unfold rtearT; rw [if_pos ⟨k0, n0⟩]
    rw [e1]
    have HE : Hid (Left RF w G r { t with skip := k, torn := n } (((w.setCell ⟨r, 1, none⟩ (.int .i64 (-1))).setCell ⟨r, 1, none⟩ (.int .i64 k)).setCell ⟨r, 2, none⟩ (.int .i64 n))) := by
      have h2 := h1.set 1 (.int .i64 k) { t with skip := k } rfl (by simp only []; omega) (by simp only []; omega) h.t1 h.t2 rfl
      have h3 := h2.set 2 (.int .i64 n) { t with skip := k, torn := n } rfl (by simp only []; omega) (by simp only []; omega) n0 (by simp only []; omega) rfl
      exact h3.left hG hv hl (apart_set (apart_set (apart_set (Apart.refl _ _) hG _ _) hG _ _) hG _ _)
    have d0 : decide (0 ≤ k) = true := by simp [k0]
    have d1 : decide (0 ≤ n) = true := by simp [n0]
    clear h h1 hl hv e1 HN
    go_enter Try.func14, Try.ntmps14
    go_wp2
    go_end0
    exact ⟨⟨_, rfl⟩, HE.out⟩
  · have e1 : rtearT t k n = { t with skip := -1 } := by unfold rtearT; rw [if_neg h0]
    rw [e1]
    clear h h1 hl hv e1
    by_cases k0 : 0 ≤ k
    · have d0 : decide (0 ≤ k) = true := by simp [k0]
      have d1 : decide (0 ≤ n) = false := by simp; omega
      clear h0
      go_enter Try.func14, Try.ntmps14
      go_wp2
      go_end0
      exact ⟨⟨_, rfl⟩, HN.out⟩
    · have d0 : decide (0 ≤ k) = false := by simp; omega
      clear h0
      go_enter Try.func14, Try.ntmps14
      go_wp2
      go_end0
      exact ⟨⟨_, rfl⟩, HN.out⟩

/-- What is wrong with a place. -/
def chk (dead : Bool) (len : Nat) (a n : Int) : Nat := if dead then 5 else if a < 0 ∨ n < 0 ∨ (len : Int) - a < n then 1 else 0
end Go.Proofs.Ytgnllmcgebonpaa
