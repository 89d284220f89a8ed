/-
  The document's flash in memory; the contracts of its Tear, Wake, Read and New.

  The contracts of the document's New and Read.

  The contract of the document's Read.
-/
import Derived.Test.YtjmbioedpghopaaFlashB
import Derived.Test.YtjmbioedpghopaaGround
namespace Go.Proofs.Ytjmbioedpghopaa
open Go.ChangeShapes Go.WideShapes Go.ChangeAt Go.RowKit

/-- What the document's flash holds. -/
structure RS where
  b : List UInt8
  skip : Int
  torn : Int
  dead : Bool
  n : Nat

/-- It lies in block r; v: its bytes. -/
structure RA (w : World) (r : Nat) (t : RS) (v : Value) : Prop where
  row : w.heap[r]? = some (.cells #[v, .int .i64 t.skip, .int .i64 t.torn, .bool t.dead, .int .i64 (t.n : Int)] 69 (0, 0))
  own : w.ownsRow 0 5 1 v t.b.length (t.b.map cellOf)
  small : t.b.length ≤ 4096
  s1 : -1 ≤ t.skip
  s2 : t.skip ≤ 9223372036854775807
  t1 : 0 ≤ t.torn
  t2 : t.torn ≤ 9223372036854775807

def RF (w : World) (r : Nat) (t : RS) (G : Nat → Prop) : Prop := ∃ v, RA w r t v ∧ G r ∧ (∀ k, v.ownBlock = some k → G k) ∧ ∀ k, G k → k < w.heap.size

theorem own_keep {w w' : World} {B n : Nat} {v : Value} {xs : List Value} (h : w.ownsRow B 5 1 v n xs) (hk : ∀ k, v.ownBlock = some k → w'.heap[k]? = w.heap[k]?) : w'.ownsRow B 5 1 v n xs := by
  refine ⟨h.1, ?_⟩
  rcases h.2 with h0 | ⟨g, cap, cur, rfl, hlow, hg, h7⟩
  · exact .inl h0
  · exact .inr ⟨g, cap, cur, rfl, hlow, (hk g rfl).trans hg, h7⟩

theorem rf_kept : Kept RF where
  lt := fun ⟨_, _, _, _, h⟩ => h
  keep := fun {w w' b s F} ⟨v, h1, h2, h3, h5⟩ hk => by
    refine ⟨v, ⟨(hk b h2).trans h1.row, own_keep h1.own (fun k hk' => hk k (h3 k hk')), h1.small, h1.s1, h1.s2, h1.t1, h1.t2⟩, h2, h3, fun k hF => ?_⟩
    have h8 : w'.heap[k]? = some (w.heap[k]'(h5 k hF)) := by rw [hk k hF]; simp [h5 k hF]
    exact (Array.getElem?_eq_some_iff.1 h8).1

/-- Its bytes: none, or a row. -/
theorem RA.val {w : World} {r : Nat} {t : RS} {v : Value} (h : RA w r t v) : (v = .slice none 0 0 ∧ t.b = []) ∨ ∃ q cap, v = .slice (some ⟨q, 0, none⟩) t.b.length cap ∧ t.b.length ≤ cap ∧ cap ≤ 9223372036854775807 ∧ q ≠ r := by
  rcases h.own.2 with ⟨rfl, h0⟩ | ⟨g, cap, cur, rfl, hlow, hg, h4, h5, h6, h7⟩
  · exact .inl ⟨rfl, List.eq_nil_of_length_eq_zero h0⟩
  · refine .inr ⟨g, cap, rfl, h4, by unfold maxLen at h5; omega, ?_⟩
    rintro rfl
    have := h.row
    rw [hg] at this; simp at this
theorem RA.sees {w : World} {r : Nat} {t : RS} {v : Value} (h : RA w r t v) : ∃ a cap, v = .slice a t.b.length cap ∧ Sees w a cap t.b := Sees.of_own h.own

theorem RA.c0 {w : World} {r : Nat} {t : RS} {v : Value} (h : RA w r t v) : w.cell? ⟨r, 0, none⟩ = some v := cell_of_row _ _ 0 _ _ _ h.row
theorem RA.c1 {w : World} {r : Nat} {t : RS} {v : Value} (h : RA w r t v) : w.cell? ⟨r, 1, none⟩ = some (.int .i64 t.skip) := cell_of_row _ _ 1 _ _ _ h.row
theorem RA.c2 {w : World} {r : Nat} {t : RS} {v : Value} (h : RA w r t v) : w.cell? ⟨r, 2, none⟩ = some (.int .i64 t.torn) := cell_of_row _ _ 2 _ _ _ h.row
theorem RA.c3 {w : World} {r : Nat} {t : RS} {v : Value} (h : RA w r t v) : w.cell? ⟨r, 3, none⟩ = some (.bool t.dead) := cell_of_row _ _ 3 _ _ _ h.row
theorem RA.c4 {w : World} {r : Nat} {t : RS} {v : Value} (h : RA w r t v) : w.cell? ⟨r, 4, none⟩ = some (.int .i64 (t.n : Int)) := cell_of_row _ _ 4 _ _ _ h.row
theorem RA.lax {w : World} {r : Nat} {t : RS} {v : Value} (h : RA w r t v) (i : Nat) : w.frozen? ⟨r, i, none⟩ = false := frozen_of_row _ _ i _ _ h.row
theorem RA.ne {w : World} {r : Nat} {t : RS} {v : Value} (h : RA w r t v) : v.ownBlock ≠ some r := by
  intro e
  rcases h.own.2 with ⟨rfl, _⟩ | ⟨q, cap, cur, rfl, _, hq, _⟩
  · simp [Value.ownBlock] at e
  · obtain rfl : q = r := by simpa [Value.ownBlock] using e
    have := h.row
    rw [hq] at this; simp at this

/-- One field changed, not the bytes. -/
theorem RA.set {w : World} {r : Nat} {t : RS} {v : Value} (h : RA w r t v) (i : Nat) (x : Value) (t' : RS) (hb : t'.b = t.b) (hs1 : -1 ≤ t'.skip) (hs2 : t'.skip ≤ 9223372036854775807) (ht1 : 0 ≤ t'.torn) (ht2 : t'.torn ≤ 9223372036854775807)
    (hr : (#[v, .int .i64 t.skip, .int .i64 t.torn, .bool t.dead, .int .i64 (t.n : Int)] : Array Value).setIfInBounds i x = #[v, .int .i64 t'.skip, .int .i64 t'.torn, .bool t'.dead, .int .i64 (t'.n : Int)]) : RA (w.setCell ⟨r, i, none⟩ x) r t' v :=
  ⟨by rw [heap_setCell_same _ _ _ _ _ _ h.row, hr], by rw [hb]; exact own_keep h.own (fun k hk => heap_setCell_other _ _ _ _ (by rintro rfl; exact h.ne hk)), by rw [hb]; exact h.small, hs1, hs2, ht1, ht2⟩

theorem RA.left {w w' : World} {r : Nat} {t' : RS} {v : Value} {G : Nat → Prop} (h' : RA w' r t' v) (hG : G r) (hv : ∀ k, v.ownBlock = some k → G k) (hl : ∀ k, G k → k < w.heap.size) (ha : Apart G w w') : Left RF w G r t' w' :=
  ⟨G, ⟨v, h', hG, hv, fun k hk => Nat.lt_of_lt_of_le (hl k hk) ha.size⟩, ha, fun _ hk => .inl hk⟩

def rwakeT (t : RS) : RS := { t with skip := -1, dead := false }
theorem rwake_ok (w : World) (r : Nat) (t : RS) (G : Nat → Prop) (h : RF w r t G) : Calls Try.prog 21 #[.pointer (some ⟨r, 0, none⟩)] w fun e w' => (∃ v, e = .returned v) ∧ Left RF w G r (rwakeT t) w' := by
  obtain ⟨v, h, hG, hv, hl⟩ := h
  have HE : Hid (Left RF w G r (rwakeT t) ((w.setCell ⟨r, 3, none⟩ (.bool false)).setCell ⟨r, 1, none⟩ (.int .i64 (-1)))) := by
    have h1 := h.set 3 (.bool false) { t with dead := false } rfl h.s1 h.s2 h.t1 h.t2 rfl
    have h2 := h1.set 1 (.int .i64 (-1)) (rwakeT t) rfl (by simp [rwakeT]) (by simp [rwakeT]) h.t1 h.t2 rfl
    exact h2.left hG hv hl (apart_set (apart_set (Apart.refl _ _) hG _ _) hG _ _)
  have c1 := h.c1
  have c3 := h.c3
  have f1 := h.lax 1
  have f3 := h.lax 3
  clear h hl hv
  go_enter Try.func21, Try.ntmps21
  go_wp2
  go_end0
  exact ⟨⟨_, rfl⟩, HE.out⟩

def rtearT (t : RS) (k n : Int) : RS := if 0 ≤ k ∧ 0 ≤ n then { t with skip := k, torn := n } else { t with skip := -1 }
theorem rtear_ok (w : World) (r : Nat) (t : RS) (G : Nat → Prop) (h : RF w r t G) (k n : Int) (hk : (Lit.int .i64 k).wf = true) (hn : (Lit.int .i64 n).wf = true) :
    Calls Try.prog 15 #[.pointer (some ⟨r, 0, none⟩), .int .i64 k, .int .i64 n] w fun e w' => (∃ v, e = .returned v) ∧ Left RF w G r (rtearT t k n) w' := by
  obtain ⟨v, h, hG, hv, hl⟩ := h
  have hk := bounds_i64 hk
  have hn := bounds_i64 hn
  have h1 := h.set 1 (.int .i64 (-1)) { t with skip := -1 } rfl (by simp) (by simp) h.t1 h.t2 rfl
  have HN : Hid (Left RF w G r { t with skip := -1 } (w.setCell ⟨r, 1, none⟩ (.int .i64 (-1)))) := h1.left hG hv hl (apart_set (Apart.refl _ _) hG _ _)
  have c1 := h.c1
  have c2 := h.c2
  have f1 := h.lax 1
  have f2 := h.lax 2
  by_cases h0 : 0 ≤ k ∧ 0 ≤ n
  · obtain ⟨k0, n0⟩ := h0
    have e1 : rtearT t k n = { t with skip := k, torn := n } := by unfold rtearT; rw [if_pos ⟨k0, n0⟩]
    rw [e1]
    have HE : Hid (Left RF w G r { t with skip := k, torn := n } (((w.setCell ⟨r, 1, none⟩ (.int .i64 (-1))).setCell ⟨r, 1, none⟩ (.int .i64 k)).setCell ⟨r, 2, none⟩ (.int .i64 n))) := by
      have h2 := h1.set 1 (.int .i64 k) { t with skip := k } rfl (by simp only []; omega) (by simp only []; omega) h.t1 h.t2 rfl
      have h3 := h2.set 2 (.int .i64 n) { t with skip := k, torn := n } rfl (by simp only []; omega) (by simp only []; omega) n0 (by simp only []; omega) rfl
      exact h3.left hG hv hl (apart_set (apart_set (apart_set (Apart.refl _ _) hG _ _) hG _ _) hG _ _)
    have d0 : decide (0 ≤ k) = true := by simp [k0]
    have d1 : decide (0 ≤ n) = true := by simp [n0]
    clear h h1 hl hv e1 HN
    go_enter Try.func15, Try.ntmps15
    go_wp2
    go_end0
    exact ⟨⟨_, rfl⟩, HE.out⟩
  · have e1 : rtearT t k n = { t with skip := -1 } := by unfold rtearT; rw [if_neg h0]
    rw [e1]
    clear h h1 hl hv e1
    by_cases k0 : 0 ≤ k
    · have d0 : decide (0 ≤ k) = true := by simp [k0]
      have d1 : decide (0 ≤ n) = false := by simp; omega
      clear h0
      go_enter Try.func15, Try.ntmps15
      go_wp2
      go_end0
      exact ⟨⟨_, rfl⟩, HN.out⟩
    · have d0 : decide (0 ≤ k) = false := by simp; omega
      clear h0
      go_enter Try.func15, Try.ntmps15
      go_wp2
      go_end0
      exact ⟨⟨_, rfl⟩, HN.out⟩

/-- What is wrong with a place. -/
def chk (dead : Bool) (len : Nat) (a n : Int) : Nat := if dead then 5 else if a < 0 ∨ n < 0 ∨ (len : Int) - a < n then 1 else 0
end Go.Proofs.Ytjmbioedpghopaa

namespace Go.Proofs.Ytjmbioedpghopaa
open Go.ChangeShapes Go.WideShapes Go.ChangeAt Go.RowKit

/-- One byte more: what the append and the store leave. -/
theorem rmore (w w0 : World) (r : Nat) (t : RS) (v : Value) (G : Nat → Prop) (h : RA w r t v) (hG : G r) (hv : ∀ k, v.ownBlock = some k → G k) (hl : ∀ k, G k → k < w.heap.size) (hs : t.b.length + 1 ≤ 4096) (x : UInt8)
    (hw0 : w0 = w.alloc (.cells #[.int .u8 (x.toNat : Int)] 5)) :
    ∃ d cd v' w1, v' = .slice d (t.b.length + 1) cd ∧ (Builtin.append_ #[22, 22] 22 #[v, .slice (some ⟨w.heap.size, 0, none⟩) 1 1]).run Try.prog w0 = .ok v' w1 ∧ w1.cell? ⟨r, 0, none⟩ = some v ∧ w1.frozen? ⟨r, 0, none⟩ = false ∧
      Left RF w G r { t with b := t.b ++ [x] } (w1.setCell ⟨r, 0, none⟩ v') := by
  obtain ⟨i5, hi, hz0, hz1, hz2⟩ := info_parts Try.info5
  have hb0 : Below w.heap.size w w0 := by rw [hw0]; exact (Below.refl _ _).alloc (Nat.le_refl _) _
  have hg : r < w.heap.size := hl r hG
  have ho0 : w0.ownsRow 0 5 1 v t.b.length (t.b.map cellOf) := own_keep h.own (fun k hk => hb0.block k (hl k (hv k hk)))
  have hcell : ∀ j u, ([.int .u8 (x.toNat : Int)] : List Value)[j]? = some u → w0.cell? ((⟨w.heap.size, 0, none⟩ : Addr).add j) = some u := by
    rw [hw0]; exact World.news_of_block (w := w.alloc (.cells #[.int .u8 (x.toNat : Int)] 5)) (cs := #[.int .u8 (x.toNat : Int)]) (t := 5) (fr := (0, 0)) (heap_alloc_new w _)
  have hs0 : w0.heap.size = w.heap.size + 1 := by rw [hw0]; simp
  obtain ⟨v', w1, hrun, ho1, hgr, _, hown⟩ := run_append_own_at (P := Try.prog) w0 0 22 22 5 i5 (.int .u8 0) 1 1 Try.underlying22 hi hz0 hz1 hz2 rfl (by omega) v t.b.length (t.b.map cellOf) ho0 ⟨w.heap.size, 0, none⟩ 1 1 [.int .u8 (x.toNat : Int)] rfl hcell (by simp [Value.oneCell']) (by unfold maxLen; omega) (by omega) (by omega)
  have hg1 : w1.heap[r]? = some (.cells #[v, .int .i64 t.skip, .int .i64 t.torn, .bool t.dead, .int .i64 (t.n : Int)] 69 (0, 0)) := by rw [hgr.block r (by omega) (fun e => h.ne e.symm), hb0.block r hg]; exact h.row
  have hap : Apart G w w1 := (Apart.of_below hb0).grown hgr (fun k hk => .inl (hv k hk))
  have ho1' : w1.ownsRow 0 5 1 v' (t.b ++ [x]).length ((t.b ++ [x]).map cellOf) := by simpa [cellOf] using ho1
  have hqn : v'.ownBlock ≠ some r := by
    intro e
    rcases ho1'.2 with ⟨rfl, _⟩ | ⟨q, cap, cur, rfl, _, hq, _⟩
    · simp [Value.ownBlock] at e
    · obtain rfl : q = r := by simpa [Value.ownBlock] using e
      rw [hg1] at hq; simp at hq
  obtain ⟨d, cd, hvd, _⟩ := Sees.of_own ho1'
  refine ⟨d, cd, v', w1, by rw [hvd]; simp, hrun, cell_of_row _ _ 0 _ _ _ hg1, frozen_of_row _ _ 0 _ _ hg1, fun k => k = r ∨ (v'.ownBlock = some k ∧ k < w1.heap.size), ⟨v', ⟨?_, ?_, ?_, h.s1, h.s2, h.t1, h.t2⟩, .inl rfl, ?_, ?_⟩, hap.setCell (.inl hG) 0 _, ?_⟩
  · rw [heap_setCell_same _ _ _ _ _ _ hg1]; rfl
  · exact own_keep ho1' (fun k hk => heap_setCell_other _ _ _ _ (by rintro rfl; exact hqn hk))
  · simpa using hs
  · intro k hk
    refine .inr ⟨hk, ?_⟩
    rcases ho1'.2 with ⟨rfl, _⟩ | ⟨q, cap, cur, rfl, _, hq, _⟩
    · simp [Value.ownBlock] at hk
    · obtain rfl : q = k := by simpa [Value.ownBlock] using hk
      exact (Array.getElem?_eq_some_iff.1 hq).1
  · rintro k (rfl | ⟨_, hk⟩)
    · simpa using (show k < w1.heap.size from (Array.getElem?_eq_some_iff.1 hg1).1)
    · simpa using hk
  · rintro k (rfl | ⟨hk, _⟩)
    · exact .inl hG
    · rcases hown with h | h
      · exact .inl (hv k (by rw [← h]; exact hk))
      · have h9 : k = w0.heap.size := by rw [hk] at h; simpa using h
        exact .inr (by omega)

def rnewT (n : Nat) : RS := ⟨List.replicate n 255, -1, 0, false, 0⟩

theorem rnew_refused (w : World) (n : Int) (hn : n < 0 ∨ 4096 < n) : Calls Try.prog 8 #[.int .i64 n] w fun e w' => e = .returned (.tuple #[.pointer none, .int .i64 1]) ∧ w' = w := by
  by_cases h0 : n < 0
  · have d0 : decide (n < 0) = true := by simp [h0]
    clear hn
    go_enter Try.func8, Try.ntmps8
    go_wp2
    go_ret2
    exact ⟨rfl, rfl⟩
  · have d0 : decide (n < 0) = false := by simp; omega
    have d1 : decide (4096 < n) = true := by simp; omega
    clear hn
    go_enter Try.func8, Try.ntmps8
    go_wp2
    go_ret2
    exact ⟨rfl, rfl⟩

set_option maxHeartbeats 1600000 in
set_option maxRecDepth 20000 in
theorem rnew_ok (w : World) (n : Nat) (hn : n ≤ 4096) :
    Calls Try.prog 8 #[.int .i64 (n : Int)] w fun e w' => ∃ r G, e = .returned (.tuple #[.pointer (some ⟨r, 0, none⟩), .int .i64 0]) ∧ RF w' r (rnewT n) G ∧ (∀ k, G k → w.heap.size ≤ k) ∧ Below w.heap.size w w' := by
  have HE0 : Hid (∃ G, RF (w.alloc (.cells #[.slice none 0 0, .int .i64 (-1), .int .i64 0, .bool false, .int .i64 0] 69)) w.heap.size (rnewT 0) G ∧ (∀ k, G k → w.heap.size ≤ k) ∧ Below w.heap.size w (w.alloc (.cells #[.slice none 0 0, .int .i64 (-1), .int .i64 0, .bool false, .int .i64 0] 69))) := by
    refine ⟨fun k => k = w.heap.size, ⟨.slice none 0 0, ⟨?_, World.ownsRow_nil _ _ _ _, by simp [rnewT], by simp [rnewT], by simp [rnewT], by simp [rnewT], by simp [rnewT]⟩, rfl, by simp [Value.ownBlock], by rintro k rfl; simp⟩, by rintro k rfl; exact Nat.le_refl _, (Below.refl _ _).alloc (Nat.le_refl _) _⟩
    rw [heap_alloc_new]; rfl
  have d0 : decide ((n : Int) < 0) = false := by simp
  have d1 : decide ((4096 : Int) < (n : Int)) = false := by simp; omega
  go_enter Try.func8, Try.ntmps8
  go_wp2
  go_loopw [5] (fun i wr => ∃ k : Nat, k ≤ n ∧ i = .int .i64 (k : Int) ∧ ∃ G, RF wr w.heap.size (rnewT k) G ∧ (∀ k, G k → w.heap.size ≤ k) ∧ Below w.heap.size w wr) (fun i _ => n - (intOf i).toNat)
  case atStart => exact ⟨0, by omega, rfl, HE0.out⟩
  case round =>
    obtain ⟨k, hk, rfl, G, ⟨v, h, hG, hv, hl⟩, hge, bel⟩ := hrel
    clear HE0
    by_cases hlt : k < n
    · obtain ⟨d', c', v', w1, hvd, hrun, x1, x2, hleft⟩ := rmore wr _ w.heap.size _ v G h hG hv hl (by simp [rnewT]; omega) 255 rfl
      have eL : (rnewT k).b.length = k := by simp [rnewT]
      rw [eL] at hvd
      subst hvd
      have HR : Hid ((Builtin.append_ #[22, 22] 22 #[v, .slice (some ⟨wr.heap.size, 0, none⟩) 1 1]).run Try.prog (wr.alloc (.cells #[.int .u8 255] 5)) = .ok (.slice d' (k + 1) c') w1) := hrun
      have hb := hleft.below bel hge bel.size
      have eT : ({ rnewT k with b := (rnewT k).b ++ [255] } : RS) = rnewT (k + 1) := by simp [rnewT, ← List.replicate_succ']
      rw [eT] at hleft
      obtain ⟨G', y1, y2, y3⟩ := hleft
      have HE : Hid (∃ G, RF (w1.setCell ⟨w.heap.size, 0, none⟩ (.slice d' (k + 1) c')) w.heap.size (rnewT (k + 1)) G ∧ (∀ k, G k → w.heap.size ≤ k) ∧ Below w.heap.size w (w1.setCell ⟨w.heap.size, 0, none⟩ (.slice d' (k + 1) c'))) :=
        ⟨G', y1, fun j hj => by
          rcases y3 j hj with h | h
          · exact hge j h
          · exact Nat.le_trans bel.size h, hb⟩
      have c0 : wr.cell? ⟨w.heap.size, 0, none⟩ = some v := h.c0
      clear hrun h hG hv hl hge bel hb eT eL y1 y2 y3
      go_wp2_with (at_builtin; refine wpList_append_run rfl _ _ 22 rfl _ _ _ rfl rfl HR.out ?_)
      go_roundw
      case rel => exact ⟨k + 1, by omega, by go_num, HE.out⟩
      case measure => simp [intOf]; omega
    · obtain rfl : k = n := by omega
      have HE : Hid (∃ G, RF wr w.heap.size (rnewT k) G ∧ (∀ k, G k → w.heap.size ≤ k) ∧ Below w.heap.size w wr) := ⟨G, ⟨v, h, hG, hv, hl⟩, hge, bel⟩
      clear h hG hv hl hge bel
      go_wp2
      go_ret2
      obtain ⟨G, y1, y2, y3⟩ := HE.out
      exact ⟨_, G, rfl, y1, y2, y3⟩

/-- append([]byte{}, ..): memory of its own. -/
theorem append_fresh (w : World) (x : Option Addr) (cx : Nat) (cs : List UInt8) (hx : Sees w x cx cs) (hb : cs.length ≤ 140737488355328) :
    ∃ v' w', (Builtin.append_ #[22, 22] 22 #[.slice (some ⟨w.heap.size, 0, none⟩) 0 0, .slice x cs.length cx]).run Try.prog (w.alloc (.cells #[] 5)) = .ok v' w' ∧ w'.ownsRow w.heap.size 5 1 v' cs.length (cs.map cellOf) ∧ Below w.heap.size w w' := by
  have hb0 : Below w.heap.size w (w.alloc (.cells #[] 5)) := (Below.refl _ _).alloc (Nat.le_refl _) _
  obtain ⟨v', w', hrun, ho, hbl⟩ := append_own_any (w.alloc (.cells #[] 5)) w.heap.size _ [] (own_empty w) x cx cs (hx.below hb0) (by simpa using hb) (by simp)
  exact ⟨v', w', hrun, by simpa using ho, hbl _ _ hb0 (Nat.le_refl _)⟩
end Go.Proofs.Ytjmbioedpghopaa

namespace Go.Proofs.Ytjmbioedpghopaa
open Go.ChangeShapes Go.WideShapes Go.ChangeAt Go.RowKit

/-- 'b[k:]' of a row, as the program makes it. -/
theorem Sees.cut {w : World} {b cap : Nat} {bs : List UInt8} (h : Sees w (some ⟨b, 0, none⟩) cap bs) (k : Nat) (hk : k ≤ bs.length) :
    Sees w (if cap = k then some ⟨b, 0, none⟩ else some ⟨b, k, none⟩) (cap - k) (bs.drop k) := by
  by_cases hc : cap = k
  · have := h.fits
    have hn : bs.drop k = [] := List.drop_eq_nil_of_le (by omega)
    rw [if_pos hc, hn]
    exact ⟨by simp, by have := h.room; omega, by simp, fun hne => absurd rfl hne⟩
  · rw [if_neg hc]
    have := h.tail k hk
    rw [Nat.zero_add] at this
    exact this

def rreadL (t : RS) (a n : Int) : List UInt8 := if chk t.dead t.b.length a n ≠ 0 then [] else (t.b.drop a.toNat).take n.toNat

theorem chk_zero {d : Bool} {len : Nat} {a n : Int} (h : chk d len a n = 0) : d = false ∧ 0 ≤ a ∧ 0 ≤ n ∧ a + n ≤ len := by
  unfold chk at h
  split at h
  · omega
  · rename_i hd
    split at h
    · omega
    · exact ⟨by simpa using hd, by omega, by omega, by omega⟩

set_option maxHeartbeats 1600000 in
set_option maxRecDepth 20000 in
theorem rread_ok (w : World) (r : Nat) (t : RS) (G : Nat → Prop) (h : RF w r t G) (a n : Int) (R : List UInt8) (E : Nat) (hR : R = rreadL t a n) (hE : E = chk t.dead t.b.length a n) :
    Calls Try.prog 47 #[.pointer (some ⟨r, 0, none⟩), .int .i64 a, .int .i64 n] w fun e w' => ∃ d cd, e = .returned (.tuple #[.slice d R.length cd, .int .i64 (E : Int)]) ∧ Sees w' d cd R ∧ Below w.heap.size w w' := by
  obtain ⟨v, h, _, _, _⟩ := h
  have c0 := h.c0
  have c3 := h.c3
  have c0a : (w.alloc (.cells #[] 5)).cell? ⟨r, 0, none⟩ = some v := by
    have hb : Below w.heap.size w (w.alloc (.cells #[] 5)) := (Below.refl _ _).alloc (Nat.le_refl _) _
    rw [hb.cell (p := ⟨r, 0, none⟩) (World.block_lt_of_cell? w _ c0)]; exact c0
  by_cases hc : E = 0
  · subst hc
    obtain ⟨hd, ha0, hn0, hal⟩ := chk_zero hE.symm
    obtain ⟨A, rfl⟩ : ∃ A : Nat, a = (A : Int) := ⟨a.toNat, by omega⟩
    obtain ⟨N, rfl⟩ : ∃ N : Nat, n = (N : Int) := ⟨n.toNat, by omega⟩
    have hAN : A + N ≤ t.b.length := by omega
    have hR2 : R = (t.b.drop A).take N := by rw [hR]; unfold rreadL; rw [if_neg (by rw [← hE]; simp)]; rfl
    have hRl : R.length = N := by rw [hR2]; simp; omega
    have hsm := h.small
    rw [hd] at c3
    have d0 : decide ((A : Int) < 0) = false := by simp
    have d1 : decide ((N : Int) < 0) = false := by simp
    have d2 : decide (t.b.length < A) = false := by simp; omega
    have d2' : ¬ (t.b.length < A) := by omega
    have d3 : decide ((t.b.length : Int) - (A : Int) < (N : Int)) = false := by simp; omega
    rcases h.val with ⟨rfl, hb⟩ | ⟨q, cap, rfl, hfc, hcm, _⟩
    · obtain rfl : A = 0 := by rw [hb] at hAN; simp at hAN; omega
      obtain rfl : N = 0 := by rw [hb] at hAN; simp at hAN; omega
      obtain rfl : R = [] := List.eq_nil_of_length_eq_zero hRl
      obtain ⟨v', w', hrun, ho, hbl⟩ := append_fresh w none 0 [] (Sees.nil' w) (by simp)
      obtain ⟨d, cd, rfl, hs⟩ := Sees.of_own ho
      have HR : Hid ((Builtin.append_ #[22, 22] 22 #[.slice (some ⟨w.heap.size, 0, none⟩) 0 0, .slice none 0 0]).run Try.prog (w.alloc (.cells #[] 5)) = .ok (.slice d 0 cd) w') := hrun
      have HE : Hid (Sees w' d cd [] ∧ Below w.heap.size w w') := ⟨hs, hbl⟩
      have hbl0 : t.b.length = 0 := by rw [hb]; rfl
      clear h hR hE hR2 hRl hrun ho hbl hs hAN hal hb d2 d2' d3
      go_enter Try.func47, Try.ntmps47
      go_wp2_with (at_builtin; refine wpList_append_run rfl _ _ 22 rfl _ _ _ rfl rfl HR.out ?_)
      go_ret2
      exact ⟨d, cd, rfl, HE.out⟩
    · have hsv : Sees w (some ⟨q, 0, none⟩) cap t.b := by
        obtain ⟨a', c', he, hs⟩ := h.sees
        simp only [Value.slice.injEq, true_and] at he
        rw [he.1, he.2]; exact hs
      have hct := (hsv.cut A (by omega)).take N
      rw [← hR2] at hct
      obtain ⟨v', w', hrun, ho, hbl⟩ := append_fresh w _ _ R hct (by omega)
      obtain ⟨d, cd, rfl, hs⟩ := Sees.of_own ho
      have HE : Hid (Sees w' d cd R ∧ Below w.heap.size w w') := ⟨hs, hbl⟩
      rw [hRl] at hrun
      have e1 : A ≤ A + N := by omega
      have e2 : A + N ≤ cap := by omega
      have e3 : A + N - A = N := by omega
      have HE3 : Hid (A + N - A = N) := e3
      by_cases hcA : cap = A
      · rw [if_pos hcA] at hrun
        obtain rfl : N = 0 := by omega
        have hcA0 : cap - A = 0 := by omega
        rw [hcA0] at hrun
        have HR : Hid ((Builtin.append_ #[22, 22] 22 #[.slice (some ⟨w.heap.size, 0, none⟩) 0 0, .slice (some ⟨q, 0, none⟩) 0 0]).run Try.prog (w.alloc (.cells #[] 5)) = .ok (.slice d 0 cd) w') := hrun
        clear h hR hE hR2 hrun ho hbl hs hAN hal hsv hct
        go_enter Try.func47, Try.ntmps47
        go_wp2_with (at_builtin; refine wpList_append_run rfl _ _ 22 rfl _ _ _ rfl rfl HR.out ?_)
        go_ret2
        exact ⟨d, cd, by rw [hRl]; rfl, HE.out⟩
      · rw [if_neg hcA] at hrun
        have HR : Hid ((Builtin.append_ #[22, 22] 22 #[.slice (some ⟨w.heap.size, 0, none⟩) 0 0, .slice (some ⟨q, A, none⟩) (A + N - A) (cap - A)]).run Try.prog (w.alloc (.cells #[] 5)) = .ok (.slice d N cd) w') := by
          show (Builtin.append_ #[22, 22] 22 #[.slice (some ⟨w.heap.size, 0, none⟩) 0 0, .slice (some ⟨q, A, none⟩) (A + N - A) (cap - A)]).run Try.prog (w.alloc (.cells #[] 5)) = .ok (.slice d N cd) w'
          rw [e3]; exact hrun
        clear h hR hE hR2 hrun ho hbl hs hAN hal hsv hct e3
        go_enter Try.func47, Try.ntmps47
        go_wp2_with (at_builtin; refine wpList_append_run rfl _ _ 22 rfl _ _ _ rfl rfl HR.out ?_)
        go_ret2
        exact ⟨d, cd, by rw [hRl]; rfl, HE.out⟩
  · have hR2 : R = [] := by rw [hR]; unfold rreadL; rw [if_pos (by rw [← hE]; exact hc)]
    subst hR2
    have hsm := h.small
    cases hd : t.dead
    · have hE2 : E = 1 ∧ (a < 0 ∨ n < 0 ∨ (t.b.length : Int) - a < n) := by
        unfold chk at hE
        rw [hd, if_neg (by simp)] at hE
        split at hE
        · rename_i hh; exact ⟨hE, hh⟩
        · exact absurd hE hc
      obtain ⟨rfl, hbad⟩ := hE2
      rw [hd] at c3
      obtain ⟨av, cv, rfl, _⟩ := h.sees
      clear h hR hE hc
      by_cases h0 : a < 0
      · have d0 : decide (a < 0) = true := by simp [h0]
        clear hbad
        go_enter Try.func47, Try.ntmps47
        go_wp2
        go_ret2
        exact ⟨none, 0, rfl, Sees.nil' _, Below.refl _ _⟩
      have d0 : decide (a < 0) = false := by simp; omega
      by_cases h1 : n < 0
      · have d1 : decide (n < 0) = true := by simp [h1]
        clear hbad
        go_enter Try.func47, Try.ntmps47
        go_wp2
        go_ret2
        exact ⟨none, 0, rfl, Sees.nil' _, Below.refl _ _⟩
      have d1 : decide (n < 0) = false := by simp; omega
      by_cases h2 : (t.b.length : Int) < a
      · have d2 : decide ((t.b.length : Int) < a) = true := by simp [h2]
        clear hbad
        go_enter Try.func47, Try.ntmps47
        go_wp2
        go_ret2
        exact ⟨none, 0, rfl, Sees.nil' _, Below.refl _ _⟩
      have d2 : decide ((t.b.length : Int) < a) = false := by simp; omega
      have d3 : decide ((t.b.length : Int) - a < n) = true := by simp; omega
      clear hbad
      go_enter Try.func47, Try.ntmps47
      go_wp2
      go_ret2
      exact ⟨none, 0, rfl, Sees.nil' _, Below.refl _ _⟩
    · obtain rfl : E = 5 := by unfold chk at hE; rw [hd] at hE; exact hE
      rw [hd] at c3
      clear h hR hE hc
      go_enter Try.func47, Try.ntmps47
      go_wp2
      go_ret2
      exact ⟨none, 0, rfl, Sees.nil' _, Below.refl _ _⟩
end Go.Proofs.Ytjmbioedpghopaa
