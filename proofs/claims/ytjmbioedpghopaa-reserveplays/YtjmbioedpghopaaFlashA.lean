/-
  What a nil flash, and one that no call made, answers.

  A flash of the program's in memory; the contracts of what only looks at one.

  The contracts of flash's Wake, Tear, next and Write.
-/
import Derived.Test.YtjmbioedpghopaaGround
import Derived.Lib.SliceRun
namespace Go.Proofs.Ytjmbioedpghopaa
open Go.ChangeShapes Go.WideShapes Go.ChangeAt Go.RowKit

/-- A nil flash, or one that no call made. -/
def NoF (w : World) (p : Value) : Prop := p = .pointer none ∨ ∃ g, p = .pointer (some ⟨g, 0, none⟩) ∧ w.cell? ⟨g, 0, none⟩ = some (.bool false)

theorem stands_no (w : World) (p : Value) (h : NoF w p) : Calls Try.prog 35 #[p] w fun e w' => e = .returned (.bool false) ∧ w' = w := by
  rcases h with rfl | ⟨g, rfl, hc⟩
  · go_enter Try.func35, Try.ntmps35
    go_wp2
    go_ret
    exact ⟨rfl, rfl⟩
  · go_enter Try.func35, Try.ntmps35
    go_wp2
    go_ret
    exact ⟨rfl, rfl⟩
theorem check_no (w : World) (p : Value) (h : NoF w p) (a n : Int) : Calls Try.prog 28 #[p, .int .i64 a, .int .i64 n] w fun e w' => e = .returned (.int .i64 7) ∧ w' = w := by
  have hs := stands_no w p h
  clear h
  go_enter Try.func28, Try.ntmps28
  go_wp2_with fail
  refine hs.mono ?_
  rintro e w1 ⟨rfl, rfl⟩
  go_wp2
  go_ret
  exact ⟨rfl, rfl⟩
theorem read_no (w : World) (p : Value) (h : NoF w p) (a n : Int) : Calls Try.prog 45 #[p, .int .i64 a, .int .i64 n] w fun e w' => e = .returned (.tuple #[.slice none 0 0, .int .i64 7]) ∧ w' = w := by
  have hs := check_no w p h a n
  clear h
  go_enter Try.func45, Try.ntmps45
  go_wp2_with fail
  refine hs.mono ?_
  rintro e w1 ⟨rfl, rfl⟩
  go_wp2
  go_ret2
  exact ⟨rfl, rfl⟩
theorem write_no (w : World) (p : Value) (h : NoF w p) (a : Int) (x : Option Addr) (l c : Nat) : Calls Try.prog 9 #[p, .int .i64 a, .slice x l c] w fun e w' => e = .returned (.int .i64 7) ∧ w' = w := by
  have hs := check_no w p h a l
  clear h
  go_enter Try.func9, Try.ntmps9
  go_wp2_with fail
  refine hs.mono ?_
  rintro e w1 ⟨rfl, rfl⟩
  go_wp2
  go_ret
  exact ⟨rfl, rfl⟩
theorem len_no (w : World) (p : Value) (h : NoF w p) : Calls Try.prog 46 #[p] w fun e w' => e = .returned (.int .i64 0) ∧ w' = w := by
  have hs := stands_no w p h
  clear h
  go_enter Try.func46, Try.ntmps46
  go_wp2_with fail
  refine hs.mono ?_
  rintro e w1 ⟨rfl, rfl⟩
  go_wp2
  go_ret
  exact ⟨rfl, rfl⟩
theorem tear_no (w : World) (p : Value) (h : NoF w p) (a n : Int) : Calls Try.prog 14 #[p, .int .i64 a, .int .i64 n] w fun e w' => (∃ v, e = .returned v) ∧ w' = w := by
  have hs := stands_no w p h
  clear h
  go_enter Try.func14, Try.ntmps14
  go_wp2_with fail
  refine hs.mono ?_
  rintro e w1 ⟨rfl, rfl⟩
  go_wp2
  (try simp only [Exit.inBlock, Exit.then])
  refine bodyPost_ret (results_none rfl _ _ _) rfl ?_
  exact ⟨⟨_, rfl⟩, rfl⟩
theorem wake_no (w : World) (p : Value) (h : NoF w p) : Calls Try.prog 20 #[p] w fun e w' => (∃ v, e = .returned v) ∧ w' = w := by
  have hs := stands_no w p h
  clear h
  go_enter Try.func20, Try.ntmps20
  go_wp2_with fail
  refine hs.mono ?_
  rintro e w1 ⟨rfl, rfl⟩
  go_wp2
  (try simp only [Exit.inBlock, Exit.then])
  refine bodyPost_ret (results_none rfl _ _ _) rfl ?_
  exact ⟨⟨_, rfl⟩, rfl⟩
end Go.Proofs.Ytjmbioedpghopaa

namespace Go.Proofs.Ytjmbioedpghopaa
open Go.ChangeShapes Go.WideShapes Go.ChangeAt Go.RowKit

/-- What a flash of the program's holds: its bytes, how many writes were begun, the tear (is one due, behind how many, how many bytes), is it dead. -/
structure PS where
  b : List UInt8
  n : Nat
  due : Bool
  k : Nat
  m : Nat
  dead : Bool

/-- It lies in block g, its bytes in block q. -/
structure PA (w : World) (g : Nat) (s : PS) (q cap : Nat) (cur : Array Value) : Prop where
  row : w.heap[g]? = some (.cells #[.bool true, .slice (some ⟨q, 0, none⟩) s.b.length cap, .int .i64 (s.n : Int), .bool s.due, .int .i64 (s.k : Int), .int .i64 (s.m : Int), .bool s.dead] 67 (0, 0))
  bytes : w.heap[q]? = some (.cells cur 5 (0, 0))
  fits : s.b.length ≤ cap
  room : cap ≤ maxLen
  size : cur.size = cap
  holds : cur.toList.take s.b.length = s.b.map cellOf
  small : s.b.length ≤ 4096
  kl : s.k ≤ 9223372036854775807
  ml : s.m ≤ 9223372036854775807

/-- The blocks that it lies in. -/
def PF (w : World) (g : Nat) (s : PS) (F : Nat → Prop) : Prop := ∃ q cap cur, PA w g s q cap cur ∧ F g ∧ F q ∧ ∀ k, F k → k < w.heap.size

theorem PA.keep {w w' : World} {g : Nat} {s : PS} {q cap : Nat} {cur : Array Value} (h : PA w g s q cap cur) (hg : w'.heap[g]? = w.heap[g]?) (hq : w'.heap[q]? = w.heap[q]?) : PA w' g s q cap cur :=
  ⟨hg.trans h.row, hq.trans h.bytes, h.fits, h.room, h.size, h.holds, h.small, h.kl, h.ml⟩

theorem pf_kept : Kept PF where
  lt := fun ⟨_, _, _, _, _, _, h⟩ => h
  keep := fun {w w' b s F} ⟨q, cap, cur, h1, h2, h3, h5⟩ hk => by
    refine ⟨q, cap, cur, h1.keep (hk b h2) (hk q h3), h2, h3, fun k hF => ?_⟩
    have h8 : w'.heap[k]? = some (w.heap[k]'(h5 k hF)) := by rw [hk k hF]; simp [h5 k hF]
    exact (Array.getElem?_eq_some_iff.1 h8).1

theorem PA.ne {w : World} {g : Nat} {s : PS} {q cap : Nat} {cur : Array Value} (h : PA w g s q cap cur) : g ≠ q := by
  rintro rfl
  have h1 := h.row
  rw [h.bytes] at h1
  simp at h1

theorem PA.sees {w : World} {g : Nat} {s : PS} {q cap : Nat} {cur : Array Value} (h : PA w g s q cap cur) : Sees w (some ⟨q, 0, none⟩) cap s.b := by
  refine ⟨h.fits, h.room, by simp, fun _ => ⟨q, 0, rfl, fun i x hx => ?_⟩⟩
  rw [cell_of_row _ _ (0 + i) _ _ _ h.bytes, Nat.zero_add]
  have h1 : (s.b.map cellOf)[i]? = some (cellOf x) := by simp [hx]
  rw [← h.holds, List.getElem?_take] at h1
  split at h1
  · simpa [cellOf] using h1
  · simp at h1

/-- The fields, as cells. -/
theorem PA.made {w : World} {g : Nat} {s : PS} {q cap : Nat} {cur : Array Value} (h : PA w g s q cap cur) : w.cell? ⟨g, 0, none⟩ = some (.bool true) := cell_of_row _ _ 0 _ _ _ h.row
theorem PA.bs {w : World} {g : Nat} {s : PS} {q cap : Nat} {cur : Array Value} (h : PA w g s q cap cur) : w.cell? ⟨g, 1, none⟩ = some (.slice (some ⟨q, 0, none⟩) s.b.length cap) := cell_of_row _ _ 1 _ _ _ h.row
theorem PA.ns {w : World} {g : Nat} {s : PS} {q cap : Nat} {cur : Array Value} (h : PA w g s q cap cur) : w.cell? ⟨g, 2, none⟩ = some (.int .i64 (s.n : Int)) := cell_of_row _ _ 2 _ _ _ h.row
theorem PA.dues {w : World} {g : Nat} {s : PS} {q cap : Nat} {cur : Array Value} (h : PA w g s q cap cur) : w.cell? ⟨g, 3, none⟩ = some (.bool s.due) := cell_of_row _ _ 3 _ _ _ h.row
theorem PA.ks {w : World} {g : Nat} {s : PS} {q cap : Nat} {cur : Array Value} (h : PA w g s q cap cur) : w.cell? ⟨g, 4, none⟩ = some (.int .i64 (s.k : Int)) := cell_of_row _ _ 4 _ _ _ h.row
theorem PA.ms {w : World} {g : Nat} {s : PS} {q cap : Nat} {cur : Array Value} (h : PA w g s q cap cur) : w.cell? ⟨g, 5, none⟩ = some (.int .i64 (s.m : Int)) := cell_of_row _ _ 5 _ _ _ h.row
theorem PA.deads {w : World} {g : Nat} {s : PS} {q cap : Nat} {cur : Array Value} (h : PA w g s q cap cur) : w.cell? ⟨g, 6, none⟩ = some (.bool s.dead) := cell_of_row _ _ 6 _ _ _ h.row
theorem PA.lax {w : World} {g : Nat} {s : PS} {q cap : Nat} {cur : Array Value} (h : PA w g s q cap cur) (i : Nat) : w.frozen? ⟨g, i, none⟩ = false := frozen_of_row _ _ i _ _ h.row

theorem stands_ok (w : World) (g : Nat) (hc : w.cell? ⟨g, 0, none⟩ = some (.bool true)) : Calls Try.prog 35 #[.pointer (some ⟨g, 0, none⟩)] w fun e w' => e = .returned (.bool true) ∧ w' = w := by
  go_enter Try.func35, Try.ntmps35
  go_wp2
  go_ret
  exact ⟨rfl, rfl⟩

/-- What check says. -/
def checkE (s : PS) (a n : Int) : Nat := if s.dead then 5 else if a < 0 ∨ n < 0 ∨ (s.b.length : Int) - a < n then 1 else 0

theorem check_ok (w : World) (g : Nat) (s : PS) (q cap : Nat) (cur : Array Value) (h : PA w g s q cap cur) (a n : Int) (ha : (Lit.int .i64 a).wf = true) :
    Calls Try.prog 28 #[.pointer (some ⟨g, 0, none⟩), .int .i64 a, .int .i64 n] w fun e w' => e = .returned (.int .i64 (checkE s a n : Int)) ∧ w' = w := by
  have hs := stands_ok w g h.made
  have ha := bounds_i64 ha
  have c1 := h.bs
  have c6 := h.deads
  have hl := h.small
  have HE : Hid (checkE s a n = if s.dead then 5 else if a < 0 ∨ n < 0 ∨ (s.b.length : Int) - a < n then 1 else 0) := rfl
  clear h
  go_enter Try.func28, Try.ntmps28
  go_wp2_with fail
  refine hs.mono ?_
  rintro e w1 ⟨rfl, rfl⟩
  clear hs
  cases hd : s.dead
  · rw [hd] at c6
    by_cases h1 : a < 0
    · have d1 : decide (a < 0) = true := by simp [h1]
      go_wp2
      go_ret
      exact ⟨by rw [HE.out, hd, if_neg (by simp), if_pos (.inl h1)]; rfl, rfl⟩
    · have d1 : decide (a < 0) = false := by simp; omega
      by_cases h2 : n < 0
      · have d2 : decide (n < 0) = true := by simp [h2]
        go_wp2
        go_ret
        exact ⟨by rw [HE.out, hd, if_neg (by simp), if_pos (.inr (.inl h2))]; rfl, rfl⟩
      · have d2 : decide (n < 0) = false := by simp; omega
        by_cases h3 : (s.b.length : Int) - a < n
        · have d3 : decide ((s.b.length : Int) - a < n) = true := by simp [h3]
          go_wp2
          go_ret
          exact ⟨by rw [HE.out, hd, if_neg (by simp), if_pos (.inr (.inr h3))]; rfl, rfl⟩
        · have d3 : decide ((s.b.length : Int) - a < n) = false := by simp; omega
          go_wp2
          go_ret
          exact ⟨by rw [HE.out, hd, if_neg (by simp), if_neg (by omega)]; rfl, rfl⟩
  · rw [hd] at c6
    go_wp2
    go_ret
    exact ⟨by rw [HE.out, hd]; rfl, rfl⟩

theorem len_ok (w : World) (g : Nat) (s : PS) (q cap : Nat) (cur : Array Value) (h : PA w g s q cap cur) : Calls Try.prog 46 #[.pointer (some ⟨g, 0, none⟩)] w fun e w' => e = .returned (.int .i64 (s.b.length : Int)) ∧ w' = w := by
  have hs := stands_ok w g h.made
  have c1 := h.bs
  have hl := h.small
  clear h
  go_enter Try.func46, Try.ntmps46
  go_wp2_with fail
  refine hs.mono ?_
  rintro e w1 ⟨rfl, rfl⟩
  go_wp2
  go_ret
  exact ⟨rfl, rfl⟩
/-- Where n bytes from a on lie, as the program cuts them. -/
def partV (q a n : Nat) : Value := .slice (some ⟨q, if n = 0 then 0 else a, none⟩) n n

theorem part_ok (w : World) (g : Nat) (s : PS) (q cap : Nat) (cur : Array Value) (h : PA w g s q cap cur) (a n : Nat) (han : a + n ≤ s.b.length) :
    Calls Try.prog 30 #[.pointer (some ⟨g, 0, none⟩), .int .i64 (a : Int), .int .i64 (n : Int)] w fun e w' => e = .returned (partV q a n) ∧ w' = w := by
  have c1 := h.bs
  have hl := h.small
  have hf := h.fits
  have hr : cap ≤ 9223372036854775807 := by have := h.room; unfold maxLen at this; omega
  have HP : Hid (partV q a n = .slice (some ⟨q, if n = 0 then 0 else a, none⟩) n n) := rfl
  clear h
  go_enter Try.func30, Try.ntmps30
  go_wp2
  · obtain rfl : n = 0 := by omega
    go_ret
    exact ⟨by rw [HP.out]; rfl, rfl⟩
  · go_ret
    exact ⟨by rw [HP.out, if_neg (by omega)]; rfl, rfl⟩
end Go.Proofs.Ytjmbioedpghopaa

namespace Go.Proofs.Ytjmbioedpghopaa
open Go.ChangeShapes Go.WideShapes Go.ChangeAt Go.RowKit

/-- One field changed. -/
theorem PA.set {w : World} {g : Nat} {s : PS} {q cap : Nat} {cur : Array Value} (h : PA w g s q cap cur) (i : Nat) (v : Value) (s' : PS) (hb : s'.b = s.b) (hk : s'.k ≤ 9223372036854775807) (hm : s'.m ≤ 9223372036854775807)
    (hr : (#[.bool true, .slice (some ⟨q, 0, none⟩) s.b.length cap, .int .i64 (s.n : Int), .bool s.due, .int .i64 (s.k : Int), .int .i64 (s.m : Int), .bool s.dead] : Array Value).setIfInBounds i v =
      #[.bool true, .slice (some ⟨q, 0, none⟩) s.b.length cap, .int .i64 (s'.n : Int), .bool s'.due, .int .i64 (s'.k : Int), .int .i64 (s'.m : Int), .bool s'.dead]) :
    PA (w.setCell ⟨g, i, none⟩ v) g s' q cap cur :=
  ⟨by rw [heap_setCell_same _ _ _ _ _ _ h.row, hr, hb], by rw [heap_setCell_other _ _ _ _ (Ne.symm h.ne)]; exact h.bytes, by rw [hb]; exact h.fits, h.room, h.size, by rw [hb]; exact h.holds, by rw [hb]; exact h.small, hk, hm⟩

theorem apart_set {F : Nat → Prop} {w w' : World} {g : Nat} (h : Apart F w w') (hg : F g) (i : Nat) (v : Value) : Apart F w (w'.setCell ⟨g, i, none⟩ v) := h.setCell (.inl hg) i v

/-- What an act leaves, the blocks staying the same. -/
theorem PA.left {w w' : World} {g : Nat} {s s' : PS} {q cap cap' : Nat} {cur cur' : Array Value} {F : Nat → Prop} (_h : PA w g s q cap cur) (h' : PA w' g s' q cap' cur') (hF : F g) (hq : F q) (hl : ∀ k, F k → k < w.heap.size) (ha : Apart F w w') : Left PF w F g s' w' :=
  ⟨F, ⟨q, cap', cur', h', hF, hq, fun k hk => Nat.lt_of_lt_of_le (hl k hk) ha.size⟩, ha, fun _ hk => .inl hk⟩

/-- Awake, and no tear due. -/
def wakeS (s : PS) : PS := { s with due := false, k := 0, m := 0, dead := false }

theorem wake_ok (w : World) (g : Nat) (s : PS) (F : Nat → Prop) (h : PF w g s F) : Calls Try.prog 20 #[.pointer (some ⟨g, 0, none⟩)] w fun e w' => (∃ v, e = .returned v) ∧ Left PF w F g (wakeS s) w' := by
  obtain ⟨q, cap, cur, h, hF, hq, hl⟩ := h
  have HE : Hid (Left PF w F g (wakeS s) ((((w.setCell ⟨g, 6, none⟩ (.bool false)).setCell ⟨g, 3, none⟩ (.bool false)).setCell ⟨g, 4, none⟩ (.int .i64 0)).setCell ⟨g, 5, none⟩ (.int .i64 0))) := by
    have h1 := h.set 6 (.bool false) { s with dead := false } rfl h.kl h.ml rfl
    have h2 := h1.set 3 (.bool false) { s with dead := false, due := false } rfl h.kl h.ml rfl
    have h3 := h2.set 4 (.int .i64 0) { s with dead := false, due := false, k := 0 } rfl (by simp) h.ml rfl
    have h4 := h3.set 5 (.int .i64 0) (wakeS s) rfl (by simp [wakeS]) (by simp [wakeS]) rfl
    exact h.left h4 hF hq hl (apart_set (apart_set (apart_set (apart_set (Apart.refl _ _) hF _ _) hF _ _) hF _ _) hF _ _)
  have hs := stands_ok w g h.made
  have c3 := h.dues
  have c4 := h.ks
  have c5 := h.ms
  have c6 := h.deads
  have f3 := h.lax 3
  have f4 := h.lax 4
  have f5 := h.lax 5
  have f6 := h.lax 6
  clear h hl
  go_enter Try.func20, Try.ntmps20
  go_wp2_with fail
  refine hs.mono ?_
  rintro e w1 ⟨rfl, rfl⟩
  clear hs
  go_wp2
  go_end0
  exact ⟨⟨_, rfl⟩, HE.out⟩

/-- What is to be torn. -/
def tearS (s : PS) (k n : Int) : PS := if 0 ≤ k ∧ 0 ≤ n then { s with due := true, k := k.toNat, m := n.toNat } else { s with due := false, k := 0, m := 0 }

theorem tear_ok (w : World) (g : Nat) (s : PS) (F : Nat → Prop) (h : PF w g s F) (k n : Int) (hk : (Lit.int .i64 k).wf = true) (hn : (Lit.int .i64 n).wf = true) :
    Calls Try.prog 14 #[.pointer (some ⟨g, 0, none⟩), .int .i64 k, .int .i64 n] w fun e w' => (∃ v, e = .returned v) ∧ Left PF w F g (tearS s k n) w' := by
  obtain ⟨q, cap, cur, h, hF, hq, hl⟩ := h
  have hk := bounds_i64 hk
  have hn := bounds_i64 hn
  have h2 := h.set 3 (.bool false) { s with due := false } rfl h.kl h.ml rfl
  have h3 := h2.set 4 (.int .i64 0) { s with due := false, k := 0 } rfl (by simp) h.ml rfl
  have h4 := h3.set 5 (.int .i64 0) { s with due := false, k := 0, m := 0 } rfl (by simp) (by simp) rfl
  have ap4 : Apart F w (((w.setCell ⟨g, 3, none⟩ (.bool false)).setCell ⟨g, 4, none⟩ (.int .i64 0)).setCell ⟨g, 5, none⟩ (.int .i64 0)) := apart_set (apart_set (apart_set (Apart.refl _ _) hF _ _) hF _ _) hF _ _
  have HN : Hid (Left PF w F g { s with due := false, k := 0, m := 0 } (((w.setCell ⟨g, 3, none⟩ (.bool false)).setCell ⟨g, 4, none⟩ (.int .i64 0)).setCell ⟨g, 5, none⟩ (.int .i64 0))) := h.left h4 hF hq hl ap4
  have hs := stands_ok w g h.made
  have c3 := h.dues
  have c4 := h.ks
  have c5 := h.ms
  have f3 := h.lax 3
  have f4 := h.lax 4
  have f5 := h.lax 5
  by_cases h0 : 0 ≤ k ∧ 0 ≤ n
  · obtain ⟨h0, h1⟩ := h0
    have e1 : tearS s k n = { s with due := true, k := k.toNat, m := n.toNat } := by unfold tearS; rw [if_pos ⟨h0, h1⟩]
    rw [e1]
    have HE : Hid (Left PF w F g { s with due := true, k := k.toNat, m := n.toNat } ((((((w.setCell ⟨g, 3, none⟩ (.bool false)).setCell ⟨g, 4, none⟩ (.int .i64 0)).setCell ⟨g, 5, none⟩ (.int .i64 0)).setCell ⟨g, 3, none⟩ (.bool true)).setCell ⟨g, 4, none⟩ (.int .i64 k)).setCell ⟨g, 5, none⟩ (.int .i64 n))) := by
      have h5 := h4.set 3 (.bool true) { s with due := true, k := 0, m := 0 } rfl (by simp) (by simp) rfl
      have h6 := h5.set 4 (.int .i64 k) { s with due := true, k := k.toNat, m := 0 } rfl (by simp only []; omega) (by simp) (by simp only [Int.toNat_of_nonneg h0]; rfl)
      have h7 := h6.set 5 (.int .i64 n) { s with due := true, k := k.toNat, m := n.toNat } rfl (by simp only []; omega) (by simp only []; omega) (by simp only [Int.toNat_of_nonneg h1]; rfl)
      exact h.left h7 hF hq hl (apart_set (apart_set (apart_set ap4 hF _ _) hF _ _) hF _ _)
    have d0 : decide (0 ≤ k) = true := by simp [h0]
    have d1 : decide (0 ≤ n) = true := by simp [h1]
    clear h hl h2 h3 h4 ap4 HN e1
    go_enter Try.func14, Try.ntmps14
    go_wp2_with fail
    refine hs.mono ?_
    rintro e w1 ⟨rfl, rfl⟩
    clear hs
    go_wp2
    go_end0
    exact ⟨⟨_, rfl⟩, HE.out⟩
  · have e1 : tearS s k n = { s with due := false, k := 0, m := 0 } := by unfold tearS; rw [if_neg h0]
    rw [e1]
    clear h hl h2 h3 h4 ap4 e1
    by_cases h1 : 0 ≤ k
    · have d0 : decide (0 ≤ k) = true := by simp [h1]
      have d1 : decide (0 ≤ n) = false := by simp; omega
      clear h0
      go_enter Try.func14, Try.ntmps14
      go_wp2_with fail
      refine hs.mono ?_
      rintro e w1 ⟨rfl, rfl⟩
      clear hs
      go_wp2
      go_end0
      exact ⟨⟨_, rfl⟩, HN.out⟩
    · have d0 : decide (0 ≤ k) = false := by simp; omega
      clear h0
      go_enter Try.func14, Try.ntmps14
      go_wp2_with fail
      refine hs.mono ?_
      rintro e w1 ⟨rfl, rfl⟩
      clear hs
      go_wp2
      go_end0
      exact ⟨⟨_, rfl⟩, HN.out⟩

/-- Is the write that begins now torn; how many bytes of it come to stand; what is due behind it. -/
def tornB (s : PS) : Bool := s.due && decide (s.k = 0)
def cutN (s : PS) (l : Nat) : Nat := if tornB s then min l s.m else l
def nextS (s : PS) : PS := { s with k := if s.due then s.k - 1 else s.k }

theorem next_ok (w : World) (g : Nat) (s : PS) (q cap : Nat) (cur : Array Value) (h : PA w g s q cap cur) (l : Nat) (_hl : l ≤ 9223372036854775807) :
    Calls Try.prog 29 #[.pointer (some ⟨g, 3, none⟩), .int .i64 (l : Int)] w fun e w' => e = .returned (.tuple #[.int .i64 (cutN s l : Int), .bool (tornB s)]) ∧ PA w' g (nextS s) q cap cur ∧ Apart (fun i => i = g) w w' := by
  have c3 := h.dues
  have c4 := h.ks
  have c5 := h.ms
  have f4 := h.lax 4
  have hk := h.kl
  have hm := h.ml
  cases hd : s.due
  · have e1 : tornB s = false := by simp [tornB, hd]
    have e2 : cutN s l = l := by simp [cutN, e1]
    have e3 : nextS s = s := by obtain ⟨b, n, due, k, m, dead⟩ := s; cases hd; rfl
    rw [e1, e2, e3]
    rw [hd] at c3
    have HE : Hid (PA w g s q cap cur) := h
    clear h e1 e2 e3
    go_enter Try.func29, Try.ntmps29
    go_wp2
    go_ret2
    exact ⟨rfl, HE.out, Apart.refl _ _⟩
  · rw [hd] at c3
    by_cases h0 : s.k = 0
    · have e1 : tornB s = true := by simp [tornB, hd, h0]
      have e2 : cutN s l = min l s.m := by simp [cutN, e1]
      have e3 : nextS s = s := by obtain ⟨b, n, due, k, m, dead⟩ := s; cases hd; cases h0; rfl
      rw [e1, e2, e3]
      have HE : Hid (PA w g s q cap cur) := h
      rw [h0] at c4
      clear h e1 e2 e3
      go_enter Try.func29, Try.ntmps29
      go_wp2
      all_goals
        go_ret2
        refine ⟨?_, HE.out, Apart.refl _ _⟩
        first | rfl | (congr 4; simp; omega)
    · have e1 : tornB s = false := by simp [tornB, h0]
      have e2 : cutN s l = l := by simp [cutN, e1]
      rw [e1, e2]
      have HE : Hid (PA (w.setCell ⟨g, 4, none⟩ (.int .i64 ((s.k : Int) - 1))) g (nextS s) q cap cur) :=
        h.set 4 _ (nextS s) rfl (by simp [nextS, hd]; omega) h.ml (by
          have : (((nextS s).k : Nat) : Int) = (s.k : Int) - 1 := by simp [nextS, hd]; omega
          rw [this]; rfl)
      have d0 : decide (0 < s.k) = true := by simp; omega
      have d1 : 0 < s.k := by omega
      clear h e1 e2
      go_enter Try.func29, Try.ntmps29
      go_wp2
      go_ret2
      exact ⟨rfl, HE.out, apart_set (F := fun i => i = g) (Apart.refl _ _) rfl 4 _⟩
end Go.Proofs.Ytjmbioedpghopaa
