/-
  A flash of the program's in memory; the contracts of what only looks at one.
-/
import Derived.Test.YtgnllmcgebonpaaFlashNo
import Derived.Test.YtgnllmcgebonpaaCopyRow
import Derived.Lib.SliceRun
namespace Go.Proofs.Ytgnllmcgebonpaa
open Go.ChangeShapes Go.WideShapes Go.ChangeAt Go.RowKit

/-- What a flash of the program's holds: its bytes, how many writes were begun, the tear (is one due, behind how many, how many bytes), is it dead. -/
structure PS where
  b : List UInt8
  n : Nat
  due : Bool
  k : Nat
  m : Nat
  dead : Bool

/-- It lies in block g, its bytes in block q. -/
structure PA (w : World) (g : Nat) (s : PS) (q cap : Nat) (cur : Array Value) : Prop where
  row : w.heap[g]? = some (.cells #[.bool true, .slice (some ⟨q, 0, none⟩) s.b.length cap, .int .i64 (s.n : Int), .bool s.due, .int .i64 (s.k : Int), .int .i64 (s.m : Int), .bool s.dead] 60 (0, 0))
  bytes : w.heap[q]? = some (.cells cur 5 (0, 0))
  fits : s.b.length ≤ cap
  room : cap ≤ maxLen
  size : cur.size = cap
  holds : cur.toList.take s.b.length = s.b.map cellOf
  small : s.b.length ≤ 4096
  kl : s.k ≤ 9223372036854775807
  ml : s.m ≤ 9223372036854775807

/-- The blocks that it lies in. -/
def PF (w : World) (g : Nat) (s : PS) (F : Nat → Prop) : Prop := ∃ q cap cur, PA w g s q cap cur ∧ F g ∧ F q ∧ ∀ k, F k → k < w.heap.size

theorem PA.keep {w w' : World} {g : Nat} {s : PS} {q cap : Nat} {cur : Array Value} (h : PA w g s q cap cur) (hg : w'.heap[g]? = w.heap[g]?) (hq : w'.heap[q]? = w.heap[q]?) : PA w' g s q cap cur :=
  ⟨hg.trans h.row, hq.trans h.bytes, h.fits, h.room, h.size, h.holds, h.small, h.kl, h.ml⟩

theorem pf_kept : Kept PF where
  lt := fun ⟨_, _, _, _, _, _, h⟩ => h
  keep := fun {w w' b s F} ⟨q, cap, cur, h1, h2, h3, h5⟩ hk => by
    refine ⟨q, cap, cur, h1.keep (hk b h2) (hk q h3), h2, h3, fun k hF => ?_⟩
    have h8 : w'.heap[k]? = some (w.heap[k]'(h5 k hF)) := by rw [hk k hF]; simp [h5 k hF]
    exact (Array.getElem?_eq_some_iff.1 h8).1

theorem PA.ne {w : World} {g : Nat} {s : PS} {q cap : Nat} {cur : Array Value} (h : PA w g s q cap cur) : g ≠ q := by
  rintro rfl
  have h1 := h.row
  rw [h.bytes] at h1
  simp at h1

theorem PA.sees {w : World} {g : Nat} {s : PS} {q cap : Nat} {cur : Array Value} (h : PA w g s q cap cur) : Sees w (some ⟨q, 0, none⟩) cap s.b := by
  refine ⟨h.fits, h.room, by simp, fun _ => ⟨q, 0, rfl, fun i x hx => ?_⟩⟩
  rw [cell_of_row _ _ (0 + i) _ _ _ h.bytes, Nat.zero_add]
  have h1 : (s.b.map cellOf)[i]? = some (cellOf x) := by simp [hx]
  rw [← h.holds, List.getElem?_take] at h1
  split at h1
  · simpa [cellOf] using h1
  · simp at h1

/-- The fields, as cells. -/
theorem PA.made {w : World} {g : Nat} {s : PS} {q cap : Nat} {cur : Array Value} (h : PA w g s q cap cur) : w.cell? ⟨g, 0, none⟩ = some (.bool true) := cell_of_row _ _ 0 _ _ _ h.row
theorem PA.bs {w : World} {g : Nat} {s : PS} {q cap : Nat} {cur : Array Value} (h : PA w g s q cap cur) : w.cell? ⟨g, 1, none⟩ = some (.slice (some ⟨q, 0, none⟩) s.b.length cap) := cell_of_row _ _ 1 _ _ _ h.row
theorem PA.ns {w : World} {g : Nat} {s : PS} {q cap : Nat} {cur : Array Value} (h : PA w g s q cap cur) : w.cell? ⟨g, 2, none⟩ = some (.int .i64 (s.n : Int)) := cell_of_row _ _ 2 _ _ _ h.row
theorem PA.dues {w : World} {g : Nat} {s : PS} {q cap : Nat} {cur : Array Value} (h : PA w g s q cap cur) : w.cell? ⟨g, 3, none⟩ = some (.bool s.due) := cell_of_row _ _ 3 _ _ _ h.row
theorem PA.ks {w : World} {g : Nat} {s : PS} {q cap : Nat} {cur : Array Value} (h : PA w g s q cap cur) : w.cell? ⟨g, 4, none⟩ = some (.int .i64 (s.k : Int)) := cell_of_row _ _ 4 _ _ _ h.row
theorem PA.ms {w : World} {g : Nat} {s : PS} {q cap : Nat} {cur : Array Value} (h : PA w g s q cap cur) : w.cell? ⟨g, 5, none⟩ = some (.int .i64 (s.m : Int)) := cell_of_row _ _ 5 _ _ _ h.row
theorem PA.deads {w : World} {g : Nat} {s : PS} {q cap : Nat} {cur : Array Value} (h : PA w g s q cap cur) : w.cell? ⟨g, 6, none⟩ = some (.bool s.dead) := cell_of_row _ _ 6 _ _ _ h.row
theorem PA.lax {w : World} {g : Nat} {s : PS} {q cap : Nat} {cur : Array Value} (h : PA w g s q cap cur) (i : Nat) : w.frozen? ⟨g, i, none⟩ = false := frozen_of_row _ _ i _ _ h.row

theorem stands_ok (w : World) (g : Nat) (hc : w.cell? ⟨g, 0, none⟩ = some (.bool true)) : Calls Try.prog 32 #[.pointer (some ⟨g, 0, none⟩)] w fun e w' => e = .returned (.bool true) ∧ w' = w := by
  go_enter Try.func32, Try.ntmps32
  go_wp2
  go_ret
  exact ⟨rfl, rfl⟩

/-- What check says. -/
def checkE (s : PS) (a n : Int) : Nat := if s.dead then 5 else if a < 0 ∨ n < 0 ∨ (s.b.length : Int) - a < n then 1 else 0

theorem check_ok (w : World) (g : Nat) (s : PS) (q cap : Nat) (cur : Array Value) (h : PA w g s q cap cur) (a n : Int) (ha : (Lit.int .i64 a).wf = true) :
    Calls Try.prog 27 #[.pointer (some ⟨g, 0, none⟩), .int .i64 a, .int .i64 n] w fun e w' => e = .returned (.int .i64 (checkE s a n : Int)) ∧ w' = w := by
  have hs := stands_ok w g h.made
  have ha := bounds_i64 ha
  have c1 := h.bs
  have c6 := h.deads
  have hl := h.small
  have HE : Hid (checkE s a n = if s.dead then 5 else if a < 0 ∨ n < 0 ∨ (s.b.length : Int) - a < n then 1 else 0) := rfl
  clear h
  go_enter Try.func27, Try.ntmps27
  go_wp2_with fail
  refine hs.mono ?_
  rintro e w1 ⟨rfl, rfl⟩
  clear hs
  cases hd : s.dead
  · rw [hd] at c6
    by_cases h1 : a < 0
    · have d1 : decide (a < 0) = true := by simp [h1]
      go_wp2
      go_ret
      exact ⟨by rw [HE.out, hd, if_neg (by simp), if_pos (.inl h1)]; rfl, rfl⟩
    · have d1 : decide (a < 0) = false := by simp; omega
      by_cases h2 : n < 0
      · have d2 : decide (n < 0) = true := by simp [h2]
        go_wp2
        go_ret
        exact ⟨by rw [HE.out, hd, if_neg (by simp), if_pos (.inr (.inl h2))]; rfl, rfl⟩
      · have d2 : decide (n < 0) = false := by simp; omega
        by_cases h3 : (s.b.length : Int) - a < n
        · have d3 : decide ((s.b.length : Int) - a < n) = true := by simp [h3]
          go_wp2
          go_ret
          exact ⟨by rw [HE.out, hd, if_neg (by simp), if_pos (.inr (.inr h3))]; rfl, rfl⟩
        · have d3 : decide ((s.b.length : Int) - a < n) = false := by simp; omega
          go_wp2
          go_ret
          exact ⟨by rw [HE.out, hd, if_neg (by simp), if_neg (by omega)]; rfl, rfl⟩
  · rw [hd] at c6
    go_wp2
    go_ret
    exact ⟨by rw [HE.out, hd]; rfl, rfl⟩

theorem len_ok (w : World) (g : Nat) (s : PS) (q cap : Nat) (cur : Array Value) (h : PA w g s q cap cur) : Calls Try.prog 31 #[.pointer (some ⟨g, 0, none⟩)] w fun e w' => e = .returned (.int .i64 (s.b.length : Int)) ∧ w' = w := by
  have hs := stands_ok w g h.made
  have c1 := h.bs
  have hl := h.small
  clear h
  go_enter Try.func31, Try.ntmps31
  go_wp2_with fail
  refine hs.mono ?_
  rintro e w1 ⟨rfl, rfl⟩
  go_wp2
  go_ret
  exact ⟨rfl, rfl⟩
/-- Where n bytes from a on lie, as the program cuts them. -/
def partV (q a n : Nat) : Value := .slice (some ⟨q, if n = 0 then 0 else a, none⟩) n n

theorem part_ok (w : World) (g : Nat) (s : PS) (q cap : Nat) (cur : Array Value) (h : PA w g s q cap cur) (a n : Nat) (han : a + n ≤ s.b.length) :
    Calls Try.prog 29 #[.pointer (some ⟨g, 0, none⟩), .int .i64 (a : Int), .int .i64 (n : Int)] w fun e w' => e = .returned (partV q a n) ∧ w' = w := by
  have c1 := h.bs
  have hl := h.small
  have hf := h.fits
  have hr : cap ≤ 9223372036854775807 := by have := h.room; unfold maxLen at this; omega
  have HP : Hid (partV q a n = .slice (some ⟨q, if n = 0 then 0 else a, none⟩) n n) := rfl
  clear h
  go_enter Try.func29, Try.ntmps29
  go_wp2
  · obtain rfl : n = 0 := by omega
    go_ret
    exact ⟨by rw [HP.out]; rfl, rfl⟩
  · go_ret
    exact ⟨by rw [HP.out, if_neg (by omega)]; rfl, rfl⟩
end Go.Proofs.Ytgnllmcgebonpaa
