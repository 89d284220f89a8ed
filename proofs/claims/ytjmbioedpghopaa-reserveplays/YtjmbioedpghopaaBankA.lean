/-
  What stands in a bank, as two cells in memory.

  What a nil bank, and one that no call made, answers.
-/
import Derived.Test.YtjmbioedpghopaaFlashA
namespace Go.Proofs.Ytjmbioedpghopaa
open Go.ChangeShapes Go.WideShapes Go.ChangeAt Go.RowKit

/-- Block g holds what stands in a bank: its row, and which bank. -/
def Cont (w : World) (g : Nat) (x y : Value) : Prop := w.heap[g]? = some (.cells #[x, y] 121 (0, 0))
theorem Cont.c0 {w : World} {g : Nat} {x y : Value} (h : Cont w g x y) : w.cell? ⟨g, 0, none⟩ = some x := cell_of_row _ _ 0 _ _ _ h
theorem Cont.c1 {w : World} {g : Nat} {x y : Value} (h : Cont w g x y) : w.cell? ⟨g, 1, none⟩ = some y := cell_of_row _ _ 1 _ _ _ h
theorem Cont.f0 {w : World} {g : Nat} {x y : Value} (h : Cont w g x y) (i : Nat) : w.frozen? ⟨g, i, none⟩ = false := frozen_of_row _ _ i _ _ h
theorem Cont.lt {w : World} {g : Nat} {x y : Value} (h : Cont w g x y) : g < w.heap.size := (Array.getElem?_eq_some_iff.1 h).1
theorem Cont.below {w w' : World} {g : Nat} {x y : Value} (h : Cont w g x y) (hb : Below w.heap.size w w') : Cont w' g x y := by
  show w'.heap[g]? = _
  rw [hb.block g h.lt]; exact h
theorem Cont.new (w : World) (x y : Value) : Cont (w.alloc (.cells #[x, y] 121)) w.heap.size x y := heap_alloc_new _ _
theorem Cont.alloc {w : World} {g : Nat} {x y : Value} (h : Cont w g x y) (o : Obj) : Cont (w.alloc o) g x y := by
  show (w.heap.push o)[g]? = _
  rw [Array.getElem?_push, if_neg (Nat.ne_of_lt h.lt)]; exact h
/-- Both cells stored. -/
theorem Cont.set {w : World} {g : Nat} {x y : Value} (h : Cont w g x y) (u v : Value) : Cont ((w.setCell ⟨g, 0, none⟩ u).setCell ⟨g, 1, none⟩ v) g u v := by
  have h1 : (w.setCell ⟨g, 0, none⟩ u).heap[g]? = some (.cells #[u, y] 121 (0, 0)) := by rw [heap_setCell_same _ _ _ _ _ _ h]; rfl
  show ((w.setCell ⟨g, 0, none⟩ u).setCell ⟨g, 1, none⟩ v).heap[g]? = _
  rw [heap_setCell_same _ _ _ _ _ _ h1]; rfl
theorem Cont.other {w : World} {g k : Nat} {x y : Value} (h : Cont w g x y) (hk : g ≠ k) (i : Nat) (v : Value) : Cont (w.setCell ⟨k, i, none⟩ v) g x y := by
  show (w.setCell ⟨k, i, none⟩ v).heap[g]? = _
  rw [heap_setCell_other _ _ _ _ hk]; exact h
theorem Cont.facts {w : World} {g : Nat} {x y : Value} (h : Cont w g x y) : w.cell? ⟨g, 0, none⟩ = some x ∧ w.cell? ⟨g, 1, none⟩ = some y ∧ w.frozen? ⟨g, 0, none⟩ = false ∧ w.frozen? ⟨g, 1, none⟩ = false := ⟨h.c0, h.c1, h.f0 0, h.f0 1⟩
theorem below_pair {W w : World} {B g : Nat} (h : Below B W w) (hg : B ≤ g) (x y : Value) : Below B W ((w.setCell ⟨g, 0, none⟩ x).setCell ⟨g, 1, none⟩ y) := (h.setCell (p := ⟨g, 0, none⟩) hg x).setCell (p := ⟨g, 1, none⟩) hg y
/-- The results of a function that answers what lies in memory; with two more. -/
theorem res_cont {fn : Func} {p : Tmp} (h : fn.results = #[.cell p 121]) {tmps : Array Value} {w : World} {g : Nat} {x y : Value} (hp : tmps.getD p undef = .pointer (some ⟨g, 0, none⟩)) (hg : Cont w g x y) :
    (results fn tmps).run Try.prog w = .ok (.agg #[x, y]) w :=
  results_cell_row h tmps w g 121 _ (0, 0) _ hp hg Try.underlying121 rfl (by kernel_rfl)
theorem res_cont3 {fn : Func} {p q r : Tmp} (h : fn.results = #[.cell p 121, .tmp q, .tmp r]) {tmps : Array Value} {w : World} {g : Nat} {x y : Value} (hp : tmps.getD p undef = .pointer (some ⟨g, 0, none⟩)) (hg : Cont w g x y) :
    (results fn tmps).run Try.prog w = .ok (.tuple #[.agg #[x, y], tmps.getD q undef, tmps.getD r undef]) w := by
  have hp' : tmps[p]?.getD undef = .pointer (some ⟨g, 0, none⟩) := by simpa using hp
  have h1 := run_loadVar_row (P := Try.prog) w g 121 121 _ (0, 0) _ hg Try.underlying121 rfl (by kernel_rfl)
  simp [results, h, hp', asAddr, h1]
end Go.Proofs.Ytjmbioedpghopaa

namespace Go.Proofs.Ytjmbioedpghopaa
open Go.ChangeShapes Go.WideShapes Go.ChangeAt Go.RowKit

/-- A nil bank, or one that no call made. -/
def NoB (w : World) (p : Value) : Prop := p = .pointer none ∨ ∃ g, p = .pointer (some ⟨g, 0, none⟩) ∧ w.cell? ⟨g, 0, none⟩ = some (.pointer none)
theorem NoB.below {w w' : World} {p : Value} (h : NoB w p) (hb : Below w.heap.size w w') : NoB w' p := by
  rcases h with h | ⟨g, h, hc⟩
  · exact .inl h
  · exact .inr ⟨g, h, by rw [hb.cell (World.block_lt_of_cell? w _ hc)]; exact hc⟩

theorem bstands_no (w : World) (p : Value) (h : NoB w p) : Calls Try.prog 56 #[p] w fun e w' => e = .returned (.bool false) ∧ w' = w := by
  rcases h with rfl | ⟨g, rfl, hc⟩
  · go_enter Try.func56, Try.ntmps56
    go_wp2
    go_ret
    exact ⟨rfl, rfl⟩
  · go_enter Try.func56, Try.ntmps56
    go_wp2
    go_ret
    exact ⟨rfl, rfl⟩
theorem those_no (w : World) (p f : Value) (h : NoB w p) : Calls Try.prog 71 #[p, f] w fun e w' => e = .returned (.tuple #[.slice none 0 0, .int .i64 7]) ∧ w' = w := by
  have hs := bstands_no w p h
  clear h
  go_enter Try.func71, Try.ntmps71
  go_wp2_with fail
  refine hs.mono ?_
  rintro e w1 ⟨rfl, rfl⟩
  go_wp2
  go_ret2
  exact ⟨rfl, rfl⟩
theorem newest_no (w : World) (p : Value) (h : NoB w p) : Calls Try.prog 65 #[p] w fun e w' => e = .returned (.tuple #[.agg #[.slice none 0 0, .int .i64 0], .bool false, .int .i64 7]) ∧ Below w.heap.size w w' := by
  have hb : Below w.heap.size w (w.alloc (.cells #[.slice none 0 0, .int .i64 0] 121)) := (Below.refl _ _).alloc (Nat.le_refl _) _
  have hs := those_no _ p (.func (.methodOf 121 "carillon/bank.whole") #[] #[]) (h.below hb)
  have HC := Cont.new w (.slice none 0 0) (.int .i64 0)
  obtain ⟨x0, x1, x2, x3⟩ := HC.facts
  have HC : Hid (Cont (w.alloc (.cells #[.slice none 0 0, .int .i64 0] 121)) w.heap.size (.slice none 0 0) (.int .i64 0)) := HC
  clear h
  go_enter Try.func65, Try.ntmps65
  go_wp2_with fail
  refine hs.mono ?_
  rintro e w1 ⟨rfl, rfl⟩
  go_wp2
  refine bodyPost_ret (res_cont3 rfl rfl HC.out) rfl ?_
  exact ⟨rfl, hb⟩
theorem load_no (w : World) (p : Value) (h : NoB w p) : Calls Try.prog 57 #[p] w fun e w' => e = .returned (.tuple #[.slice none 0 0, .int .i64 7]) ∧ Below w.heap.size w w' := by
  have hs := newest_no w p h
  clear h
  go_enter Try.func57, Try.ntmps57
  go_wp2_with fail
  refine hs.mono ?_
  rintro e w1 ⟨rfl, hb⟩
  clear hs
  go_wp2
  go_ret2
  exact ⟨rfl, hb.alloc hb.size _⟩
theorem size_no (w : World) (p : Value) (h : NoB w p) : Calls Try.prog 42 #[p] w fun e w' => e = .returned (.int .i64 0) ∧ w' = w := by
  have hs := bstands_no w p h
  clear h
  go_enter Try.func42, Try.ntmps42
  go_wp2_with fail
  refine hs.mono ?_
  rintro e w1 ⟨rfl, rfl⟩
  go_wp2
  go_ret
  exact ⟨rfl, rfl⟩
theorem fresh_no (w : World) (p : Value) (h : NoB w p) : Calls Try.prog 58 #[p] w fun e w' => e = .returned (.bool false) ∧ w' = w := by
  have hs := those_no w p (.func (.methodOf 121 "carillon/bank.signed") #[] #[]) h
  clear h
  go_enter Try.func58, Try.ntmps58
  go_wp2_with fail
  refine hs.mono ?_
  rintro e w1 ⟨rfl, rfl⟩
  go_wp2
  go_ret
  exact ⟨rfl, rfl⟩
theorem save_no (w : World) (p : Value) (h : NoB w p) (x : Option Addr) (l c : Nat) : Calls Try.prog 52 #[p, .slice x l c] w fun e w' => e = .returned (.int .i64 7) ∧ w' = w := by
  have hs := bstands_no w p h
  clear h
  go_enter Try.func52, Try.ntmps52
  go_wp2_with fail
  refine hs.mono ?_
  rintro e w1 ⟨rfl, rfl⟩
  go_wp2
  go_ret
  exact ⟨rfl, rfl⟩
theorem bnew_no (w : World) (p : Value) (h : NoF w p) (a n : Int) : Calls Try.prog 31 #[p, .int .i64 a, .int .i64 n] w fun e w' => e = .returned (.tuple #[.pointer none, .int .i64 7]) ∧ w' = w := by
  have hs := read_no w p h 0 0
  clear h
  go_enter Try.func31, Try.ntmps31
  go_wp2_with fail
  refine hs.mono ?_
  rintro e w1 ⟨rfl, rfl⟩
  go_wp2
  go_ret2
  exact ⟨rfl, rfl⟩
end Go.Proofs.Ytjmbioedpghopaa
