/-
  What a nil bank, and one that no call made, answers.
-/
import Derived.Test.YtgnllmcgebonpaaBankCont
namespace Go.Proofs.Ytgnllmcgebonpaa
open Go.ChangeShapes Go.WideShapes Go.ChangeAt Go.RowKit

/-- A nil bank, or one that no call made. -/
def NoB (w : World) (p : Value) : Prop := p = .pointer none ∨ ∃ g, p = .pointer (some ⟨g, 0, none⟩) ∧ w.cell? ⟨g, 0, none⟩ = some (.pointer none)
theorem NoB.below {w w' : World} {p : Value} (h : NoB w p) (hb : Below w.heap.size w w') : NoB w' p := by
  rcases h with h | ⟨g, h, hc⟩
  · exact .inl h
  · exact .inr ⟨g, h, by rw [hb.cell (World.block_lt_of_cell? w _ hc)]; exact hc⟩

theorem bstands_no (w : World) (p : Value) (h : NoB w p) : Calls Try.prog 33 #[p] w fun e w' => e = .returned (.bool false) ∧ w' = w := by
  rcases h with rfl | ⟨g, rfl, hc⟩
  · go_enter Try.func33, Try.ntmps33
    go_wp2
    go_ret
    exact ⟨rfl, rfl⟩
  · go_enter Try.func33, Try.ntmps33
    go_wp2
    go_ret
    exact ⟨rfl, rfl⟩
theorem those_no (w : World) (p f : Value) (h : NoB w p) : Calls Try.prog 43 #[p, f] w fun e w' => e = .returned (.tuple #[.slice none 0 0, .int .i64 7]) ∧ w' = w := by
  have hs := bstands_no w p h
  clear h
  go_enter Try.func43, Try.ntmps43
  go_wp2_with fail
  refine hs.mono ?_
  rintro e w1 ⟨rfl, rfl⟩
  go_wp2
  go_ret2
  exact ⟨rfl, rfl⟩
theorem newest_no (w : World) (p : Value) (h : NoB w p) : Calls Try.prog 34 #[p] w fun e w' => e = .returned (.tuple #[.agg #[.slice none 0 0, .int .i64 0], .bool false, .int .i64 7]) ∧ Below w.heap.size w w' := by
  have hb : Below w.heap.size w (w.alloc (.cells #[.slice none 0 0, .int .i64 0] 72)) := (Below.refl _ _).alloc (Nat.le_refl _) _
  have hs := those_no _ p (.func (.methodOf 72 "carillon/bank.whole") #[] #[]) (h.below hb)
  have HC := Cont.new w (.slice none 0 0) (.int .i64 0)
  obtain ⟨x0, x1, x2, x3⟩ := HC.facts
  have HC : Hid (Cont (w.alloc (.cells #[.slice none 0 0, .int .i64 0] 72)) w.heap.size (.slice none 0 0) (.int .i64 0)) := HC
  clear h
  go_enter Try.func34, Try.ntmps34
  go_wp2_with fail
  refine hs.mono ?_
  rintro e w1 ⟨rfl, rfl⟩
  go_wp2
  refine bodyPost_ret (res_cont3 rfl rfl HC.out) rfl ?_
  exact ⟨rfl, hb⟩
theorem load_no (w : World) (p : Value) (h : NoB w p) : Calls Try.prog 19 #[p] w fun e w' => e = .returned (.tuple #[.slice none 0 0, .int .i64 7]) ∧ Below w.heap.size w w' := by
  have hs := newest_no w p h
  clear h
  go_enter Try.func19, Try.ntmps19
  go_wp2_with fail
  refine hs.mono ?_
  rintro e w1 ⟨rfl, hb⟩
  clear hs
  go_wp2
  go_ret2
  exact ⟨rfl, hb.alloc hb.size _⟩
theorem number_no (w : World) (p : Value) (h : NoB w p) : Calls Try.prog 21 #[p] w fun e w' => e = .returned (.int .u32 0) ∧ Below w.heap.size w w' := by
  have hs := newest_no w p h
  clear h
  go_enter Try.func21, Try.ntmps21
  go_wp2_with fail
  refine hs.mono ?_
  rintro e w1 ⟨rfl, hb⟩
  clear hs
  go_wp2
  go_ret
  exact ⟨rfl, hb.alloc hb.size _⟩
theorem size_no (w : World) (p : Value) (h : NoB w p) : Calls Try.prog 25 #[p] w fun e w' => e = .returned (.int .i64 0) ∧ w' = w := by
  have hs := bstands_no w p h
  clear h
  go_enter Try.func25, Try.ntmps25
  go_wp2_with fail
  refine hs.mono ?_
  rintro e w1 ⟨rfl, rfl⟩
  go_wp2
  go_ret
  exact ⟨rfl, rfl⟩
theorem fresh_no (w : World) (p : Value) (h : NoB w p) : Calls Try.prog 23 #[p] w fun e w' => e = .returned (.bool false) ∧ w' = w := by
  have hs := those_no w p (.func (.methodOf 72 "carillon/bank.signed") #[] #[]) h
  clear h
  go_enter Try.func23, Try.ntmps23
  go_wp2_with fail
  refine hs.mono ?_
  rintro e w1 ⟨rfl, rfl⟩
  go_wp2
  go_ret
  exact ⟨rfl, rfl⟩
theorem save_no (w : World) (p : Value) (h : NoB w p) (x : Option Addr) (l c : Nat) : Calls Try.prog 15 #[p, .slice x l c] w fun e w' => e = .returned (.int .i64 7) ∧ w' = w := by
  have hs := bstands_no w p h
  clear h
  go_enter Try.func15, Try.ntmps15
  go_wp2_with fail
  refine hs.mono ?_
  rintro e w1 ⟨rfl, rfl⟩
  go_wp2
  go_ret
  exact ⟨rfl, rfl⟩
theorem bnew_no (w : World) (p : Value) (h : NoF w p) (a n : Int) : Calls Try.prog 11 #[p, .int .i64 a, .int .i64 n] w fun e w' => e = .returned (.tuple #[.pointer none, .int .i64 7]) ∧ w' = w := by
  have hs := read_no w p h 0 0
  clear h
  go_enter Try.func11, Try.ntmps11
  go_wp2_with fail
  refine hs.mono ?_
  rintro e w1 ⟨rfl, rfl⟩
  go_wp2
  go_ret2
  exact ⟨rfl, rfl⟩
end Go.Proofs.Ytgnllmcgebonpaa
