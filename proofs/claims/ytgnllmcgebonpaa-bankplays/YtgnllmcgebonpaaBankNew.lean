/-
  The contracts of New, of the program and of the document.
-/
import Derived.Test.YtgnllmcgebonpaaBankSave
namespace Go.Proofs.Ytgnllmcgebonpaa
open Go.ChangeShapes Go.WideShapes Go.ChangeAt Go.RowKit

/-- May banks of n bytes be at a place of a flash of L bytes. -/
def mayB (L : Nat) (a n : Int) : Prop := 0 ≤ n ∧ n ≤ 64 ∧ 0 ≤ a ∧ a ≤ (L : Int) - 2 * (n + 8)

theorem read_zero (w : World) (g : Nat) (s : PS) (F : Nat → Prop) (h : PF w g s F) : Calls Try.prog 30 #[.pointer (some ⟨g, 0, none⟩), .int .i64 0, .int .i64 0] w fun e w' => ∃ d n cd E, (E = 0 ∨ E = 5) ∧ e = .returned (.tuple #[.slice d n cd, .int .i64 E]) ∧ Below w.heap.size w w' := by
  refine (read_ok w g s F h 0 0 (by decide)).mono ?_
  rintro e w' ⟨d, cd, r, E, _, hE, rfl, _, hb⟩
  refine ⟨d, r.length, cd, (E : Int), ?_, rfl, hb⟩
  rw [hE.out]
  unfold checkE
  cases s.dead
  · left; rw [if_neg (by simp), if_neg (by omega)]; rfl
  · right; rfl

theorem bnew_ok (w : World) (g : Nat) (s : PS) (F : Nat → Prop) (h : PF w g s F) (A N : Nat) (hm : mayB s.b.length A N) :
    Calls Try.prog 11 #[.pointer (some ⟨g, 0, none⟩), .int .i64 (A : Int), .int .i64 (N : Int)] w fun e w' => ∃ b, e = .returned (.tuple #[.pointer (some ⟨b, 0, none⟩), .int .i64 0]) ∧ w.heap.size ≤ b ∧ BA w' b g A N ∧ Below w.heap.size w w' := by
  obtain ⟨_, h1, _, h2⟩ := hm
  have hs := read_zero w g s F h
  obtain ⟨q, cap, cur, hpa, _⟩ := id h
  have hsm := hpa.small
  have HLN : Hid (∀ W, Below w.heap.size w W → Calls Try.prog 31 #[.pointer (some ⟨g, 0, none⟩)] W fun e w' => e = .returned (.int .i64 (s.b.length : Int)) ∧ w' = W) := fun W hb => by
    obtain ⟨q, cap, cur, h2, _⟩ := pf_kept.below h hb
    exact len_ok W g s q cap cur h2
  obtain ⟨L, hL⟩ : ∃ L, L = s.b.length := ⟨_, rfl⟩
  rw [← hL] at HLN hsm h2
  have e1 : IntKind.i64.wrap ((N : Int) + 8) = (N : Int) + 8 := by rw [IntKind.wrap_i64]; omega
  have d1 : ¬ ((L : Int) - 2 * ((N : Int) + 8) < (A : Int)) := by omega
  have d0 : ¬ ((64 : Int) < (N : Int)) := by omega
  clear h hpa hL
  go_enter Try.func11, Try.ntmps11
  go_wp2_with fail
  refine hs.mono ?_
  rintro e w1 ⟨d, n, cd, E, hE, rfl, hb⟩
  have hln := HLN.out w1 hb
  clear hs HLN
  rcases hE with rfl | rfl
  all_goals
    go_wp2_with fail
    refine hln.mono ?_
    rintro e w2 ⟨rfl, rfl⟩
    clear hln
    go_wp2
    go_ret2
    exact ⟨w2.heap.size, rfl, hb.size, heap_alloc_new _ _, hb.alloc hb.size _⟩
theorem bnew_refused (w : World) (g : Nat) (s : PS) (F : Nat → Prop) (h : PF w g s F) (a n : Int) (ha : (Lit.int .i64 a).wf = true) (hn : (Lit.int .i64 n).wf = true) (hm : ¬ mayB s.b.length a n) :
    Calls Try.prog 11 #[.pointer (some ⟨g, 0, none⟩), .int .i64 a, .int .i64 n] w fun e w' => e = .returned (.tuple #[.pointer none, .int .i64 1]) ∧ Below w.heap.size w w' := by
  have hs := read_zero w g s F h
  have ha := bounds_i64 ha
  have hn := bounds_i64 hn
  obtain ⟨q, cap, cur, hpa, _⟩ := id h
  have hsm := hpa.small
  have HLN : Hid (∀ W, Below w.heap.size w W → Calls Try.prog 31 #[.pointer (some ⟨g, 0, none⟩)] W fun e w' => e = .returned (.int .i64 (s.b.length : Int)) ∧ w' = W) := fun W hb => by
    obtain ⟨q, cap, cur, h2, _⟩ := pf_kept.below h hb
    exact len_ok W g s q cap cur h2
  obtain ⟨L, hL⟩ : ∃ L, L = s.b.length := ⟨_, rfl⟩
  rw [← hL] at HLN hsm hm
  clear h hpa hL
  by_cases h1 : n < 0
  · clear HLN hm
    go_enter Try.func11, Try.ntmps11
    go_wp2_with fail
    refine hs.mono ?_
    rintro e w1 ⟨d, m, cd, E, hE, rfl, hb⟩
    clear hs
    rcases hE with rfl | rfl
    all_goals
      go_wp2
      go_ret2
      exact ⟨rfl, hb⟩
  · by_cases h2 : 64 < n
    · clear HLN hm
      go_enter Try.func11, Try.ntmps11
      go_wp2_with fail
      refine hs.mono ?_
      rintro e w1 ⟨d, m, cd, E, hE, rfl, hb⟩
      clear hs
      rcases hE with rfl | rfl
      all_goals
        go_wp2
        go_ret2
        exact ⟨rfl, hb⟩
    · by_cases h3 : a < 0
      · clear HLN hm
        go_enter Try.func11, Try.ntmps11
        go_wp2_with fail
        refine hs.mono ?_
        rintro e w1 ⟨d, m, cd, E, hE, rfl, hb⟩
        clear hs
        rcases hE with rfl | rfl
        all_goals
          go_wp2
          go_ret2
          exact ⟨rfl, hb⟩
      · have d1 : (L : Int) - 2 * (n + 8) < a := by unfold mayB at hm; omega
        clear hm
        go_enter Try.func11, Try.ntmps11
        go_wp2_with fail
        refine hs.mono ?_
        rintro e w1 ⟨d, m, cd, E, hE, rfl, hb⟩
        have hln := HLN.out w1 hb
        clear hs HLN
        rcases hE with rfl | rfl
        all_goals
          go_wp2_with fail
          refine hln.mono ?_
          rintro e w2 ⟨rfl, rfl⟩
          clear hln
          go_wp2
          go_ret2
          exact ⟨rfl, hb⟩

/-- A bank of the document's. -/
def RBA (w : World) (b g A N : Nat) : Prop := w.heap[b]? = some (.cells #[.pointer (some ⟨g, 0, none⟩), .int .i64 (A : Int), .int .i64 (N : Int)] 69 (0, 0))
theorem RBA.c0 {w : World} {b g A N : Nat} (h : RBA w b g A N) : w.cell? ⟨b, 0, none⟩ = some (.pointer (some ⟨g, 0, none⟩)) := cell_of_row _ _ 0 _ _ _ h
theorem RBA.c1 {w : World} {b g A N : Nat} (h : RBA w b g A N) : w.cell? ⟨b, 1, none⟩ = some (.int .i64 (A : Int)) := cell_of_row _ _ 1 _ _ _ h
theorem RBA.c2 {w : World} {b g A N : Nat} (h : RBA w b g A N) : w.cell? ⟨b, 2, none⟩ = some (.int .i64 (N : Int)) := cell_of_row _ _ 2 _ _ _ h
theorem RBA.lt {w : World} {b g A N : Nat} (h : RBA w b g A N) : b < w.heap.size := (Array.getElem?_eq_some_iff.1 h).1
theorem RBA.below {w w' : World} {b g A N : Nat} (h : RBA w b g A N) (hb : Below w.heap.size w w') : RBA w' b g A N := by
  show w'.heap[b]? = _
  rw [hb.block b h.lt]; exact h

theorem rbnew_ok (w : World) (r : Nat) (t : RS) (G : Nat → Prop) (h : RF w r t G) (A N : Nat) (hm : mayB t.b.length A N) :
    Calls Try.prog 12 #[.pointer (some ⟨r, 0, none⟩), .int .i64 (A : Int), .int .i64 (N : Int)] w fun e w' => ∃ b, e = .returned (.tuple #[.pointer (some ⟨b, 0, none⟩), .int .i64 0]) ∧ w.heap.size ≤ b ∧ RBA w' b r A N ∧ Below w.heap.size w w' := by
  obtain ⟨_, h1, _, h2⟩ := hm
  obtain ⟨v, hra, _⟩ := h
  obtain ⟨a0, cap, rfl, hs⟩ := hra.sees
  have c0 := hra.c0
  have hsm := hra.small
  obtain ⟨L, hL⟩ : ∃ L, L = t.b.length := ⟨_, rfl⟩
  rw [← hL] at c0 hsm h2
  have e1 : IntKind.i64.wrap ((N : Int) + 8) = (N : Int) + 8 := by rw [IntKind.wrap_i64]; omega
  have d1 : ¬ ((L : Int) - 2 * ((N : Int) + 8) < (A : Int)) := by omega
  have d0 : ¬ ((64 : Int) < (N : Int)) := by omega
  clear hra hs hL
  go_enter Try.func12, Try.ntmps12
  go_wp2
  go_ret2
  exact ⟨w.heap.size, rfl, Nat.le_refl _, heap_alloc_new _ _, (Below.refl _ _).alloc (Nat.le_refl _) _⟩
theorem rbnew_refused (w : World) (r : Nat) (t : RS) (G : Nat → Prop) (h : RF w r t G) (a n : Int) (ha : (Lit.int .i64 a).wf = true) (hn : (Lit.int .i64 n).wf = true) (hm : ¬ mayB t.b.length a n) :
    Calls Try.prog 12 #[.pointer (some ⟨r, 0, none⟩), .int .i64 a, .int .i64 n] w fun e w' => e = .returned (.tuple #[.pointer none, .int .i64 1]) ∧ w' = w := by
  have ha := bounds_i64 ha
  have hn := bounds_i64 hn
  obtain ⟨v, hra, _⟩ := h
  obtain ⟨a0, cap, rfl, hs⟩ := hra.sees
  have c0 := hra.c0
  have hsm := hra.small
  obtain ⟨L, hL⟩ : ∃ L, L = t.b.length := ⟨_, rfl⟩
  rw [← hL] at c0 hsm hm
  clear hra hs hL
  by_cases h1 : n < 0
  · clear hm
    go_enter Try.func12, Try.ntmps12
    go_wp2
    go_ret2
    exact ⟨rfl, rfl⟩
  · by_cases h2 : 64 < n
    · clear hm
      go_enter Try.func12, Try.ntmps12
      go_wp2
      go_ret2
      exact ⟨rfl, rfl⟩
    · by_cases h3 : a < 0
      · clear hm
        go_enter Try.func12, Try.ntmps12
        go_wp2
        go_ret2
        exact ⟨rfl, rfl⟩
      · have d1 : (L : Int) - 2 * (n + 8) < a := by unfold mayB at hm; omega
        clear hm
        go_enter Try.func12, Try.ntmps12
        go_wp2
        go_ret2
        exact ⟨rfl, rfl⟩
end Go.Proofs.Ytgnllmcgebonpaa
