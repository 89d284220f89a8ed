/-
  The contracts of Make, Shift, Middle, Meet, Hull, Holds and Inside, of the program and of the document.
-/
import Derived.Test.YtfifcfdlmpgohaaIvalParts
namespace Go.Proofs.Ytfifcfdlmpgohaa
open Go.ChangeShapes Go.WideShapes Go.ChangeAt Go.RowKit

/-- An interval and an error; the error alone. -/
def okV (a b : Int) : Value := .tuple #[.agg #[.int .i64 a, .int .i64 b], .int .i64 0]
def errV (n : Int) : Value := .tuple #[.agg #[.int .i64 0, .int .i64 0], .int .i64 n]
def makeV (a b : Int) : Value := if rightB a b = true then okV a b else errV 1
def meetV (a b c d : Int) : Value := if rightB a b = true ∧ rightB c d = true then (if rightB (mxN a c) (mnN b d) = true then okV (mxN a c) (mnN b d) else errV 6) else errV 1
def hullV (a b c d : Int) : Value := if rightB a b = true ∧ rightB c d = true then okV (mnN a c) (mxN b d) else errV 1
def shiftV (a b n : Int) : Value := if rightB a b = true ∧ -2199023255552 ≤ n ∧ n ≤ 2199023255552 then makeV (a + n) (b + n) else errV 1
def middleV (a b : Int) : Value := if rightB a b = true then .tuple #[.int .i64 ((a + b).tdiv 2), .int .i64 0] else .tuple #[.int .i64 0, .int .i64 1]
def insideB (a b e : Int) : Bool := rightB a b && decide (0 ≤ e ∧ -e ≤ a ∧ b ≤ e)

/-- A call of Right, as the walks take it. -/
theorem Pair.facts {w : World} {g : Nat} {a b : Int} (h : Pair w g a b) : w.cell? ⟨g, 0, none⟩ = some (.int .i64 a) ∧ w.cell? ⟨g, 1, none⟩ = some (.int .i64 b) ∧ w.frozen? ⟨g, 0, none⟩ = false ∧ w.frozen? ⟨g, 1, none⟩ = false := ⟨h.c0, h.c1, h.f0 0, h.f0 1⟩
theorem below_pair {W w : World} {B g : Nat} (h : Below B W w) (hg : B ≤ g) (x y : Value) : Below B W ((w.setCell ⟨g, 0, none⟩ x).setCell ⟨g, 1, none⟩ y) := (h.setCell (p := ⟨g, 0, none⟩) hg x).setCell (p := ⟨g, 1, none⟩) hg y


theorem meet_below (w : World) (a b c d : Int) :
    Calls Try.prog 30 #[.agg #[.int .i64 a, .int .i64 b], .agg #[.int .i64 c, .int .i64 d]] w fun e w' => e = .returned (.agg #[.int .i64 (mxN a c), .int .i64 (mnN b d)]) ∧ Below w.heap.size w w' :=
  (meet_ok w a b c d).mono fun _ _ ⟨he, hw⟩ => ⟨he, by rw [hw]; exact Go.Joins.below_alloc3 _ _ _ _⟩

/-- One box and the result's; two boxes and the result's: what a call leaves of them. -/
theorem boxes2 {w w1 : World} {a b : Int} (hb : Below ((w.alloc (.cells #[.int .i64 a, .int .i64 b] 43)).alloc (.cells #[.int .i64 0, .int .i64 0] 43)).heap.size ((w.alloc (.cells #[.int .i64 a, .int .i64 b] 43)).alloc (.cells #[.int .i64 0, .int .i64 0] 43)) w1) :
    Pair w1 w.heap.size a b ∧ Pair w1 (w.heap.size + 1) 0 0 ∧ Below w.heap.size w w1 :=
  ⟨((Pair.new w a b).alloc _).below hb, (by simpa using Pair.new (w.alloc (.cells #[.int .i64 a, .int .i64 b] 43)) 0 0 : Pair ((w.alloc (.cells #[.int .i64 a, .int .i64 b] 43)).alloc (.cells #[.int .i64 0, .int .i64 0] 43)) (w.heap.size + 1) 0 0).below hb,
    (Go.Joins.below_alloc2 _ _ _).trans (hb.mono (by simp; omega))⟩
theorem boxes3 {w w1 : World} {a b c d : Int} (hb : Below (((w.alloc (.cells #[.int .i64 a, .int .i64 b] 43)).alloc (.cells #[.int .i64 c, .int .i64 d] 43)).alloc (.cells #[.int .i64 0, .int .i64 0] 43)).heap.size (((w.alloc (.cells #[.int .i64 a, .int .i64 b] 43)).alloc (.cells #[.int .i64 c, .int .i64 d] 43)).alloc (.cells #[.int .i64 0, .int .i64 0] 43)) w1) :
    Pair w1 w.heap.size a b ∧ Pair w1 (w.heap.size + 1) c d ∧ Pair w1 (w.heap.size + 1 + 1) 0 0 ∧ Below w.heap.size w w1 :=
  ⟨(((Pair.new w a b).alloc _).alloc _).below hb, ((by simpa using Pair.new (w.alloc (.cells #[.int .i64 a, .int .i64 b] 43)) c d : Pair ((w.alloc (.cells #[.int .i64 a, .int .i64 b] 43)).alloc (.cells #[.int .i64 c, .int .i64 d] 43)) (w.heap.size + 1) c d).alloc _).below hb,
    (by simpa using Pair.new ((w.alloc (.cells #[.int .i64 a, .int .i64 b] 43)).alloc (.cells #[.int .i64 c, .int .i64 d] 43)) 0 0 : Pair (((w.alloc (.cells #[.int .i64 a, .int .i64 b] 43)).alloc (.cells #[.int .i64 c, .int .i64 d] 43)).alloc (.cells #[.int .i64 0, .int .i64 0] 43)) (w.heap.size + 1 + 1) 0 0).below hb,
    (Go.Joins.below_alloc3 _ _ _ _).trans (hb.mono (by simp; omega))⟩
/-- One box: what a call leaves of it. -/
theorem boxes1 {w w1 : World} {a b : Int} (hb : Below (w.alloc (.cells #[.int .i64 a, .int .i64 b] 43)).heap.size (w.alloc (.cells #[.int .i64 a, .int .i64 b] 43)) w1) : Pair w1 w.heap.size a b ∧ Below w.heap.size w w1 :=
  ⟨(Pair.new w a b).below hb, (Go.Joins.below_alloc1 _ _).trans (hb.mono (by simp))⟩


set_option maxHeartbeats 1600000 in
set_option maxRecDepth 20000 in
theorem middle_ok (w : World) (a b : Int) :
    Calls Try.prog 23 #[.agg #[.int .i64 a, .int .i64 b]] w fun e w' => e = .returned (middleV a b) ∧ Below w.heap.size w w' := by
  have K1 : Hid (∀ W, Calls Try.prog 19 #[.agg #[.int .i64 a, .int .i64 b]] W fun e w' => e = .returned (.bool (rightB a b)) ∧ Below W.heap.size W w') := fun W => isright_ok W a b
  unfold middleV
  cases h1 : rightB a b
  · rw [h1] at K1
    rw [if_neg (by simp)]
    clear h1
    go_enter Try.func23, Try.ntmps23
    go_wp2_with fail
    refine (K1.out _).mono ?_
    rintro e w1 ⟨rfl, hb⟩
    clear K1
    obtain ⟨P2, bel⟩ := boxes1 hb
    clear hb P2
    go_wp2
    go_ret2
    exact ⟨rfl, bel⟩
  · rw [h1] at K1
    rw [if_pos rfl]
    have hr := rightB_true h1
    obtain ⟨s, hs⟩ : ∃ s, s = a + b := ⟨_, rfl⟩
    rw [← hs]
    have e1 : IntKind.i64.wrap (a + b) = s := by rw [hs, IntKind.wrap_i64]; omega
    have hb2 : -1099511627776 ≤ s.tdiv 2 ∧ s.tdiv 2 ≤ 1099511627776 := by
      rcases Int.le_total 0 s with h0 | h0
      · rw [Int.tdiv_eq_ediv_of_nonneg h0]; omega
      · obtain ⟨u, hu⟩ : ∃ u, s = -u := ⟨-s, by omega⟩
        rw [hu, Int.neg_tdiv, Int.tdiv_eq_ediv_of_nonneg (by omega)]; omega
    obtain ⟨v, hv⟩ : ∃ v, v = s.tdiv 2 := ⟨_, rfl⟩
    rw [← hv] at hb2 ⊢
    have e2 : s.tdiv 2 = v := hv.symm
    have e3 : IntKind.i64.wrap v = v := by rw [IntKind.wrap_i64]; omega
    clear hs hv h1 hb2 hr
    go_enter Try.func23, Try.ntmps23
    go_wp2_with fail
    refine (K1.out _).mono ?_
    rintro e w1 ⟨rfl, hb⟩
    clear K1
    obtain ⟨P2, bel⟩ := boxes1 hb
    obtain ⟨x0, x1, x2, x3⟩ := P2.facts
    clear hb P2
    go_wp2
    go_ret2
    exact ⟨rfl, bel⟩

set_option maxHeartbeats 1600000 in
set_option maxRecDepth 20000 in
theorem refmiddle_ok (w : World) (a b : Int) :
    Calls Try.prog 24 #[.agg #[.int .i64 a, .int .i64 b]] w fun e w' => e = .returned (middleV a b) ∧ Below w.heap.size w w' := by
  have K1 : Hid (∀ W, Calls Try.prog 29 #[.agg #[.int .i64 a, .int .i64 b]] W fun e w' => e = .returned (.bool (rightB a b)) ∧ Below W.heap.size W w') := fun W => refright_ok W a b
  unfold middleV
  cases h1 : rightB a b
  · rw [h1] at K1
    rw [if_neg (by simp)]
    clear h1
    go_enter Try.func24, Try.ntmps24
    go_wp2_with fail
    refine (K1.out _).mono ?_
    rintro e w1 ⟨rfl, hb⟩
    clear K1
    obtain ⟨P2, bel⟩ := boxes1 hb
    clear hb P2
    go_wp2
    go_ret2
    exact ⟨rfl, bel⟩
  · rw [h1] at K1
    rw [if_pos rfl]
    have hr := rightB_true h1
    obtain ⟨s, hs⟩ : ∃ s, s = a + b := ⟨_, rfl⟩
    rw [← hs]
    have e1 : IntKind.i64.wrap (a + b) = s := by rw [hs, IntKind.wrap_i64]; omega
    have hb2 : -1099511627776 ≤ s.tdiv 2 ∧ s.tdiv 2 ≤ 1099511627776 := by
      rcases Int.le_total 0 s with h0 | h0
      · rw [Int.tdiv_eq_ediv_of_nonneg h0]; omega
      · obtain ⟨u, hu⟩ : ∃ u, s = -u := ⟨-s, by omega⟩
        rw [hu, Int.neg_tdiv, Int.tdiv_eq_ediv_of_nonneg (by omega)]; omega
    obtain ⟨v, hv⟩ : ∃ v, v = s.tdiv 2 := ⟨_, rfl⟩
    rw [← hv] at hb2 ⊢
    have e2 : s.tdiv 2 = v := hv.symm
    have e3 : IntKind.i64.wrap v = v := by rw [IntKind.wrap_i64]; omega
    clear hs hv h1 hb2 hr
    go_enter Try.func24, Try.ntmps24
    go_wp2_with fail
    refine (K1.out _).mono ?_
    rintro e w1 ⟨rfl, hb⟩
    clear K1
    obtain ⟨P2, bel⟩ := boxes1 hb
    obtain ⟨x0, x1, x2, x3⟩ := P2.facts
    clear hb P2
    go_wp2
    go_ret2
    exact ⟨rfl, bel⟩
end Go.Proofs.Ytfifcfdlmpgohaa
