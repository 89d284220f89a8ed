/-
  The contracts of meet, lies and Right.
-/
import Derived.Test.YtfifcfdlmpgohaaIvalMath
import Derived.Test.YtfifcfdlmpgohaaDraws
import Derived.Test.YtfifcfdlmpgohaaRows
import Derived.Laws.StructEq
import Derived.Lib.SmallJoins
namespace Go.Proofs.Ytfifcfdlmpgohaa
open Go.ChangeShapes Go.WideShapes Go.ChangeAt Go.RowKit

/-- Two intervals compared. -/
theorem eqIv (a b c d : Int) (w : World) : (binOp .eql 43 (.agg #[.int .i64 a, .int .i64 b]) (.agg #[.int .i64 c, .int .i64 d])).run Try.prog w = .ok (.bool (a == c && b == d)) w := by
  have u3 := Try.underlying2
  have a3 := Try.isAgg2
  have z3 := Try.sizeOf2
  have hS : Try.prog.underlying 43 = some (.struct (Try.prog.fieldsOf 43)) := by kernel_rfl
  have hp : Try.prog.stoodInHeld 43 = false := by kernel_rfl
  rw [run_eql_struct, show (10000 : Nat) = 9999 + 1 from rfl, run_equalIn_agg w 9999 43 _ _ hS hp]
  simp only [Program.fieldsOf, Try.underlying43]
  go_simp
  by_cases h1 : a = c <;> by_cases h2 : b = d <;> simp [h1, h2]
theorem neqIv (a b c d : Int) (w : World) : (binOp .neq 43 (.agg #[.int .i64 a, .int .i64 b]) (.agg #[.int .i64 c, .int .i64 d])).run Try.prog w = .ok (.bool (!(a == c && b == d))) w := by
  have h := eqIv a b c d w
  rw [run_eql_struct] at h
  rw [run_neq_struct]
  generalize (Op.equalIn 10000 43 (.agg #[.int .i64 a, .int .i64 b]) (.agg #[.int .i64 c, .int .i64 d])).run Try.prog w = r at h ⊢
  cases r <;> simp_all [Result.andThen]

/-- Block g of w holds the interval from a to b. -/
def Pair (w : World) (g : Nat) (a b : Int) : Prop := w.heap[g]? = some (.cells #[.int .i64 a, .int .i64 b] 43 (0, 0))
theorem Pair.c0 {w : World} {g : Nat} {a b : Int} (h : Pair w g a b) : w.cell? ⟨g, 0, none⟩ = some (.int .i64 a) := by unfold Pair at h; simp [World.cell?, h]
theorem Pair.c1 {w : World} {g : Nat} {a b : Int} (h : Pair w g a b) : w.cell? ⟨g, 1, none⟩ = some (.int .i64 b) := by unfold Pair at h; simp [World.cell?, h]
theorem Pair.f0 {w : World} {g : Nat} {a b : Int} (h : Pair w g a b) (i : Nat) : w.frozen? ⟨g, i, none⟩ = false := by unfold Pair at h; simp [World.frozen?, h]
theorem Pair.lt {w : World} {g : Nat} {a b : Int} (h : Pair w g a b) : g < w.heap.size := by
  rcases Nat.lt_or_ge g w.heap.size with h' | h'
  · exact h'
  · unfold Pair at h; rw [Array.getElem?_eq_none h'] at h; cases h
theorem Pair.below {w w' : World} {g : Nat} {a b : Int} (h : Pair w g a b) (hb : Below w.heap.size w w') : Pair w' g a b := by
  show w'.heap[g]? = _
  rw [hb.block g h.lt]; exact h
theorem Pair.new (w : World) (a b : Int) : Pair (w.alloc (.cells #[.int .i64 a, .int .i64 b] 43)) w.heap.size a b := heap_alloc_new _ _
theorem Pair.alloc {w : World} {g : Nat} {a b : Int} (h : Pair w g a b) (o : Obj) : Pair (w.alloc o) g a b := by
  show (w.alloc o).heap[g]? = _
  show (w.heap.push o)[g]? = _
  rw [Array.getElem?_push, if_neg (Nat.ne_of_lt h.lt)]; exact h
/-- Both cells stored. -/
theorem Pair.set {w : World} {g : Nat} {a b : Int} (h : Pair w g a b) (c d : Int) : Pair ((w.setCell ⟨g, 0, none⟩ (.int .i64 c)).setCell ⟨g, 1, none⟩ (.int .i64 d)) g c d := by
  have h1 := Go.Joins.block_setCell (i := 0) h (.int .i64 c)
  exact Go.Joins.block_setCell (i := 1) h1 (.int .i64 d)
/-- The results of a function that answers an interval that lies in memory; with an error. -/
theorem res_pair {fn : Func} {p : Tmp} (h : fn.results = #[.cell p 43]) {tmps : Array Value} {w : World} {g : Nat} {a b : Int} (hp : tmps.getD p undef = .pointer (some ⟨g, 0, none⟩)) (hg : Pair w g a b) :
    (results fn tmps).run Try.prog w = .ok (.agg #[.int .i64 a, .int .i64 b]) w :=
  results_cell_row h tmps w g 43 _ (0, 0) _ hp hg Try.underlying43 rfl (by kernel_rfl)
theorem res_pair_tmp {fn : Func} {p q : Tmp} (h : fn.results = #[.cell p 43, .tmp q]) {tmps : Array Value} {w : World} {g : Nat} {a b : Int} (hp : tmps.getD p undef = .pointer (some ⟨g, 0, none⟩)) (hg : Pair w g a b) :
    (results fn tmps).run Try.prog w = .ok (.tuple #[.agg #[.int .i64 a, .int .i64 b], tmps.getD q undef]) w := by
  have hp' : tmps[p]?.getD undef = .pointer (some ⟨g, 0, none⟩) := by simpa using hp
  have h1 := run_loadVar_row (P := Try.prog) w g 43 43 _ (0, 0) _ hg Try.underlying43 rfl (by kernel_rfl)
  simp [results, h, hp', asAddr, h1]

set_option maxHeartbeats 800000 in
set_option maxRecDepth 20000 in
theorem meet_ok (w : World) (a b c d : Int) :
    Calls Try.prog 30 #[.agg #[.int .i64 a, .int .i64 b], .agg #[.int .i64 c, .int .i64 d]] w fun e w' => e = .returned (.agg #[.int .i64 (mxN a c), .int .i64 (mnN b d)]) ∧
      w' = ((w.alloc (.cells #[.int .i64 a, .int .i64 b] 43)).alloc (.cells #[.int .i64 c, .int .i64 d] 43)).alloc (.cells #[.int .i64 (mxN a c), .int .i64 (mnN b d)] 43) := by
  have c1 : (if a < c then c else a) = mxN a c := rfl
  have c2 : (if d < b then d else b) = mnN b d := rfl
  generalize mxN a c = p at *
  generalize mnN b d = q at *
  go_enter Try.func30, Try.ntmps30
  go_wp2
  refine bodyPost_ret (res_pair rfl rfl (by simpa using Pair.new ((w.alloc (.cells #[.int .i64 a, .int .i64 b] 43)).alloc (.cells #[.int .i64 c, .int .i64 d] 43)) p q)) rfl ?_
  exact ⟨rfl, rfl⟩

/-- What a region of 'lies' holds of memory: its two boxes, and what lies below. -/
def Two (w : World) (a b c d : Int) (W : World) : Prop :=
  (W.cell? ⟨w.heap.size, 0, none⟩ = some (.int .i64 a) ∧ W.cell? ⟨w.heap.size, 1, none⟩ = some (.int .i64 b) ∧ W.cell? ⟨w.heap.size + 1, 0, none⟩ = some (.int .i64 c) ∧ W.cell? ⟨w.heap.size + 1, 1, none⟩ = some (.int .i64 d)) ∧
    Pair W w.heap.size a b ∧ Pair W (w.heap.size + 1) c d ∧ Below w.heap.size w W
theorem Two.mk' {w W : World} {a b c d : Int} (h1 : Pair W w.heap.size a b) (h2 : Pair W (w.heap.size + 1) c d) (h3 : Below w.heap.size w W) : Two w a b c d W :=
  ⟨⟨h1.c0, h1.c1, h2.c0, h2.c1⟩, h1, h2, h3⟩
theorem Two.alloc {w W : World} {a b c d : Int} (h : Two w a b c d W) (o : Obj) : Two w a b c d (W.alloc o) :=
  Two.mk' (h.2.1.alloc o) (h.2.2.1.alloc o) (h.2.2.2.alloc (by have := h.2.1.lt; omega) o)
theorem Two.drew {w W : World} {a b c d : Int} (h : Two w a b c d W) : Two w a b c d W.drew :=
  Two.mk' h.2.1 h.2.2.1 h.2.2.2.drew

set_option maxHeartbeats 800000 in
set_option maxRecDepth 20000 in
theorem lies_ok (w : World) (a b c d : Int) :
    Calls Try.prog 25 #[.agg #[.int .i64 a, .int .i64 b], .agg #[.int .i64 c, .int .i64 d]] w fun e w' => e = .returned (.bool (liesB a b c d)) ∧ Below w.heap.size w w' := by
  have K : Hid (∀ W, Calls Try.prog 30 #[.agg #[.int .i64 a, .int .i64 b], .agg #[.int .i64 c, .int .i64 d]] W fun e w' => e = .returned (.agg #[.int .i64 (mxN a c), .int .i64 (mnN b d)]) ∧
      w' = ((W.alloc (.cells #[.int .i64 a, .int .i64 b] 43)).alloc (.cells #[.int .i64 c, .int .i64 d] 43)).alloc (.cells #[.int .i64 (mxN a c), .int .i64 (mnN b d)] 43)) := fun W => meet_ok W a b c d
  have hE := fun W => eqIv (mxN a c) (mnN b d) a b W
  rw [lies_eq] at hE
  generalize mxN a c = p at *
  generalize mnN b d = q at *
  generalize liesB a b c d = r at *
  have H0 : Hid (Two w a b c d ((w.alloc (.cells #[.int .i64 a, .int .i64 b] 43)).alloc (.cells #[.int .i64 c, .int .i64 d] 43))) :=
    Two.mk' ((Pair.new w a b).alloc _) (by simpa using Pair.new (w.alloc (.cells #[.int .i64 a, .int .i64 b] 43)) c d) (Go.Joins.below_alloc2 _ _ _)
  go_enter Try.func25, Try.ntmps25
  go_wp2
  go_region_held3 (fun W => (W.cell? ⟨w.heap.size, 0, none⟩ = some (.int .i64 a) ∧ W.cell? ⟨w.heap.size, 1, none⟩ = some (.int .i64 b) ∧ W.cell? ⟨w.heap.size + 1, 0, none⟩ = some (.int .i64 c) ∧ W.cell? ⟨w.heap.size + 1, 1, none⟩ = some (.int .i64 d)) ∧
    Pair W w.heap.size a b ∧ Pair W (w.heap.size + 1) c d ∧ Below w.heap.size w W)
      (first | exact H0.out | assumption | exact Two.drew (by assumption) | exact H0.out.drew | exact (((Two.alloc (by assumption) _).alloc _).alloc _))
      (first | (go_at_call 30; refine (K.out _).mono ?_; rintro e w9 ⟨rfl, rfl⟩))
  go_wp2
  go_ret
  rename_i hh
  exact ⟨rfl, hh.2.2.2⟩

set_option maxHeartbeats 800000 in
set_option maxRecDepth 20000 in
theorem isright_ok (w : World) (a b : Int) :
    Calls Try.prog 19 #[.agg #[.int .i64 a, .int .i64 b]] w fun e w' => e = .returned (.bool (rightB a b)) ∧ Below w.heap.size w w' := by
  have K : Hid (∀ W, Calls Try.prog 25 #[.agg #[.int .i64 a, .int .i64 b], .agg #[.int .i64 (-1099511627776), .int .i64 1099511627776]] W fun e w' => e = .returned (.bool (liesB a b (-1099511627776) 1099511627776)) ∧ Below W.heap.size W w') := fun W => lies_ok W a b _ _
  by_cases h : a ≤ b
  · have e1 : liesB a b (-1099511627776) 1099511627776 = rightB a b := by unfold liesB rightB; simp only [h, true_and]
    rw [e1] at K
    generalize rightB a b = r at *
    go_enter Try.func19, Try.ntmps19
    go_wp2_with fail
    refine (K.out _).mono ?_
    rintro e w1 ⟨rfl, hb⟩
    clear K
    go_wp2
    go_ret
    exact ⟨rfl, (Go.Joins.below_alloc1 _ _).trans (hb.mono (by simp))⟩
  · have e1 : rightB a b = false := by unfold rightB; simp [h]
    rw [e1]
    clear K e1
    go_enter Try.func19, Try.ntmps19
    go_wp2
    go_ret
    exact ⟨rfl, Go.Joins.below_alloc1 _ _⟩

/-- The document's. -/
theorem refright_ok (w : World) (a b : Int) :
    Calls Try.prog 29 #[.agg #[.int .i64 a, .int .i64 b]] w fun e w' => e = .returned (.bool (rightB a b)) ∧ Below w.heap.size w w' := by
  by_cases h1 : -1099511627776 ≤ a
  · by_cases h2 : a ≤ b
    · by_cases h3 : b ≤ 1099511627776
      · rw [rightB_of h1 h2 h3]
        go_enter Try.func29, Try.ntmps29
        go_wp2
        go_ret
        exact ⟨by first | rfl | simp, Go.Joins.below_alloc1 _ _⟩
      · rw [show rightB a b = false by unfold rightB; simp [h3]]
        go_enter Try.func29, Try.ntmps29
        go_wp2
        go_ret
        exact ⟨by first | rfl | simp, Go.Joins.below_alloc1 _ _⟩
    · rw [show rightB a b = false by unfold rightB; simp [h2]]
      go_enter Try.func29, Try.ntmps29
      go_wp2
      go_ret
      exact ⟨by first | rfl | simp, Go.Joins.below_alloc1 _ _⟩
  · rw [show rightB a b = false by unfold rightB; simp [h1]]
    go_enter Try.func29, Try.ntmps29
    go_wp2
    go_ret
    exact ⟨by first | rfl | simp, Go.Joins.below_alloc1 _ _⟩
end Go.Proofs.Ytfifcfdlmpgohaa
