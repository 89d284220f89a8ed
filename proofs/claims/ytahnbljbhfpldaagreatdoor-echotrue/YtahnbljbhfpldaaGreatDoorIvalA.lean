/-
  Intervals over plain numbers. No program here.
  The contracts of meet, lies and Right.
  The contracts of Make, Shift, Middle, Meet, Hull, Holds and Inside, of the program and of the document.
  The contracts of Holds, Inside and Grow, of the program and of the document, and of awake.
-/
import Derived.Test.YtahnbljbhfpldaaGreatDoorRateA
import Derived.Test.YtahnbljbhfpldaaGreatDoorGround
import Derived.Test.YtahnbljbhfpldaaGreatDoorRows
import Derived.Laws.StructEq
import Derived.Lib.SmallJoins
namespace Go.Proofs.YtahnbljbhfpldaaGreatDoor
set_option maxRecDepth 20000
def r8rightB (a b : Int) : Bool := decide (-1099511627776 ≤ a ∧ a ≤ b ∧ b ≤ 1099511627776)
def r8mxN (a c : Int) : Int := if a < c then c else a
def r8mnN (b d : Int) : Int := if d < b then d else b
def r8holdsB (a b n : Int) : Bool := decide (-1099511627776 ≤ a ∧ b ≤ 1099511627776 ∧ a ≤ n ∧ n ≤ b)
theorem rightB_true {a b : Int} (h : r8rightB a b = true) : -1099511627776 ≤ a ∧ a ≤ b ∧ b ≤ 1099511627776 := of_decide_eq_true h
theorem rightB_of {a b : Int} (h0 : -1099511627776 ≤ a) (h1 : a ≤ b) (h2 : b ≤ 1099511627776) : r8rightB a b = true := decide_eq_true ⟨h0, h1, h2⟩
theorem holdsB_right {a b n : Int} (h : r8holdsB a b n = true) : r8rightB a b = true := by
  have := of_decide_eq_true h
  exact rightB_of this.1 (by omega) this.2.1
theorem holdsB_of_not {a b n : Int} (h : r8rightB a b = false) : r8holdsB a b n = false := by
  cases hh : r8holdsB a b n
  · rfl
  · rw [holdsB_right hh] at h; cases h
theorem holdsB_eq {a b n : Int} (h : r8rightB a b = true) : r8holdsB a b n = decide (a ≤ n ∧ n ≤ b) := by
  have h1 := rightB_true h
  unfold r8holdsB
  by_cases h2 : a ≤ n ∧ n ≤ b
  · simp [h1.1, h1.2.2, h2.1, h2.2]
  · simp only [h1.1, h1.2.2, true_and]
def liesB (a b c d : Int) : Bool := decide (c ≤ a ∧ b ≤ d)
theorem lies_eq (a b c d : Int) : ((r8mxN a c == a) && (r8mnN b d == b)) = liesB a b c d := by
  unfold r8mxN r8mnN liesB
  by_cases h1 : a < c
  · have : ¬ c ≤ a := by omega
    rw [if_pos h1]
    simp [this]; omega
  · by_cases h2 : d < b
    · have : ¬ b ≤ d := by omega
      rw [if_neg h1, if_pos h2]
      simp [this]; omega
    · have h3 : c ≤ a := by omega
      have h4 : b ≤ d := by omega
      rw [if_neg h1, if_neg h2]
      simp [h3, h4]
open Go.ChangeShapes Go.WideShapes Go.ChangeAt Go.RowKit
theorem eqIv (a b c d : Int) (w : World) : (binOp .eql 49 (.agg #[.int .i64 a, .int .i64 b]) (.agg #[.int .i64 c, .int .i64 d])).run Tryz.prog w = .ok (.bool (a == c && b == d)) w := by
  have u3 := Tryz.underlying2
  have a3 := Tryz.isAgg2
  have z3 := Tryz.sizeOf2
  have hS : Tryz.prog.underlying 49 = some (.struct (Tryz.prog.fieldsOf 49)) := by kernel_rfl
  have hp : Tryz.prog.stoodInHeld 49 = false := by kernel_rfl
  rw [run_eql_struct, show (10000 : Nat) = 9999 + 1 from rfl, run_equalIn_agg w 9999 49 _ _ hS hp]
  simp only [Program.fieldsOf, Tryz.underlying49]
  go_simp
  by_cases h1 : a = c <;> by_cases h2 : b = d <;> simp [h1, h2]
def Pair (w : World) (g : Nat) (a b : Int) : Prop := w.heap[g]? = some (.cells #[.int .i64 a, .int .i64 b] 49 (0, 0))
theorem Pair.c0 {w : World} {g : Nat} {a b : Int} (h : Pair w g a b) : w.cell? ⟨g, 0, none⟩ = some (.int .i64 a) := by unfold Pair at h; simp [World.cell?, h]
theorem Pair.c1 {w : World} {g : Nat} {a b : Int} (h : Pair w g a b) : w.cell? ⟨g, 1, none⟩ = some (.int .i64 b) := by unfold Pair at h; simp [World.cell?, h]
theorem Pair.f0 {w : World} {g : Nat} {a b : Int} (h : Pair w g a b) (i : Nat) : w.frozen? ⟨g, i, none⟩ = false := by unfold Pair at h; simp [World.frozen?, h]
theorem Pair.lt {w : World} {g : Nat} {a b : Int} (h : Pair w g a b) : g < w.heap.size := by
  rcases Nat.lt_or_ge g w.heap.size with h' | h'
  · exact h'
  · unfold Pair at h; rw [Array.getElem?_eq_none h'] at h; cases h
theorem Pair.below {w w' : World} {g : Nat} {a b : Int} (h : Pair w g a b) (hb : Below w.heap.size w w') : Pair w' g a b := by
  show w'.heap[g]? = _
  rw [hb.block g h.lt]; exact h
theorem Pair.new (w : World) (a b : Int) : Pair (w.alloc (.cells #[.int .i64 a, .int .i64 b] 49)) w.heap.size a b := heap_alloc_new _ _
theorem Pair.alloc {w : World} {g : Nat} {a b : Int} (h : Pair w g a b) (o : Obj) : Pair (w.alloc o) g a b := by
  show (w.alloc o).heap[g]? = _
  show (w.heap.push o)[g]? = _
  rw [Array.getElem?_push, if_neg (Nat.ne_of_lt h.lt)]; exact h
theorem res_pair {fn : Func} {p : Tmp} (h : fn.results = #[.cell p 49]) {tmps : Array Value} {w : World} {g : Nat} {a b : Int} (hp : tmps.getD p undef = .pointer (some ⟨g, 0, none⟩)) (hg : Pair w g a b) :
    (results fn tmps).run Tryz.prog w = .ok (.agg #[.int .i64 a, .int .i64 b]) w :=
  results_cell_row h tmps w g 49 _ (0, 0) _ hp hg Tryz.underlying49 rfl (by kernel_rfl)
set_option maxHeartbeats 800000 in
set_option maxRecDepth 20000 in
theorem meet_ok (w : World) (a b c d : Int) :
    Calls Tryz.prog 73 #[.agg #[.int .i64 a, .int .i64 b], .agg #[.int .i64 c, .int .i64 d]] w fun e w' => e = .returned (.agg #[.int .i64 (r8mxN a c), .int .i64 (r8mnN b d)]) ∧
      w' = ((w.alloc (.cells #[.int .i64 a, .int .i64 b] 49)).alloc (.cells #[.int .i64 c, .int .i64 d] 49)).alloc (.cells #[.int .i64 (r8mxN a c), .int .i64 (r8mnN b d)] 49) := by
  have c1 : (if a < c then c else a) = r8mxN a c := rfl
  have c2 : (if d < b then d else b) = r8mnN b d := rfl
  generalize r8mxN a c = p at *
  generalize r8mnN b d = q at *
  go_enter Tryz.func73, Tryz.ntmps73
  go_wp2
  refine bodyPost_ret (res_pair rfl rfl (by simpa using Pair.new ((w.alloc (.cells #[.int .i64 a, .int .i64 b] 49)).alloc (.cells #[.int .i64 c, .int .i64 d] 49)) p q)) rfl ?_
  exact ⟨rfl, rfl⟩
def Two (w : World) (a b c d : Int) (W : World) : Prop :=
  (W.cell? ⟨w.heap.size, 0, none⟩ = some (.int .i64 a) ∧ W.cell? ⟨w.heap.size, 1, none⟩ = some (.int .i64 b) ∧ W.cell? ⟨w.heap.size + 1, 0, none⟩ = some (.int .i64 c) ∧ W.cell? ⟨w.heap.size + 1, 1, none⟩ = some (.int .i64 d)) ∧
    Pair W w.heap.size a b ∧ Pair W (w.heap.size + 1) c d ∧ Below w.heap.size w W
theorem Two.mk' {w W : World} {a b c d : Int} (h1 : Pair W w.heap.size a b) (h2 : Pair W (w.heap.size + 1) c d) (h3 : Below w.heap.size w W) : Two w a b c d W :=
  ⟨⟨h1.c0, h1.c1, h2.c0, h2.c1⟩, h1, h2, h3⟩
theorem Two.alloc {w W : World} {a b c d : Int} (h : Two w a b c d W) (o : Obj) : Two w a b c d (W.alloc o) :=
  Two.mk' (h.2.1.alloc o) (h.2.2.1.alloc o) (h.2.2.2.alloc (by have := h.2.1.lt; omega) o)
theorem Two.drew {w W : World} {a b c d : Int} (h : Two w a b c d W) : Two w a b c d W.drew :=
  Two.mk' h.2.1 h.2.2.1 h.2.2.2.drew
set_option maxHeartbeats 800000 in
set_option maxRecDepth 20000 in
theorem lies_ok (w : World) (a b c d : Int) :
    Calls Tryz.prog 47 #[.agg #[.int .i64 a, .int .i64 b], .agg #[.int .i64 c, .int .i64 d]] w fun e w' => e = .returned (.bool (liesB a b c d)) ∧ Below w.heap.size w w' := by
  have K : Hid (∀ W, Calls Tryz.prog 73 #[.agg #[.int .i64 a, .int .i64 b], .agg #[.int .i64 c, .int .i64 d]] W fun e w' => e = .returned (.agg #[.int .i64 (r8mxN a c), .int .i64 (r8mnN b d)]) ∧
      w' = ((W.alloc (.cells #[.int .i64 a, .int .i64 b] 49)).alloc (.cells #[.int .i64 c, .int .i64 d] 49)).alloc (.cells #[.int .i64 (r8mxN a c), .int .i64 (r8mnN b d)] 49)) := fun W => meet_ok W a b c d
  have hE := fun W => eqIv (r8mxN a c) (r8mnN b d) a b W
  rw [lies_eq] at hE
  generalize r8mxN a c = p at *
  generalize r8mnN b d = q at *
  generalize liesB a b c d = r at *
  have H0 : Hid (Two w a b c d ((w.alloc (.cells #[.int .i64 a, .int .i64 b] 49)).alloc (.cells #[.int .i64 c, .int .i64 d] 49))) :=
    Two.mk' ((Pair.new w a b).alloc _) (by simpa using Pair.new (w.alloc (.cells #[.int .i64 a, .int .i64 b] 49)) c d) (Go.Joins.below_alloc2 _ _ _)
  go_enter Tryz.func47, Tryz.ntmps47
  go_wp2
  go_region_held3 (fun W => (W.cell? ⟨w.heap.size, 0, none⟩ = some (.int .i64 a) ∧ W.cell? ⟨w.heap.size, 1, none⟩ = some (.int .i64 b) ∧ W.cell? ⟨w.heap.size + 1, 0, none⟩ = some (.int .i64 c) ∧ W.cell? ⟨w.heap.size + 1, 1, none⟩ = some (.int .i64 d)) ∧
    Pair W w.heap.size a b ∧ Pair W (w.heap.size + 1) c d ∧ Below w.heap.size w W)
      (first | exact H0.out | assumption | exact Two.drew (by assumption) | exact H0.out.drew | exact (((Two.alloc (by assumption) _).alloc _).alloc _))
      (first | (go_at_call 73; refine (K.out _).mono ?_; rintro e w9 ⟨rfl, rfl⟩))
  go_wp2
  go_ret
  rename_i hh
  exact ⟨rfl, hh.2.2.2⟩
set_option maxHeartbeats 800000 in
set_option maxRecDepth 20000 in
theorem isright_ok (w : World) (a b : Int) :
    Calls Tryz.prog 46 #[.agg #[.int .i64 a, .int .i64 b]] w fun e w' => e = .returned (.bool (r8rightB a b)) ∧ Below w.heap.size w w' := by
  have K : Hid (∀ W, Calls Tryz.prog 47 #[.agg #[.int .i64 a, .int .i64 b], .agg #[.int .i64 (-1099511627776), .int .i64 1099511627776]] W fun e w' => e = .returned (.bool (liesB a b (-1099511627776) 1099511627776)) ∧ Below W.heap.size W w') := fun W => lies_ok W a b _ _
  by_cases h : a ≤ b
  · have e1 : liesB a b (-1099511627776) 1099511627776 = r8rightB a b := by unfold liesB r8rightB; simp only [h, true_and]
    rw [e1] at K
    generalize r8rightB a b = r at *
    go_enter Tryz.func46, Tryz.ntmps46
    go_wp2_with fail
    refine (K.out _).mono ?_
    rintro e w1 ⟨rfl, hb⟩
    clear K
    go_wp2
    go_ret
    exact ⟨rfl, (Go.Joins.below_alloc1 _ _).trans (hb.mono (by simp))⟩
  · have e1 : r8rightB a b = false := by unfold r8rightB; simp [h]
    rw [e1]
    clear K e1
    go_enter Tryz.func46, Tryz.ntmps46
    go_wp2
    go_ret
    exact ⟨rfl, Go.Joins.below_alloc1 _ _⟩
theorem Pair.facts {w : World} {g : Nat} {a b : Int} (h : Pair w g a b) : w.cell? ⟨g, 0, none⟩ = some (.int .i64 a) ∧ w.cell? ⟨g, 1, none⟩ = some (.int .i64 b) ∧ w.frozen? ⟨g, 0, none⟩ = false ∧ w.frozen? ⟨g, 1, none⟩ = false := ⟨h.c0, h.c1, h.f0 0, h.f0 1⟩
theorem boxes1 {w w1 : World} {a b : Int} (hb : Below (w.alloc (.cells #[.int .i64 a, .int .i64 b] 49)).heap.size (w.alloc (.cells #[.int .i64 a, .int .i64 b] 49)) w1) : Pair w1 w.heap.size a b ∧ Below w.heap.size w w1 :=
  ⟨(Pair.new w a b).below hb, (Go.Joins.below_alloc1 _ _).trans (hb.mono (by simp))⟩
set_option maxHeartbeats 1600000 in
set_option maxRecDepth 20000 in
theorem holds_ok (w : World) (a b n : Int) :
    Calls Tryz.prog 25 #[.agg #[.int .i64 a, .int .i64 b], .int .i64 n] w fun e w' => e = .returned (.bool (r8holdsB a b n)) ∧ Below w.heap.size w w' := by
  have K1 : Hid (∀ W, Calls Tryz.prog 46 #[.agg #[.int .i64 a, .int .i64 b]] W fun e w' => e = .returned (.bool (r8rightB a b)) ∧ Below W.heap.size W w') := fun W => isright_ok W a b
  have K2 : Hid (∀ W, Calls Tryz.prog 47 #[.agg #[.int .i64 n, .int .i64 n], .agg #[.int .i64 a, .int .i64 b]] W fun e w' => e = .returned (.bool (liesB n n a b)) ∧ Below W.heap.size W w') := fun W => lies_ok W n n a b
  cases h1 : r8rightB a b
  · rw [h1] at K1
    rw [holdsB_of_not h1]
    clear h1 K2
    go_enter Tryz.func25, Tryz.ntmps25
    go_wp2_with fail
    refine (K1.out _).mono ?_
    rintro e w1 ⟨rfl, hb⟩
    clear K1
    obtain ⟨P2, bel⟩ := boxes1 hb
    clear hb P2
    go_wp2
    go_ret
    exact ⟨rfl, bel⟩
  · rw [h1] at K1
    rw [holdsB_eq h1]
    rw [liesB] at K2
    generalize decide (a ≤ n ∧ n ≤ b) = r at *
    clear h1
    go_enter Tryz.func25, Tryz.ntmps25
    go_wp2_with fail
    refine (K1.out _).mono ?_
    rintro e w1 ⟨rfl, hb⟩
    clear K1
    obtain ⟨P2, bel⟩ := boxes1 hb
    obtain ⟨x0, x1, x2, x3⟩ := P2.facts
    clear hb P2
    go_wp2_with fail
    refine (K2.out _).mono ?_
    rintro e w2 ⟨rfl, hb⟩
    clear K2
    go_wp2
    go_ret
    exact ⟨rfl, bel.trans (hb.mono bel.size)⟩
end Go.Proofs.YtahnbljbhfpldaaGreatDoor
