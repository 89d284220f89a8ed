/-
  The contracts of Make, Shift, Middle, Meet, Hull, Holds and Inside, of the program and of the document.
-/
import Derived.Test.YtoibndfiolipbaaIvalParts
namespace Go.Proofs.Ytoibndfiolipbaa
open Go.ChangeShapes Go.WideShapes Go.ChangeAt Go.RowKit

/-- An interval and an error; the error alone. -/
def okV (a b : Int) : Value := .tuple #[.agg #[.int .i64 a, .int .i64 b], .int .i64 0]
def errV (n : Int) : Value := .tuple #[.agg #[.int .i64 0, .int .i64 0], .int .i64 n]
def makeV (a b : Int) : Value := if rightB a b = true then okV a b else errV 1
def meetV (a b c d : Int) : Value := if rightB a b = true ∧ rightB c d = true then (if rightB (mxN a c) (mnN b d) = true then okV (mxN a c) (mnN b d) else errV 6) else errV 1
def hullV (a b c d : Int) : Value := if rightB a b = true ∧ rightB c d = true then okV (mnN a c) (mxN b d) else errV 1
def shiftV (a b n : Int) : Value := if rightB a b = true ∧ -2199023255552 ≤ n ∧ n ≤ 2199023255552 then makeV (a + n) (b + n) else errV 1
def middleV (a b : Int) : Value := if rightB a b = true then .tuple #[.int .i64 ((a + b).tdiv 2), .int .i64 0] else .tuple #[.int .i64 0, .int .i64 1]
def insideB (a b e : Int) : Bool := rightB a b && decide (0 ≤ e ∧ -e ≤ a ∧ b ≤ e)

/-- A call of Right, as the walks take it. -/
theorem Pair.facts {w : World} {g : Nat} {a b : Int} (h : Pair w g a b) : w.cell? ⟨g, 0, none⟩ = some (.int .i64 a) ∧ w.cell? ⟨g, 1, none⟩ = some (.int .i64 b) ∧ w.frozen? ⟨g, 0, none⟩ = false ∧ w.frozen? ⟨g, 1, none⟩ = false := ⟨h.c0, h.c1, h.f0 0, h.f0 1⟩
theorem below_pair {W w : World} {B g : Nat} (h : Below B W w) (hg : B ≤ g) (x y : Value) : Below B W ((w.setCell ⟨g, 0, none⟩ x).setCell ⟨g, 1, none⟩ y) := (h.setCell (p := ⟨g, 0, none⟩) hg x).setCell (p := ⟨g, 1, none⟩) hg y


set_option maxHeartbeats 800000 in
set_option maxRecDepth 20000 in
theorem make_ok (w : World) (a b : Int) :
    Calls Try.prog 53 #[.int .i64 a, .int .i64 b] w fun e w' => e = .returned (makeV a b) ∧ Below w.heap.size w w' := by
  have K : Hid (∀ W, Calls Try.prog 31 #[.agg #[.int .i64 a, .int .i64 b]] W fun e w' => e = .returned (.bool (rightB a b)) ∧ Below W.heap.size W w') := fun W => isright_ok W a b
  have HA : Hid (∀ w1, Below ((w.alloc (.cells #[.int .i64 0, .int .i64 0] 39)).alloc (.cells #[.int .i64 a, .int .i64 b] 39)).heap.size ((w.alloc (.cells #[.int .i64 0, .int .i64 0] 39)).alloc (.cells #[.int .i64 a, .int .i64 b] 39)) w1 →
      Pair w1 w.heap.size 0 0 ∧ Pair w1 (w.heap.size + 1) a b ∧ Below w.heap.size w w1) := fun w1 hb =>
    ⟨((Pair.new w 0 0).alloc _).below hb, (by simpa using Pair.new (w.alloc (.cells #[.int .i64 0, .int .i64 0] 39)) a b : Pair ((w.alloc (.cells #[.int .i64 0, .int .i64 0] 39)).alloc (.cells #[.int .i64 a, .int .i64 b] 39)) (w.heap.size + 1) a b).below hb, (Go.Joins.below_alloc2 _ _ _).trans (hb.mono (by simp; omega))⟩
  cases hr : rightB a b
  all_goals
    rw [hr] at K
    rw [makeV, hr]
    go_enter Try.func53, Try.ntmps53
    go_wp2_with fail
    refine (K.out _).mono ?_
    rintro e w1 ⟨rfl, hb⟩
    clear K
    obtain ⟨P4, P6, bel⟩ := HA.out _ hb
    clear HA hb
    obtain ⟨x0, x1, x2, x3⟩ := P4.facts
    obtain ⟨y0, y1, y2, y3⟩ := P6.facts
    have HP : Hid (Pair w1 w.heap.size 0 0) := P4
    clear P4 P6
    go_wp2
    refine bodyPost_ret (res_pair_tmp rfl rfl (HP.out.set _ _)) rfl ?_
    exact ⟨rfl, below_pair bel (Nat.le_refl _) _ _⟩

set_option maxHeartbeats 800000 in
set_option maxRecDepth 20000 in
theorem refmake_ok (w : World) (a b : Int) :
    Calls Try.prog 50 #[.int .i64 a, .int .i64 b] w fun e w' => e = .returned (makeV a b) ∧ Below w.heap.size w w' := by
  have K : Hid (∀ W, Calls Try.prog 35 #[.agg #[.int .i64 a, .int .i64 b]] W fun e w' => e = .returned (.bool (rightB a b)) ∧ Below W.heap.size W w') := fun W => refright_ok W a b
  have HA : Hid (∀ w1, Below ((w.alloc (.cells #[.int .i64 0, .int .i64 0] 39)).alloc (.cells #[.int .i64 a, .int .i64 b] 39)).heap.size ((w.alloc (.cells #[.int .i64 0, .int .i64 0] 39)).alloc (.cells #[.int .i64 a, .int .i64 b] 39)) w1 →
      Pair w1 w.heap.size 0 0 ∧ Pair w1 (w.heap.size + 1) a b ∧ Below w.heap.size w w1) := fun w1 hb =>
    ⟨((Pair.new w 0 0).alloc _).below hb, (by simpa using Pair.new (w.alloc (.cells #[.int .i64 0, .int .i64 0] 39)) a b : Pair ((w.alloc (.cells #[.int .i64 0, .int .i64 0] 39)).alloc (.cells #[.int .i64 a, .int .i64 b] 39)) (w.heap.size + 1) a b).below hb, (Go.Joins.below_alloc2 _ _ _).trans (hb.mono (by simp; omega))⟩
  cases hr : rightB a b
  all_goals
    rw [hr] at K
    rw [makeV, hr]
    go_enter Try.func50, Try.ntmps50
    go_wp2_with fail
    refine (K.out _).mono ?_
    rintro e w1 ⟨rfl, hb⟩
    clear K
    obtain ⟨P4, P6, bel⟩ := HA.out _ hb
    clear HA hb
    obtain ⟨x0, x1, x2, x3⟩ := P4.facts
    obtain ⟨y0, y1, y2, y3⟩ := P6.facts
    have HP : Hid (Pair w1 w.heap.size 0 0) := P4
    clear P4 P6
    go_wp2
    refine bodyPost_ret (res_pair_tmp rfl rfl (HP.out.set _ _)) rfl ?_
    exact ⟨rfl, below_pair bel (Nat.le_refl _) _ _⟩

theorem meet_below (w : World) (a b c d : Int) :
    Calls Try.prog 57 #[.agg #[.int .i64 a, .int .i64 b], .agg #[.int .i64 c, .int .i64 d]] w fun e w' => e = .returned (.agg #[.int .i64 (mxN a c), .int .i64 (mnN b d)]) ∧ Below w.heap.size w w' :=
  (meet_ok w a b c d).mono fun _ _ ⟨he, hw⟩ => ⟨he, by rw [hw]; exact Go.Joins.below_alloc3 _ _ _ _⟩

/-- One box and the result's; two boxes and the result's: what a call leaves of them. -/
theorem boxes2 {w w1 : World} {a b : Int} (hb : Below ((w.alloc (.cells #[.int .i64 a, .int .i64 b] 39)).alloc (.cells #[.int .i64 0, .int .i64 0] 39)).heap.size ((w.alloc (.cells #[.int .i64 a, .int .i64 b] 39)).alloc (.cells #[.int .i64 0, .int .i64 0] 39)) w1) :
    Pair w1 w.heap.size a b ∧ Pair w1 (w.heap.size + 1) 0 0 ∧ Below w.heap.size w w1 :=
  ⟨((Pair.new w a b).alloc _).below hb, (by simpa using Pair.new (w.alloc (.cells #[.int .i64 a, .int .i64 b] 39)) 0 0 : Pair ((w.alloc (.cells #[.int .i64 a, .int .i64 b] 39)).alloc (.cells #[.int .i64 0, .int .i64 0] 39)) (w.heap.size + 1) 0 0).below hb,
    (Go.Joins.below_alloc2 _ _ _).trans (hb.mono (by simp; omega))⟩
theorem boxes3 {w w1 : World} {a b c d : Int} (hb : Below (((w.alloc (.cells #[.int .i64 a, .int .i64 b] 39)).alloc (.cells #[.int .i64 c, .int .i64 d] 39)).alloc (.cells #[.int .i64 0, .int .i64 0] 39)).heap.size (((w.alloc (.cells #[.int .i64 a, .int .i64 b] 39)).alloc (.cells #[.int .i64 c, .int .i64 d] 39)).alloc (.cells #[.int .i64 0, .int .i64 0] 39)) w1) :
    Pair w1 w.heap.size a b ∧ Pair w1 (w.heap.size + 1) c d ∧ Pair w1 (w.heap.size + 1 + 1) 0 0 ∧ Below w.heap.size w w1 :=
  ⟨(((Pair.new w a b).alloc _).alloc _).below hb, ((by simpa using Pair.new (w.alloc (.cells #[.int .i64 a, .int .i64 b] 39)) c d : Pair ((w.alloc (.cells #[.int .i64 a, .int .i64 b] 39)).alloc (.cells #[.int .i64 c, .int .i64 d] 39)) (w.heap.size + 1) c d).alloc _).below hb,
    (by simpa using Pair.new ((w.alloc (.cells #[.int .i64 a, .int .i64 b] 39)).alloc (.cells #[.int .i64 c, .int .i64 d] 39)) 0 0 : Pair (((w.alloc (.cells #[.int .i64 a, .int .i64 b] 39)).alloc (.cells #[.int .i64 c, .int .i64 d] 39)).alloc (.cells #[.int .i64 0, .int .i64 0] 39)) (w.heap.size + 1 + 1) 0 0).below hb,
    (Go.Joins.below_alloc3 _ _ _ _).trans (hb.mono (by simp; omega))⟩
/-- One box: what a call leaves of it. -/
theorem boxes1 {w w1 : World} {a b : Int} (hb : Below (w.alloc (.cells #[.int .i64 a, .int .i64 b] 39)).heap.size (w.alloc (.cells #[.int .i64 a, .int .i64 b] 39)) w1) : Pair w1 w.heap.size a b ∧ Below w.heap.size w w1 :=
  ⟨(Pair.new w a b).below hb, (Go.Joins.below_alloc1 _ _).trans (hb.mono (by simp))⟩


set_option maxHeartbeats 1600000 in
set_option maxRecDepth 20000 in
theorem meets_ok (w : World) (a b c d : Int) :
    Calls Try.prog 49 #[.agg #[.int .i64 a, .int .i64 b], .agg #[.int .i64 c, .int .i64 d]] w fun e w' => e = .returned (meetV a b c d) ∧ Below w.heap.size w w' := by
  have K1 : Hid (∀ W, Calls Try.prog 31 #[.agg #[.int .i64 a, .int .i64 b]] W fun e w' => e = .returned (.bool (rightB a b)) ∧ Below W.heap.size W w') := fun W => isright_ok W a b
  have K2 : Hid (∀ W, Calls Try.prog 31 #[.agg #[.int .i64 c, .int .i64 d]] W fun e w' => e = .returned (.bool (rightB c d)) ∧ Below W.heap.size W w') := fun W => isright_ok W c d
  have K3 : Hid (∀ W, Calls Try.prog 57 #[.agg #[.int .i64 a, .int .i64 b], .agg #[.int .i64 c, .int .i64 d]] W fun e w' => e = .returned (.agg #[.int .i64 (mxN a c), .int .i64 (mnN b d)]) ∧ Below W.heap.size W w') := fun W => meet_below W a b c d
  have K4 : Hid (∀ W, Calls Try.prog 31 #[.agg #[.int .i64 (mxN a c), .int .i64 (mnN b d)]] W fun e w' => e = .returned (.bool (rightB (mxN a c) (mnN b d))) ∧ Below W.heap.size W w') := fun W => isright_ok W _ _
  unfold meetV
  generalize mxN a c = p at *
  generalize mnN b d = q at *
  cases h1 : rightB a b
  · rw [h1] at K1
    rw [if_neg (by simp)]
    clear h1 K2 K3 K4
    go_enter Try.func49, Try.ntmps49
    go_wp2_with fail
    refine (K1.out _).mono ?_
    rintro e w1 ⟨rfl, hb⟩
    clear K1
    obtain ⟨P2, P3, P4, bel⟩ := boxes3 hb
    clear hb
    obtain ⟨x0, x1, x2, x3⟩ := P4.facts
    have HP : Hid (Pair w1 (w.heap.size + 1 + 1) 0 0) := P4
    clear P2 P3 P4
    go_wp2
    refine bodyPost_ret (res_pair_tmp rfl rfl (HP.out.set _ _)) rfl ?_
    exact ⟨rfl, below_pair bel (by omega) _ _⟩
  · cases h2 : rightB c d
    · rw [h1] at K1
      rw [h2] at K2
      rw [if_neg (by simp)]
      clear h1 h2 K3 K4
      go_enter Try.func49, Try.ntmps49
      go_wp2_with fail
      refine (K1.out _).mono ?_
      rintro e w1 ⟨rfl, hb⟩
      clear K1
      obtain ⟨P2, P3, P4, bel⟩ := boxes3 hb
      clear hb
      obtain ⟨y0, y1, y2, y3⟩ := P3.facts
      have HP : Hid (Pair w1 (w.heap.size + 1 + 1) 0 0) := P4
      clear P2 P3 P4
      go_wp2_with fail
      refine (K2.out _).mono ?_
      rintro e w2 ⟨rfl, hb⟩
      clear K2
      have HQ : Hid (Pair w2 (w.heap.size + 1 + 1) 0 0) := HP.out.below hb
      obtain ⟨x0, x1, x2, x3⟩ := HQ.out.facts
      have bel2 := bel.trans (hb.mono bel.size)
      clear bel HP hb y0 y1 y2 y3
      go_wp2
      refine bodyPost_ret (res_pair_tmp rfl rfl (HQ.out.set _ _)) rfl ?_
      exact ⟨rfl, below_pair bel2 (by omega) _ _⟩
    · rw [h1] at K1
      rw [h2] at K2
      rw [if_pos ⟨rfl, rfl⟩]
      clear h1 h2
      cases h4 : rightB p q
      all_goals
        rw [h4] at K4
        clear h4
        go_enter Try.func49, Try.ntmps49
        go_wp2_with fail
        refine (K1.out _).mono ?_
        rintro e w1 ⟨rfl, hb⟩
        clear K1
        obtain ⟨P2, P3, P4, bel⟩ := boxes3 hb
        clear hb
        obtain ⟨y0, y1, y2, y3⟩ := P3.facts
        have HP : Hid (Pair w1 w.heap.size a b ∧ Pair w1 (w.heap.size + 1) c d ∧ Pair w1 (w.heap.size + 1 + 1) 0 0) := ⟨P2, P3, P4⟩
        clear P2 P3 P4
        go_wp2_with fail
        refine (K2.out _).mono ?_
        rintro e w2 ⟨rfl, hb⟩
        clear K2 y0 y1 y2 y3
        have HQ : Hid (Pair w2 w.heap.size a b ∧ Pair w2 (w.heap.size + 1) c d ∧ Pair w2 (w.heap.size + 1 + 1) 0 0) := ⟨HP.out.1.below hb, HP.out.2.1.below hb, HP.out.2.2.below hb⟩
        have bel2 := bel.trans (hb.mono bel.size)
        clear HP hb bel
        obtain ⟨x0, x1, x2, x3⟩ := HQ.out.1.facts
        obtain ⟨y0, y1, y2, y3⟩ := HQ.out.2.1.facts
        go_wp2_with fail
        refine (K3.out _).mono ?_
        rintro e w3 ⟨rfl, hb⟩
        clear K3 x0 x1 x2 x3 y0 y1 y2 y3
        have HR : Hid (Pair w3 (w.heap.size + 1 + 1) 0 0) := HQ.out.2.2.below hb
        have bel3 := bel2.trans (hb.mono bel2.size)
        clear HQ hb bel2
        go_wp2_with fail
        refine (K4.out _).mono ?_
        rintro e w4 ⟨rfl, hb⟩
        clear K4
        have HS : Hid (Pair w4 (w.heap.size + 1 + 1) 0 0) := (HR.out.alloc _).below hb
        obtain ⟨x0, x1, x2, x3⟩ := HS.out.facts
        obtain ⟨y0, y1, y2, y3⟩ := ((Pair.new w3 p q).below hb).facts
        have bel4 := (bel3.alloc bel3.size _).trans (hb.mono (Nat.le_trans bel3.size (by simp)))
        clear bel3 HR hb
        go_wp2
        refine bodyPost_ret (res_pair_tmp rfl rfl (HS.out.set _ _)) rfl ?_
        exact ⟨rfl, below_pair bel4 (by omega) _ _⟩

set_option maxHeartbeats 1600000 in
set_option maxRecDepth 20000 in
theorem refmeets_ok (w : World) (a b c d : Int) :
    Calls Try.prog 36 #[.agg #[.int .i64 a, .int .i64 b], .agg #[.int .i64 c, .int .i64 d]] w fun e w' => e = .returned (meetV a b c d) ∧ Below w.heap.size w w' := by
  have K1 : Hid (∀ W, Calls Try.prog 35 #[.agg #[.int .i64 a, .int .i64 b]] W fun e w' => e = .returned (.bool (rightB a b)) ∧ Below W.heap.size W w') := fun W => refright_ok W a b
  have K2 : Hid (∀ W, Calls Try.prog 35 #[.agg #[.int .i64 c, .int .i64 d]] W fun e w' => e = .returned (.bool (rightB c d)) ∧ Below W.heap.size W w') := fun W => refright_ok W c d
  have K3 : Hid (∀ W, Calls Try.prog 50 #[.int .i64 (mxN a c), .int .i64 (mnN b d)] W fun e w' => e = .returned (makeV (mxN a c) (mnN b d)) ∧ Below W.heap.size W w') := fun W => refmake_ok W _ _
  have c1 : (if a < c then c else a) = mxN a c := rfl
  have c2 : (if d < b then d else b) = mnN b d := rfl
  unfold meetV
  generalize mxN a c = p at *
  generalize mnN b d = q at *
  cases h1 : rightB a b
  · rw [h1] at K1
    rw [if_neg (by simp)]
    clear h1 K2 K3
    go_enter Try.func36, Try.ntmps36
    go_wp2_with fail
    refine (K1.out _).mono ?_
    rintro e w1 ⟨rfl, hb⟩
    clear K1
    obtain ⟨P2, P3, P4, bel⟩ := boxes3 hb
    clear hb
    obtain ⟨x0, x1, x2, x3⟩ := P4.facts
    have HP : Hid (Pair w1 (w.heap.size + 1 + 1) 0 0) := P4
    clear P2 P3 P4
    go_wp2
    refine bodyPost_ret (res_pair_tmp rfl rfl (HP.out.set _ _)) rfl ?_
    exact ⟨rfl, below_pair bel (by omega) _ _⟩
  · cases h2 : rightB c d
    · rw [h1] at K1
      rw [h2] at K2
      rw [if_neg (by simp)]
      clear h1 h2 K3
      go_enter Try.func36, Try.ntmps36
      go_wp2_with fail
      refine (K1.out _).mono ?_
      rintro e w1 ⟨rfl, hb⟩
      clear K1
      obtain ⟨P2, P3, P4, bel⟩ := boxes3 hb
      clear hb
      obtain ⟨y0, y1, y2, y3⟩ := P3.facts
      have HP : Hid (Pair w1 (w.heap.size + 1 + 1) 0 0) := P4
      clear P2 P3 P4
      go_wp2_with fail
      refine (K2.out _).mono ?_
      rintro e w2 ⟨rfl, hb⟩
      clear K2
      have HQ : Hid (Pair w2 (w.heap.size + 1 + 1) 0 0) := HP.out.below hb
      obtain ⟨x0, x1, x2, x3⟩ := HQ.out.facts
      have bel2 := bel.trans (hb.mono bel.size)
      clear bel HP hb y0 y1 y2 y3
      go_wp2
      refine bodyPost_ret (res_pair_tmp rfl rfl (HQ.out.set _ _)) rfl ?_
      exact ⟨rfl, below_pair bel2 (by omega) _ _⟩
    · rw [h1] at K1
      rw [h2] at K2
      rw [if_pos ⟨rfl, rfl⟩]
      clear h1 h2
      rw [makeV] at K3
      cases h4 : rightB p q
      all_goals
        rw [h4] at K3
        first | rw [if_pos rfl] at K3 | rw [if_neg Bool.false_ne_true] at K3
        first | rw [okV] at K3 | rw [errV] at K3
        clear h4
      all_goals
        go_enter Try.func36, Try.ntmps36
        go_wp2_with fail
        refine (K1.out _).mono ?_
        rintro e w1 ⟨rfl, hb⟩
        clear K1
        obtain ⟨P2, P3, P4, bel⟩ := boxes3 hb
        clear hb
        obtain ⟨y0, y1, y2, y3⟩ := P3.facts
        have HP : Hid (Pair w1 w.heap.size a b ∧ Pair w1 (w.heap.size + 1) c d ∧ Pair w1 (w.heap.size + 1 + 1) 0 0) := ⟨P2, P3, P4⟩
        clear P2 P3 P4
        go_wp2_with fail
        refine (K2.out _).mono ?_
        rintro e w2 ⟨rfl, hb⟩
        clear K2 y0 y1 y2 y3
        have HQ : Hid (Pair w2 w.heap.size a b ∧ Pair w2 (w.heap.size + 1) c d ∧ Pair w2 (w.heap.size + 1 + 1) 0 0) := ⟨HP.out.1.below hb, HP.out.2.1.below hb, HP.out.2.2.below hb⟩
        have bel2 := bel.trans (hb.mono bel.size)
        clear HP hb bel
        obtain ⟨x0, x1, x2, x3⟩ := HQ.out.1.facts
        obtain ⟨y0, y1, y2, y3⟩ := HQ.out.2.1.facts
        go_wp2_with fail
        refine (K3.out _).mono ?_
        rintro e w3 ⟨rfl, hb⟩
        clear K3 x0 x1 x2 x3 y0 y1 y2 y3
        have HR : Hid (Pair w3 (w.heap.size + 1 + 1) 0 0) := HQ.out.2.2.below hb
        have bel3 := bel2.trans (hb.mono bel2.size)
        obtain ⟨x0, x1, x2, x3⟩ := HR.out.facts
        have n1 : ¬ w.heap.size + 1 + 1 = w3.heap.size := by have := HR.out.lt; omega
        have n2 : ¬ w3.heap.size = w.heap.size + 1 + 1 := by have := HR.out.lt; omega
        have n3 : w.heap.size + 1 + 1 < w3.heap.size := HR.out.lt
        clear HQ hb bel2
        go_wp2
        refine bodyPost_ret (res_pair_tmp rfl rfl ((HR.out.set _ _).alloc _)) rfl ?_
        exact ⟨rfl, (below_pair bel3 (by omega) _ _).alloc (below_pair bel3 (by omega) _ _).size _⟩

end Go.Proofs.Ytoibndfiolipbaa
