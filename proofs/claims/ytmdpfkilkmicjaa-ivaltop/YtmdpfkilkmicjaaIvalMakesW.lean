/-
  The walks of IvalMakes and IvalAll, out of the contracts.
-/
import Derived.Test.YtmdpfkilkmicjaaIvalCalls2
namespace Go.Proofs.Ytmdpfkilkmicjaa
open Go.ChangeShapes Go.WideShapes Go.ChangeAt Go.RowKit

/-- What is told has this form. -/
def Told (v : Value) : Prop := ∃ x y r, v = .tuple #[.agg #[.int .i64 x, .int .i64 y], .int .i64 r]
theorem okV_told (a b : Int) : Told (okV a b) := ⟨_, _, _, rfl⟩
theorem errV_told (n : Int) : Told (errV n) := ⟨_, _, _, rfl⟩
theorem makeV_told (a b : Int) : Told (makeV a b) := by unfold makeV; split <;> first | exact okV_told _ _ | exact errV_told _
theorem meetV_told (a b c d : Int) : Told (meetV a b c d) := by
  unfold meetV
  split
  · split <;> first | exact okV_told _ _ | exact errV_told _
  · exact errV_told _
theorem hullV_told (a b c d : Int) : Told (hullV a b c d) := by unfold hullV; split <;> first | exact okV_told _ _ | exact errV_told _
theorem shiftV_told (a b n : Int) : Told (shiftV a b n) := by unfold shiftV; split <;> first | exact makeV_told _ _ | exact errV_told _
theorem growV_told (a b t d : Int) : Told (growV a b t d) := by unfold growV; split <;> first | exact makeV_told _ _ | exact errV_told _
theorem middleV_told (a b : Int) : ∃ x r, middleV a b = .tuple #[.int .i64 x, .int .i64 r] := by
  unfold middleV
  split
  · exact ⟨_, _, rfl⟩
  · exact ⟨_, _, rfl⟩
theorem neqSame (x y : Int) (W : World) : (binOp .neq 23 (.agg #[.int .i64 x, .int .i64 y]) (.agg #[.int .i64 x, .int .i64 y])).run Try.prog W = .ok (.bool false) W := by
  rw [neqIv]; simp
theorem eqSame (x y : Int) (W : World) : (binOp .eql 23 (.agg #[.int .i64 x, .int .i64 y]) (.agg #[.int .i64 x, .int .i64 y])).run Try.prog W = .ok (.bool true) W := by
  rw [eqIv]; simp

set_option maxHeartbeats 3200000 in
set_option maxRecDepth 20000 in
theorem makes_walk (a b : Int) (w : World) : Calls Try.prog 4 #[.int .i64 a, .int .i64 b] w fun e w' => e = .returned (.bool true) ∧ Below w.heap.size w w' := by
  have K1 : Hid (∀ W, Calls Try.prog 26 #[.int .i64 a, .int .i64 b] W fun e w' => e = .returned (makeV a b) ∧ Below W.heap.size W w') := fun W => make_ok W a b
  have K2 : Hid (∀ W, Calls Try.prog 27 #[.int .i64 a, .int .i64 b] W fun e w' => e = .returned (makeV a b) ∧ Below W.heap.size W w') := fun W => refmake_ok W a b
  have K3 : Hid (∀ W, Calls Try.prog 25 #[] W fun e w' => e = .returned (.bool true) ∧ Below W.heap.size W w') := fun W => awake_ok W
  obtain ⟨x, y, r, hv⟩ := makeV_told a b
  rw [hv] at K1 K2
  have hE := eqSame x y
  clear hv
  go_enter Try.func4, Try.ntmps4
  go_wp2_with fail
  refine (K1.out _).mono ?_
  rintro e w1 ⟨rfl, hb⟩
  have bel1 := hb.trans ((Below.refl _ w1).alloc hb.size (.cells #[.int .i64 x, .int .i64 y] 23))
  have HP : Hid (Pair (w1.alloc (.cells #[.int .i64 x, .int .i64 y] 23)) w1.heap.size x y) := Pair.new w1 x y
  clear K1 hb
  go_wp2_with fail
  refine (K2.out _).mono ?_
  rintro e w2 ⟨rfl, hb⟩
  have HQ : Hid (Pair w2 w1.heap.size x y) := HP.out.below hb
  obtain ⟨x0, x1, x2, x3⟩ := HQ.out.facts
  have bel2 := bel1.trans (hb.mono bel1.size)
  have bel3 := bel2.trans ((Below.refl _ w2).alloc bel2.size (.cells #[.int .i64 x, .int .i64 y] 23))
  have n3 : w1.heap.size < w2.heap.size := HQ.out.lt
  have n1 : ¬ w1.heap.size = w2.heap.size := by omega
  clear K2 hb bel1 bel2 HP
  go_wp2_with fail
  refine (K3.out _).mono ?_
  rintro e w3 ⟨rfl, hb⟩
  clear K3
  go_wp2
  go_ret
  exact ⟨by first | rfl | simp, bel3.trans (hb.mono bel3.size)⟩
end Go.Proofs.Ytmdpfkilkmicjaa
