/-
  More bytes behind bytes: the state and what is left. No program here.
-/
import Derived.Test.YtkpaldkmikjpiaaDoorShaMath
namespace Go.Proofs.YtkpaldkmikjpiaaDoor

theorem drop_whole (bs cs : List UInt8) : (bs ++ cs).drop (64 * (bs.length / 64)) = leftOf bs ++ cs := by
  unfold leftOf
  rw [List.drop_append_of_le_length (by omega)]

theorem runB_whole (bs cs : List UInt8) : runB start (bs ++ cs) (bs.length / 64) = stOf bs := by
  unfold stOf
  exact runB_append _ _ _ _ (by omega)

/-- Not yet a block. -/
theorem more_few (bs cs : List UInt8) (h : (leftOf bs).length + cs.length < 64) : stOf (bs ++ cs) = stOf bs ∧ leftOf (bs ++ cs) = leftOf bs ++ cs := by
  have hl := leftOf_length bs
  have hq : (bs ++ cs).length / 64 = bs.length / 64 := by rw [List.length_append]; omega
  constructor
  · rw [← runB_whole bs cs]; unfold stOf; rw [hq]
  · rw [← drop_whole bs cs]; unfold leftOf; rw [hq]

/-- At least one. -/
theorem more_many (bs cs p r : List UInt8) (hc : cs = p ++ r) (hp : (leftOf bs ++ p).length = 64) :
    stOf (bs ++ cs) = runB (mixS (stOf bs) (leftOf bs ++ p)) r (r.length / 64) ∧ leftOf (bs ++ cs) = r.drop (64 * (r.length / 64)) := by
  have hl := leftOf_length bs
  have hpl : (leftOf bs).length + p.length = 64 := by rw [← List.length_append]; exact hp
  have hcl : cs.length = p.length + r.length := by rw [hc, List.length_append]
  have hq : (bs ++ cs).length / 64 = bs.length / 64 + (1 + r.length / 64) := by rw [List.length_append]; omega
  have hd : (bs ++ cs).drop (64 * (bs.length / 64)) = (leftOf bs ++ p) ++ r := by rw [drop_whole, hc, List.append_assoc]
  constructor
  · unfold stOf
    rw [hq, runB_add, runB_whole, hd, runB_add]
    have h1 : ((leftOf bs ++ p) ++ r).drop (64 * 1) = r := List.drop_left' hp
    have h2 : runB (stOf bs) ((leftOf bs ++ p) ++ r) 1 = mixS (stOf bs) (leftOf bs ++ p) := by
      show mixS (stOf bs) ((((leftOf bs ++ p) ++ r).drop 0).take 64) = _
      rw [List.drop_zero, List.take_left' hp]
    rw [h1, h2]
    rfl
  · unfold leftOf at *
    rw [hq, Nat.mul_add, ← List.drop_drop]
    have e : (bs ++ cs).drop (64 * (bs.length / 64)) = (bs.drop (64 * (bs.length / 64)) ++ p) ++ r := hd
    rw [e, Nat.mul_add, ← List.drop_drop, List.drop_left' hp]

end Go.Proofs.YtkpaldkmikjpiaaDoor
