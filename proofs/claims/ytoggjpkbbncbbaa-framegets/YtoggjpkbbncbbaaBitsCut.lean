/-
  Bits that lie in one byte: taken as a number, and put. No program here.
-/
import Derived.Test.YtoggjpkbbncbbaaBitsRefT
namespace Go.Proofs.Ytoggjpkbbncbbaa
open Go.ChangeShapes Go.WideShapes Go.ChangeAt Go.RowKit

theorem bitsN_drop (n : Nat) : ∀ (w u : Nat), (bitsN n w).drop u = bitsN n (w - u)
  | w, 0 => rfl
  | 0, u + 1 => by simp [bitsN]
  | w + 1, u + 1 => by rw [bitsN, List.drop_succ_cons, bitsN_drop n w u]; congr 1; omega
theorem bitsN_first (n : Nat) : ∀ (w s : Nat), s ≤ w → (bitsN n w).take s = bitsN (n / 2 ^ (w - s)) s
  | w, 0, _ => by simp [bitsN]
  | 0, s + 1, h => by omega
  | w + 1, s + 1, h => by
    rw [bitsN, List.take_succ_cons, bitsN_first n w s (by omega), bitsN, Nat.testBit_div_two_pow]
    congr 2
    · congr 1; omega
    · congr 2; omega
theorem num_app (l m : List Bool) : num (l ++ m) = num l * 2 ^ m.length + num m := by
  have h1 := num_foldl m (num l)
  rw [← h1]; unfold num; rw [List.foldl_append]

/-- s bits of a byte, from the place u on. -/
theorem byte_mid (x u s : Nat) (h : u + s ≤ 8) : (x * 2 ^ u % 256) / 2 ^ (8 - s) = x / 2 ^ (8 - u - s) % 2 ^ s := by
  have e1 : 256 = 2 ^ (8 - u) * 2 ^ u := by rw [← Nat.pow_add, Nat.sub_add_cancel (by omega)]
  have e2 : 2 ^ (8 - s) = 2 ^ (8 - u - s) * 2 ^ u := by rw [← Nat.pow_add]; congr 1; omega
  have e3 : 2 ^ (8 - u) = 2 ^ (8 - u - s) * 2 ^ s := by rw [← Nat.pow_add]; congr 1; omega
  rw [e1, Nat.mul_mod_mul_right, e2, Nat.mul_div_mul_right _ _ (Nat.two_pow_pos u), e3, Nat.mod_mul_right_div_self]
theorem nextB_byte (l : List UInt8) (p s : Nat) (x : UInt8) (hx : l[p / 8]? = some x) (h : p % 8 + s ≤ 8) : num (nextB l p s) = (x.toNat * 2 ^ (p % 8) % 256) / 2 ^ (8 - s) := by
  have hq : p / 8 < l.length := (List.getElem?_eq_some_iff.1 hx).1
  have e1 : nextB l p s = ((bitsU x).drop (p % 8)).take s := by
    have e2 : bitsOf l = bitsOf (l.take (p / 8)) ++ (bitsU x ++ bitsOf (l.drop (p / 8 + 1))) := by
      have e0 : l.drop (p / 8) = x :: l.drop (p / 8 + 1) := by rw [List.drop_eq_getElem_cons hq, (List.getElem?_eq_some_iff.1 hx).2]
      have e3 : l = l.take (p / 8) ++ x :: l.drop (p / 8 + 1) := by rw [← e0, List.take_append_drop]
      conv => lhs; rw [e3]
      rw [bitsOf_app]; rfl
    have e4 : (bitsOf (l.take (p / 8))).length = 8 * (p / 8) := by rw [bitsOf_length, List.length_take, Nat.min_eq_left (by omega)]
    unfold nextB
    rw [e2, List.drop_append, List.drop_eq_nil_of_le (by rw [e4]; omega), List.nil_append, e4, show p - 8 * (p / 8) = p % 8 by omega, List.drop_append_of_le_length (by rw [bitsU_length]; omega), List.take_append_of_le_length (by rw [List.length_drop, bitsU_length]; omega)]
  rw [e1, ← bitsN_byte, bitsN_drop, bitsN_first _ _ _ (by omega), num_bitsN, byte_mid _ _ _ h]
end Go.Proofs.Ytoggjpkbbncbbaa
