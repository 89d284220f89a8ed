/-
  The contracts of word.Turn, of the document's Turn and of 'awake'.
-/
import Derived.Test.YtkpaldkmikjpiaaDoorRows
import Derived.Test.YtkpaldkmikjpiaaDoorMath
import Derived.WalkKit
import Derived.ProofKit
import Derived.OpenShut
namespace Go.Proofs.YtkpaldkmikjpiaaDoor
open Go.ChangeShapes Go.WideShapes Go.ChangeAt Go.RowKit

theorem ret_int {k : IntKind} {a b : Int} (h : a = b) : Ending.returned (.int k a) = .returned (.int k b) := by rw [h]

theorem and31 (n : Int) : bits .and .u64 (IntKind.u64.wrap n) 31 = n % 32 := by
  obtain ⟨m, hm⟩ : ∃ m : Nat, IntKind.u64.wrap n = m := ⟨(IntKind.u64.wrap n).toNat, by have := wrap_u64_nonneg n; omega⟩
  have hb : IntKind.u64.wrap n = n % 18446744073709551616 := by simp [IntKind.wrap, IntKind.bits, IntKind.signed]
  rw [hm, show (31 : Int) = ((31 : Nat) : Int) from rfl, u64_and_nat m 31 (by omega) (by omega)]
  rw [show m &&& 31 = m % 2 ^ 5 from Nat.and_two_pow_sub_one_eq_mod m 5]
  omega

theorem rot_int (x k : Nat) (hx : x < 4294967296) : bits .or .u32 ((x : Int) / 2 ^ k) ((x : Int) * 2 ^ (32 - k) % 4294967296) = (rotr x k : Nat) := by
  have h1 : (x : Int) / 2 ^ k = ((x >>> k : Nat) : Int) := by rw [Nat.shiftRight_eq_div_pow]; simp
  have h2 : (x : Int) * 2 ^ (32 - k) % 4294967296 = (((x <<< (32 - k)) % 4294967296 : Nat) : Int) := by rw [Nat.shiftLeft_eq]; simp
  rw [h1, h2, u32_or_nat _ _ _ (Nat.mod_lt _ (by omega))]
  · rfl
  · exact Nat.lt_of_le_of_lt (by rw [Nat.shiftRight_eq_div_pow]; exact Nat.div_le_self _ _) hx

set_option maxHeartbeats 400000 in
set_option maxRecDepth 20000 in
theorem turn_any (x k : Nat) (n : Int) (hx : x < 4294967296) (hk : n % 32 = k) (w : World) :
    Calls Tryd.prog 67 #[.int .u32 x, .int .i64 n] w fun e w' => e = .returned (.int .u32 (rotr x k : Nat)) ∧ w' = w := by
  have hk2 : k < 32 := by omega
  have h31 := and31 n
  rw [hk] at h31
  clear hk
  go_enter Tryd.func67, Tryd.ntmps67
  go_wp2
  go_ret
  exact ⟨ret_int (rot_int x k hx), rfl⟩

end Go.Proofs.YtkpaldkmikjpiaaDoor
