/-
  The contracts of word.Turn, of the document's Turn and of 'awake'.
-/
import Derived.Test.YtmldfljgngkneaaRows
import Derived.Test.YtmldfljgngkneaaMath
import Derived.WalkKit
import Derived.ProofKit
import Derived.OpenShut
namespace Go.Proofs.Ytmldfljgngkneaa
open Go.ChangeShapes Go.WideShapes Go.ChangeAt Go.RowKit

theorem ret_int {k : IntKind} {a b : Int} (h : a = b) : Ending.returned (.int k a) = .returned (.int k b) := by rw [h]

theorem and31 (n : Int) : bits .and .u64 (IntKind.u64.wrap n) 31 = n % 32 := by
  obtain ⟨m, hm⟩ : ∃ m : Nat, IntKind.u64.wrap n = m := ⟨(IntKind.u64.wrap n).toNat, by have := wrap_u64_nonneg n; omega⟩
  have hb : IntKind.u64.wrap n = n % 18446744073709551616 := by simp [IntKind.wrap, IntKind.bits, IntKind.signed]
  rw [hm, show (31 : Int) = ((31 : Nat) : Int) from rfl, u64_and_nat m 31 (by omega) (by omega)]
  rw [show m &&& 31 = m % 2 ^ 5 from Nat.and_two_pow_sub_one_eq_mod m 5]
  omega

theorem rot_int (x k : Nat) (hx : x < 4294967296) : bits .or .u32 ((x : Int) / 2 ^ k) ((x : Int) * 2 ^ (32 - k) % 4294967296) = (rotr x k : Nat) := by
  have h1 : (x : Int) / 2 ^ k = ((x >>> k : Nat) : Int) := by rw [Nat.shiftRight_eq_div_pow]; simp
  have h2 : (x : Int) * 2 ^ (32 - k) % 4294967296 = (((x <<< (32 - k)) % 4294967296 : Nat) : Int) := by rw [Nat.shiftLeft_eq]; simp
  rw [h1, h2, u32_or_nat _ _ _ (Nat.mod_lt _ (by omega))]
  · rfl
  · exact Nat.lt_of_le_of_lt (by rw [Nat.shiftRight_eq_div_pow]; exact Nat.div_le_self _ _) hx

set_option maxHeartbeats 400000 in
theorem turn_any (x k : Nat) (n : Int) (hx : x < 4294967296) (hk : n % 32 = k) (w : World) :
    Calls Try.prog 8 #[.int .u32 x, .int .i64 n] w fun e w' => e = .returned (.int .u32 (rotr x k : Nat)) ∧ w' = w := by
  have hk2 : k < 32 := by omega
  have h31 := and31 n
  rw [hk] at h31
  clear hk
  go_enter Try.func8, Try.ntmps8
  go_wp2
  go_ret
  exact ⟨ret_int (rot_int x k hx), rfl⟩

set_option maxHeartbeats 400000 in
theorem awake_any (w : World) : Calls Try.prog 10 #[] w fun e w' => e = .returned (.bool true) ∧ w' = w := by
  have hr : rotr 1 1 = 2147483648 := by decide
  go_enter Try.func10, Try.ntmps10
  go_wp2_with (go_at_call 8; refine (turn_any 1 1 1 (by omega) (by omega) _).mono ?_; rintro e w' ⟨rfl, rfl⟩)
  go_ret
  exact ⟨rfl, rfl⟩

theorem refstep (x k : Nat) (hx : x < 4294967296) (hk : k + 1 < 32) : bits .or .u32 ((rotr x k : Nat) / 2) ((rotr x k : Nat) * 2147483648 % 4294967296) = (rotr x (k + 1) : Nat) := by
  have h := rot_int (rotr x k) 1 (rotr_lt x k hx (by omega))
  rw [rotr_rotr x k 1 hx (by omega) (by omega), show (k + 1) % 32 = k + 1 from by omega] at h
  simpa using h

set_option maxHeartbeats 400000 in
theorem refturn_any (x k : Nat) (n : Int) (hx : x < 4294967296) (hk : n % 32 = k) (hn : -9223372036854775808 ≤ n ∧ n ≤ 9223372036854775807) (w : World) :
    Calls Try.prog 9 #[.int .u32 x, .int .i64 n] w fun e w' => e = .returned (.int .u32 (rotr x k : Nat)) ∧ w' = w := by
  have hk2 : k < 32 := by omega
  have ht : n.tmod 32 = k ∨ (n.tmod 32 < 0 ∧ n.tmod 32 + 32 = k) := by
    rcases Int.le_total 0 n with h | h
    · left; rw [Int.tmod_eq_emod_of_nonneg h]; omega
    · have := Int.neg_tmod (a := -n) (b := 32)
      rw [Int.neg_neg, Int.tmod_eq_emod_of_nonneg (by omega : 0 ≤ -n)] at this
      omega
  clear hk
  have h0 := rotr_zero x
  rcases ht with h | ⟨h1, h2⟩
  all_goals
    go_enter Try.func9, Try.ntmps9
    go_wp2
    go_loop [0, 6] (fun y i => ∃ j : Nat, j ≤ k ∧ i = .int .i64 j ∧ y = .int .u32 (rotr x j : Nat)) (fun _ i => k - (intOf i).toNat)
    case atStart => exact ⟨0, Nat.zero_le _, rfl, by rw [h0]⟩
    case round =>
      obtain ⟨j, hj, rfl, rfl⟩ := hrel
      by_cases hlt : j < k
      · have hs := refstep x j hx (by omega)
        go_wp2
        go_round
        case rel => exact ⟨j + 1, by omega, by go_num, rfl⟩
        case measure => simp [intOf]; omega
      · obtain rfl : j = k := by omega
        go_wp2
        go_ret
        exact ⟨rfl, rfl⟩
end Go.Proofs.Ytmldfljgngkneaa
