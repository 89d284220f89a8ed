/-
  Keys out of keys over lists of bytes, and what follows of it. No program here.
-/
import Derived.Test.YtkpaldkmikjpiaaDoorHmacMath
namespace Go.Proofs.YtkpaldkmikjpiaaDoor

/-- T(i): nothing ahead of the first. -/
def tK (key info : List UInt8) : Nat → List UInt8
  | 0 => []
  | i + 1 => hmacL key (tK key info i ++ info ++ [UInt8.ofNat (i + 1)])
/-- T1 to Tk, side by side. -/
def catK (key info : List UInt8) : Nat → List UInt8
  | 0 => []
  | i + 1 => catK key info i ++ tK key info (i + 1)
def expandL (key info : List UInt8) (n : Nat) : List UInt8 := (catK key info ((n + 31) / 32)).take n

theorem tK_length (key info : List UInt8) (i : Nat) (h : 0 < i) : (tK key info i).length = 32 := by
  cases i with
  | zero => omega
  | succ i => exact hmacL_length _ _
theorem tK_le (key info : List UInt8) (i : Nat) : (tK key info i).length ≤ 32 := by
  cases i with
  | zero => simp [tK]
  | succ i => rw [tK_length _ _ _ (by omega)]; exact Nat.le_refl _
theorem catK_length (key info : List UInt8) : ∀ i, (catK key info i).length = 32 * i
  | 0 => rfl
  | i + 1 => by rw [catK, List.length_append, catK_length key info i, tK_length _ _ _ (by omega)]; omega
theorem catK_more (key info : List UInt8) (k : Nat) : ∀ j, ∃ r, catK key info (k + j) = catK key info k ++ r
  | 0 => ⟨[], by simp⟩
  | j + 1 => by
    obtain ⟨r, hr⟩ := catK_more key info k j
    exact ⟨r ++ tK key info (k + j + 1), by rw [← Nat.add_assoc, catK, hr, List.append_assoc]⟩
theorem catK_take (key info : List UInt8) (k n : Nat) (h : n ≤ 32 * k) : (catK key info k).take n = expandL key info n := by
  obtain ⟨r, hr⟩ := catK_more key info ((n + 31) / 32) (k - (n + 31) / 32)
  rw [show (n + 31) / 32 + (k - (n + 31) / 32) = k from by omega] at hr
  unfold expandL
  rw [hr, List.take_append_of_le_length (by rw [catK_length]; omega)]
theorem expandL_length (key info : List UInt8) (n : Nat) : (expandL key info n).length = n := by
  unfold expandL; rw [List.length_take, catK_length]; omega
theorem expandL_fewer (key info : List UInt8) (a b : Nat) (h : a ≤ b) : (expandL key info b).take a = expandL key info a := by
  unfold expandL
  rw [List.take_take, Nat.min_eq_left h]
  exact catK_take key info _ a (by omega)

/-- Letters, one to 64. -/
def labelL (s : List UInt8) : Bool := s.all (fun c => decide (97 ≤ c.toNat ∧ c.toNat ≤ 122)) && decide (1 ≤ s.length ∧ s.length ≤ 64)
def longsL : List Nat → List UInt8
  | [] => []
  | n :: l => w4s [n / 4294967296, n % 4294967296] ++ longsL l
theorem longsL_snoc : ∀ (l : List Nat) (n : Nat), longsL (l ++ [n]) = longsL l ++ w4s [n / 4294967296, n % 4294967296]
  | [], n => by simp [longsL]
  | x :: l, n => by simp [longsL, longsL_snoc l n]
theorem longsL_length : ∀ l : List Nat, (longsL l).length = 8 * l.length
  | [] => rfl
  | n :: l => by rw [longsL, List.length_append, longsL_length l, w4s_length]; simp; omega
def infoL (name : List UInt8) (l : List Nat) : List UInt8 := name ++ [0] ++ longsL l
def keyOf (from_ name : List UInt8) (l : List Nat) : List UInt8 := expandL from_ (infoL name l) 16
theorem keyOf_length (f n : List UInt8) (l : List Nat) : (keyOf f n l).length = 16 := expandL_length _ _ _
end Go.Proofs.YtkpaldkmikjpiaaDoor
