/-
  Words of 32 bits turned to the right, as plain numbers: what follows from the definition (no program here).
-/
import Derived.Laws.BitsAllLaws
namespace Go.Proofs.Ytgnllmcgebonpaa

def rotr (x k : Nat) : Nat := (x >>> k) ||| ((x <<< (32 - k)) % 4294967296)

theorem rotr_bv (x k : Nat) (hx : x < 4294967296) (hk : k < 32) : rotr x k = ((BitVec.ofNat 32 x).rotateRight k).toNat := by
  rw [BitVec.rotateRight_def]
  simp only [BitVec.toNat_or, BitVec.toNat_ushiftRight, BitVec.toNat_shiftLeft, BitVec.toNat_ofNat, rotr]
  rw [Nat.mod_eq_of_lt (a := k) hk, Nat.mod_eq_of_lt (a := x) (b := 2 ^ 32) (by omega)]

theorem rotr_lt (x k : Nat) (hx : x < 4294967296) (hk : k < 32) : rotr x k < 4294967296 := by
  rw [rotr_bv x k hx hk]; exact ((BitVec.ofNat 32 x).rotateRight k).isLt

theorem rotr_zero (x : Nat) : rotr x 0 = x := by
  have h : x <<< 32 % 4294967296 = 0 := by rw [Nat.shiftLeft_eq]; omega
  simp [rotr, h]

theorem rotr_rotr (x j k : Nat) (hx : x < 4294967296) (hj : j < 32) (hk : k < 32) : rotr (rotr x j) k = rotr x ((j + k) % 32) := by
  rw [rotr_bv (rotr x j) k (rotr_lt x j hx hj) hk, rotr_bv x j hx hj, rotr_bv x ((j + k) % 32) hx (Nat.mod_lt _ (by omega))]
  congr 1
  rw [BitVec.ofNat_toNat, BitVec.setWidth_eq]
  apply BitVec.eq_of_getLsbD_eq
  intro i hi
  simp only [BitVec.getLsbD_rotateRight]
  rw [Nat.mod_eq_of_lt (a := k) hk, Nat.mod_eq_of_lt (a := j) hj, Nat.mod_mod]
  by_cases h : j + k < 32
  · rw [Nat.mod_eq_of_lt h]
    by_cases h1 : i < 32 - k
    · by_cases h2 : k + i < 32 - j
      · simp [h1, h2, show i < 32 - (j + k) from by omega, Nat.add_assoc]
      · simp [h1, h2, show ¬ i < 32 - (j + k) from by omega, hi, show k + i < 32 from by omega]
        congr 1; omega
    · simp [h1, hi, show i - (32 - k) < 32 - j from by omega, show ¬ i < 32 - (j + k) from by omega]
      congr 1; omega
  · rw [show (j + k) % 32 = j + k - 32 from by omega]
    by_cases h1 : i < 32 - k
    · simp [h1, show ¬ k + i < 32 - j from by omega, show i < 32 - (j + k - 32) from by omega, show k + i < 32 from by omega]
      congr 1; omega
    · by_cases h2 : i - (32 - k) < 32 - j
      · simp [h1, h2, hi, show i < 32 - (j + k - 32) from by omega]
        congr 1; omega
      · simp [h1, h2, hi, show ¬ i < 32 - (j + k - 32) from by omega, show i - (32 - k) < 32 from by omega]
        congr 1; omega

/-- The highest byte first. -/
def be (l : List UInt8) : Nat := l.foldl (fun x c => x * 256 + c.toNat) 0

theorem be_snoc (l : List UInt8) (c : UInt8) : be (l ++ [c]) = be l * 256 + c.toNat := by simp [be, List.foldl_append]

theorem be_lt_aux (l : List UInt8) : ∀ x B : Nat, x < B → l.foldl (fun x c => x * 256 + c.toNat) x < B * 256 ^ l.length := by
  induction l with
  | nil => intro x B h; simpa using h
  | cons c l ih =>
    intro x B h
    have hc := c.toNat_lt
    have h1 : x * 256 + c.toNat < B * 256 := by omega
    have h2 := ih (x * 256 + c.toNat) (B * 256) h1
    simp only [List.foldl_cons, List.length_cons]
    rw [show B * 256 ^ (l.length + 1) = B * 256 * 256 ^ l.length from by rw [Nat.pow_succ, Nat.mul_comm (256 ^ l.length) 256, Nat.mul_assoc]]
    exact h2

theorem be_lt (l : List UInt8) : be l < 256 ^ l.length := by have := be_lt_aux l 0 1 (by omega); simpa [be] using this

/-- A word as four bytes. -/
def w4 (x : Nat) : List UInt8 := [UInt8.ofNat (x / 16777216), UInt8.ofNat (x / 65536), UInt8.ofNat (x / 256), UInt8.ofNat x]

theorem w4_length (x : Nat) : (w4 x).length = 4 := rfl

theorem be_w4 (x : Nat) (h : x < 4294967296) : be (w4 x) = x := by
  simp only [be, w4, List.foldl_cons, List.foldl_nil, UInt8.toNat_ofNat']
  omega

theorem be_from (m : List UInt8) : ∀ x : Nat, m.foldl (fun x c => x * 256 + c.toNat) x = x * 256 ^ m.length + be m := by
  induction m with
  | nil => intro x; simp [be]
  | cons c m ih =>
    intro x
    have h0 := ih c.toNat
    simp only [List.foldl_cons, List.length_cons, be, Nat.zero_mul, Nat.zero_add] at *
    rw [ih, h0, Nat.pow_succ, Nat.mul_comm (256 ^ m.length) 256, ← Nat.mul_assoc, Nat.add_mul]
    omega

theorem be_append (l m : List UInt8) : be (l ++ m) = be l * 256 ^ m.length + be m := by
  have := be_from m (be l)
  simp only [be, List.foldl_append] at *
  exact this

/-- Words, one behind the other. -/
def w4s (l : List Nat) : List UInt8 := l.flatMap w4

theorem w4s_length (l : List Nat) : (w4s l).length = 4 * l.length := by
  induction l with
  | nil => rfl
  | cons x l ih => simp only [w4s, List.flatMap_cons, List.length_append, w4_length, List.length_cons] at *; omega

theorem w4s_snoc (l : List Nat) (x : Nat) : w4s (l ++ [x]) = w4s l ++ w4 x := by simp [w4s, List.flatMap_append]

end Go.Proofs.Ytgnllmcgebonpaa
