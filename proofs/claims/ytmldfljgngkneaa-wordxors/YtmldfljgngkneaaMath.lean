/-
  Words of 32 bits turned to the right, as plain numbers: what follows from the definition (no program here).
-/
import Derived.Laws.BitsAllLaws
namespace Go.Proofs.Ytmldfljgngkneaa

def rotr (x k : Nat) : Nat := (x >>> k) ||| ((x <<< (32 - k)) % 4294967296)

theorem rotr_bv (x k : Nat) (hx : x < 4294967296) (hk : k < 32) : rotr x k = ((BitVec.ofNat 32 x).rotateRight k).toNat := by
  rw [BitVec.rotateRight_def]
  simp only [BitVec.toNat_or, BitVec.toNat_ushiftRight, BitVec.toNat_shiftLeft, BitVec.toNat_ofNat, rotr]
  rw [Nat.mod_eq_of_lt (a := k) hk, Nat.mod_eq_of_lt (a := x) (b := 2 ^ 32) (by omega)]

theorem rotr_lt (x k : Nat) (hx : x < 4294967296) (hk : k < 32) : rotr x k < 4294967296 := by
  rw [rotr_bv x k hx hk]; exact ((BitVec.ofNat 32 x).rotateRight k).isLt

theorem rotr_zero (x : Nat) : rotr x 0 = x := by
  have h : x <<< 32 % 4294967296 = 0 := by rw [Nat.shiftLeft_eq]; omega
  simp [rotr, h]

theorem rotr_rotr (x j k : Nat) (hx : x < 4294967296) (hj : j < 32) (hk : k < 32) : rotr (rotr x j) k = rotr x ((j + k) % 32) := by
  rw [rotr_bv (rotr x j) k (rotr_lt x j hx hj) hk, rotr_bv x j hx hj, rotr_bv x ((j + k) % 32) hx (Nat.mod_lt _ (by omega))]
  congr 1
  rw [BitVec.ofNat_toNat, BitVec.setWidth_eq]
  apply BitVec.eq_of_getLsbD_eq
  intro i hi
  simp only [BitVec.getLsbD_rotateRight]
  rw [Nat.mod_eq_of_lt (a := k) hk, Nat.mod_eq_of_lt (a := j) hj, Nat.mod_mod]
  by_cases h : j + k < 32
  · rw [Nat.mod_eq_of_lt h]
    by_cases h1 : i < 32 - k
    · by_cases h2 : k + i < 32 - j
      · simp [h1, h2, show i < 32 - (j + k) from by omega, Nat.add_assoc]
      · simp [h1, h2, show ¬ i < 32 - (j + k) from by omega, hi, show k + i < 32 from by omega]
        congr 1; omega
    · simp [h1, hi, show i - (32 - k) < 32 - j from by omega, show ¬ i < 32 - (j + k) from by omega]
      congr 1; omega
  · rw [show (j + k) % 32 = j + k - 32 from by omega]
    by_cases h1 : i < 32 - k
    · simp [h1, show ¬ k + i < 32 - j from by omega, show i < 32 - (j + k - 32) from by omega, show k + i < 32 from by omega]
      congr 1; omega
    · by_cases h2 : i - (32 - k) < 32 - j
      · simp [h1, h2, hi, show i < 32 - (j + k - 32) from by omega]
        congr 1; omega
      · simp [h1, h2, hi, show ¬ i < 32 - (j + k - 32) from by omega, show i - (32 - k) < 32 from by omega]
        congr 1; omega
end Go.Proofs.Ytmldfljgngkneaa
