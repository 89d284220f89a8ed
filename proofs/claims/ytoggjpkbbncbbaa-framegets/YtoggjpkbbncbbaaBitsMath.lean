/-
  Numbers as bits, the highest first; bits as bytes, and back. No program here.
-/
import Derived.Test.YtoggjpkbbncbbaaBase
namespace Go.Proofs.Ytoggjpkbbncbbaa

def bitsU (x : UInt8) : List Bool := [x.toNat.testBit 7, x.toNat.testBit 6, x.toNat.testBit 5, x.toNat.testBit 4, x.toNat.testBit 3, x.toNat.testBit 2, x.toNat.testBit 1, x.toNat.testBit 0]
def bitsOf : List UInt8 → List Bool
  | [] => []
  | x :: l => bitsU x ++ bitsOf l
theorem bitsU_length (x : UInt8) : (bitsU x).length = 8 := rfl
theorem bitsOf_length : ∀ l : List UInt8, (bitsOf l).length = 8 * l.length
  | [] => rfl
  | x :: l => by rw [bitsOf, List.length_append, bitsOf_length l]; simp [bitsU]; omega
theorem bitsOf_app : ∀ l m : List UInt8, bitsOf (l ++ m) = bitsOf l ++ bitsOf m
  | [], _ => rfl
  | x :: l, m => by rw [List.cons_append, bitsOf, bitsOf, bitsOf_app l m, List.append_assoc]
theorem bitsU_at (x : UInt8) (j : Nat) (hj : j < 8) : (bitsU x)[j]? = some (x.toNat.testBit (7 - j)) := by
  have hc : j = 0 ∨ j = 1 ∨ j = 2 ∨ j = 3 ∨ j = 4 ∨ j = 5 ∨ j = 6 ∨ j = 7 := by omega
  rcases hc with rfl | rfl | rfl | rfl | rfl | rfl | rfl | rfl <;> rfl
theorem bits_at : ∀ (l : List UInt8) (i : Nat) (x : UInt8), l[i / 8]? = some x → (bitsOf l)[i]? = some (x.toNat.testBit (7 - i % 8))
  | [], i, x, h => by simp at h
  | y :: l, i, x, h => by
    rw [bitsOf]
    by_cases hi : i < 8
    · have h0 : i / 8 = 0 := by omega
      rw [h0] at h
      simp at h
      subst h
      rw [List.getElem?_append_left (by simp [bitsU]; exact hi), bitsU_at y i hi, show i % 8 = i from by omega]
    · have h8 : i / 8 = (i - 8) / 8 + 1 := by omega
      rw [h8, List.getElem?_cons_succ] at h
      have := bits_at l (i - 8) x h
      rw [List.getElem?_append_right (by simp [bitsU]; omega), show (bitsU y).length = 8 from rfl, this, show (i - 8) % 8 = i % 8 from by omega]
theorem u8_ext (x y : UInt8) (h : ∀ j, j < 8 → x.toNat.testBit j = y.toNat.testBit j) : x = y := by
  apply UInt8.toNat_inj.1
  apply Nat.eq_of_testBit_eq
  intro j
  by_cases hj : j < 8
  · exact h j hj
  · have hp : (256 : Nat) ≤ 2 ^ j := Nat.pow_le_pow_right (n := 2) (i := 8) (by omega) (by omega)
    rw [Nat.testBit_lt_two_pow (Nat.lt_of_lt_of_le x.toNat_lt hp), Nat.testBit_lt_two_pow (Nat.lt_of_lt_of_le y.toNat_lt hp)]

/-- The bits of n, w of them, the highest first. -/
def bitsN (n : Nat) : Nat → List Bool
  | 0 => []
  | w + 1 => n.testBit w :: bitsN n w
theorem bitsN_length (n : Nat) : ∀ w, (bitsN n w).length = w
  | 0 => rfl
  | w + 1 => by rw [bitsN, List.length_cons, bitsN_length n w]
theorem bitsN_byte (x : UInt8) : bitsN x.toNat 8 = bitsU x := rfl
/-- The first k of them. -/
theorem bitsN_take (n : Nat) : ∀ (w k : Nat), k < w → (bitsN n w).take (k + 1) = (bitsN n w).take k ++ [n.testBit (w - 1 - k)]
  | 0, k, h => by omega
  | w + 1, 0, _ => by simp [bitsN]
  | w + 1, k + 1, h => by
    rw [bitsN, List.take_succ_cons, List.take_succ_cons, bitsN_take n w k (by omega), List.cons_append]
    congr 4
    omega

/-- The number of bits, the highest first. -/
def num (l : List Bool) : Nat := l.foldl (fun a b => 2 * a + b.toNat) 0
theorem num_snoc (l : List Bool) (b : Bool) : num (l ++ [b]) = 2 * num l + b.toNat := by simp [num]
theorem num_lt : ∀ l : List Bool, num l < 2 ^ l.length := by
  intro l
  generalize hn : l.length = n
  induction n generalizing l with
  | zero => rw [List.eq_nil_of_length_eq_zero hn]; simp [num]
  | succ n ih =>
    obtain ⟨m, b, rfl⟩ : ∃ m b, l = m ++ [b] := ⟨l.dropLast, l.getLast (by rintro rfl; simp at hn), (List.dropLast_concat_getLast _).symm⟩
    have := ih m (by simpa using hn)
    rw [num_snoc, Nat.pow_succ]
    cases b <;> simp <;> omega
theorem num_foldl : ∀ (l : List Bool) (a : Nat), l.foldl (fun a b => 2 * a + b.toNat) a = a * 2 ^ l.length + num l
  | [], a => by simp [num]
  | b :: l, a => by
    show l.foldl _ (2 * a + b.toNat) = _
    have h2 : num (b :: l) = b.toNat * 2 ^ l.length + num l := by
      show l.foldl _ (2 * 0 + b.toNat) = _
      rw [num_foldl l, Nat.mul_zero, Nat.zero_add]
    rw [num_foldl l, h2, List.length_cons, Nat.pow_succ, Nat.add_mul, Nat.mul_comm 2 a, Nat.mul_assoc, Nat.mul_comm 2, ← Nat.add_assoc]
theorem num_cons (b : Bool) (l : List Bool) : num (b :: l) = b.toNat * 2 ^ l.length + num l := by
  show l.foldl _ (2 * 0 + b.toNat) = _
  rw [num_foldl l, Nat.mul_zero, Nat.zero_add]
theorem num_bitsN (n : Nat) : ∀ w, num (bitsN n w) = n % 2 ^ w
  | 0 => by simp [bitsN, num, Nat.mod_one]
  | w + 1 => by
    rw [bitsN, num_cons, bitsN_length, num_bitsN n w, Nat.pow_succ]
    have h1 : (n.testBit w).toNat = n / 2 ^ w % 2 := by
      rw [Nat.testBit_eq_decide_div_mod_eq]
      have : n / 2 ^ w % 2 < 2 := Nat.mod_lt _ (by omega)
      by_cases h : n / 2 ^ w % 2 = 1
      · simp [h]
      · rw [show n / 2 ^ w % 2 = 0 by omega]; rfl
    rw [h1, Nat.mod_mul, Nat.mul_comm, Nat.add_comm]

/-- A byte of eight bits. -/
def byteOf (f : Nat → Bool) : UInt8 := UInt8.ofNat (num [f 0, f 1, f 2, f 3, f 4, f 5, f 6, f 7])
theorem byteOf_toNat (f : Nat → Bool) : (byteOf f).toNat = num [f 0, f 1, f 2, f 3, f 4, f 5, f 6, f 7] := by
  have := num_lt [f 0, f 1, f 2, f 3, f 4, f 5, f 6, f 7]
  unfold byteOf
  rw [UInt8.toNat_ofNat']
  exact Nat.mod_eq_of_lt this
theorem byteOf_bits (f : Nat → Bool) : bitsU (byteOf f) = [f 0, f 1, f 2, f 3, f 4, f 5, f 6, f 7] := by
  unfold bitsU
  rw [byteOf_toNat]
  cases f 0 <;> cases f 1 <;> cases f 2 <;> cases f 3 <;> cases f 4 <;> cases f 5 <;> cases f 6 <;> cases f 7 <;> rfl
theorem byteOf_test (f : Nat → Bool) (k : Nat) (hk : k < 8) : (byteOf f).toNat.testBit (7 - k) = f k := by
  have h := bitsU_at (byteOf f) k hk
  rw [byteOf_bits] at h
  have hc : k = 0 ∨ k = 1 ∨ k = 2 ∨ k = 3 ∨ k = 4 ∨ k = 5 ∨ k = 6 ∨ k = 7 := by omega
  rcases hc with rfl | rfl | rfl | rfl | rfl | rfl | rfl | rfl <;> exact (Option.some.inj h).symm
theorem byteOf_same (f g : Nat → Bool) (h : ∀ k, k < 8 → f k = g k) : byteOf f = byteOf g := by
  unfold byteOf
  rw [h 0 (by omega), h 1 (by omega), h 2 (by omega), h 3 (by omega), h 4 (by omega), h 5 (by omega), h 6 (by omega), h 7 (by omega)]

/-- Bits as bytes, m of them: bits beyond the end are 0. -/
def packN (bs : List Bool) (m : Nat) : List UInt8 := (List.range m).map fun j => byteOf fun k => bs.getD (8 * j + k) false
def packL (bs : List Bool) : List UInt8 := packN bs ((bs.length + 7) / 8)
theorem packN_length (bs : List Bool) (m : Nat) : (packN bs m).length = m := by simp [packN]
theorem packL_length (bs : List Bool) : (packL bs).length = (bs.length + 7) / 8 := packN_length _ _
theorem packN_at (bs : List Bool) (m j : Nat) (hj : j < m) : (packN bs m)[j]? = some (byteOf fun k => bs.getD (8 * j + k) false) := by simp [packN, hj]
theorem packN_bits (bs : List Bool) (m : Nat) (h : bs.length ≤ 8 * m) : bitsOf (packN bs m) = bs ++ List.replicate (8 * m - bs.length) false := by
  apply List.ext_getElem?
  intro i
  by_cases hi : i < 8 * m
  · rw [bits_at _ i _ (packN_at bs m (i / 8) (by omega)), byteOf_test _ (i % 8) (by omega), show 8 * (i / 8) + i % 8 = i by omega]
    by_cases hl : i < bs.length
    · rw [List.getElem?_append_left hl]; simp [hl]
    · rw [List.getElem?_append_right (by omega), List.getElem?_replicate, if_pos (by omega)]
      simp [show bs.length ≤ i by omega]
  · rw [List.getElem?_eq_none (by rw [bitsOf_length, packN_length]; omega), List.getElem?_eq_none (by simp; omega)]
theorem packL_bits (bs : List Bool) : bitsOf (packL bs) = bs ++ List.replicate (8 * ((bs.length + 7) / 8) - bs.length) false := packN_bits bs _ (by omega)
theorem bitsOf_inj : ∀ l m : List UInt8, bitsOf l = bitsOf m → l = m
  | [], [], _ => rfl
  | [], _ :: _, h => by have := congrArg List.length h; simp [bitsOf_length] at this
  | _ :: _, [], h => by have := congrArg List.length h; simp [bitsOf_length] at this
  | x :: l, y :: m, h => by
    have h1 : bitsU x = bitsU y ∧ bitsOf l = bitsOf m := by
      rw [bitsOf, bitsOf] at h
      exact List.append_inj h rfl
    rw [bitsOf_inj l m h1.2]
    congr 1
    apply u8_ext
    intro j hj
    have h2 := congrArg (fun l => l[7 - j]?) h1.1
    simp only [bitsU_at _ _ (show 7 - j < 8 by omega), show 7 - (7 - j) = j from by omega] at h2
    exact Option.some.inj h2
theorem packL_bytes (l : List UInt8) : packL (bitsOf l) = l := by
  apply bitsOf_inj
  rw [packL_bits, bitsOf_length, show 8 * ((8 * l.length + 7) / 8) - 8 * l.length = 0 by omega, List.replicate_zero, List.append_nil]
/-- One bit more, in a row of bytes whose others are noughts. -/
theorem packN_or (bs : List Bool) (m i : Nat) (hi : i < bs.length) (hm : i / 8 < m) (x : UInt8) (hx : (packN (bs.take i) m)[i / 8]? = some x) :
    (packN (bs.take i) m).set (i / 8) (if bs[i] = true then x ||| UInt8.ofNat (2 ^ (7 - i % 8)) else x) = packN (bs.take (i + 1)) m := by
  have hxx : x = byteOf fun k => (bs.take i).getD (8 * (i / 8) + k) false := by
    rw [packN_at _ _ _ hm] at hx; exact (Option.some.inj hx).symm
  apply List.ext_getElem?
  intro j
  rw [List.getElem?_set]
  by_cases hj : i / 8 = j
  · subst hj
    rw [if_pos rfl, if_pos (by rw [packN_length]; exact hm), packN_at _ _ _ hm]
    congr 1
    apply u8_ext
    intro t ht
    obtain ⟨k, hk, rfl⟩ : ∃ k, k < 8 ∧ t = 7 - k := ⟨7 - t, by omega, by omega⟩
    rw [byteOf_test _ k hk]
    have hold : x.toNat.testBit (7 - k) = (bs.take i).getD (8 * (i / 8) + k) false := by rw [hxx, byteOf_test _ k hk]
    have hpow : (UInt8.ofNat (2 ^ (7 - i % 8))).toNat = 2 ^ (7 - i % 8) := by
      rw [UInt8.toNat_ofNat']
      have hp : 2 ^ (7 - i % 8) < 2 ^ 8 := Nat.pow_lt_pow_right (by omega) (by omega)
      exact Nat.mod_eq_of_lt hp
    have htk : ∀ q p : Nat, (bs.take p).getD q false = (decide (q < p) && bs.getD q false) := fun q p => by
      rw [List.getD_eq_getElem?_getD, List.getElem?_take, List.getD_eq_getElem?_getD]
      by_cases h : q < p <;> simp [h]
    rw [htk] at hold ⊢
    by_cases hki : 8 * (i / 8) + k = i
    · have hkm : k = i % 8 := by omega
      rw [hki] at hold ⊢
      have hb : bs.getD i false = bs[i] := by simp [hi]
      rw [hb]
      simp only [Nat.lt_irrefl, decide_false, Bool.false_and] at hold
      by_cases hbi : bs[i] = true
      · rw [if_pos hbi, UInt8.toNat_or, Nat.testBit_or, hpow, hkm, Nat.testBit_two_pow_self, hbi]; simp
      · rw [if_neg hbi, hold]
        have : bs[i] = false := by simpa using hbi
        rw [this]; simp
    · have hle : decide (8 * (i / 8) + k < i + 1) = decide (8 * (i / 8) + k < i) := by
        by_cases h : 8 * (i / 8) + k < i
        · simp [h]; omega
        · have : ¬ 8 * (i / 8) + k < i + 1 := by omega
          simp [h, this]
      rw [hle, ← hold]
      by_cases hbi : bs[i] = true
      · rw [if_pos hbi, UInt8.toNat_or, Nat.testBit_or, hpow, Nat.testBit_two_pow_of_ne (by omega)]; simp
      · rw [if_neg hbi]
  · rw [if_neg hj]
    by_cases hjm : j < m
    · rw [packN_at _ _ _ hjm, packN_at _ _ _ hjm]
      congr 1
      apply byteOf_same
      intro k hk
      rw [List.getD_eq_getElem?_getD, List.getElem?_take, List.getD_eq_getElem?_getD, List.getElem?_take]
      by_cases h : 8 * j + k < i
      · simp [h, show 8 * j + k < i + 1 by omega]
      · simp [h, show ¬ 8 * j + k < i + 1 by omega]
    · rw [List.getElem?_eq_none (by rw [packN_length]; omega), List.getElem?_eq_none (by rw [packN_length]; omega)]
end Go.Proofs.Ytoggjpkbbncbbaa
