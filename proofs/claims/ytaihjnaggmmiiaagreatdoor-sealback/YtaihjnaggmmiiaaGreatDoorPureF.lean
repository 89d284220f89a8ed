/-
  Numbers as bits, the highest first; bits as bytes, and back. No program here.

  Sums of bits, of any width, over plain numbers: they are linear, and a burst no longer than the sum is found. No program here.

  Bytes as bits, the highest first; sums of bytes; bursts. No program here.
-/
import Derived.Test.YtaihjnaggmmiiaaGreatDoorGround
namespace Go.Proofs.YtaihjnaggmmiiaaGreatDoor

def bitsU (x : UInt8) : List Bool := [x.toNat.testBit 7, x.toNat.testBit 6, x.toNat.testBit 5, x.toNat.testBit 4, x.toNat.testBit 3, x.toNat.testBit 2, x.toNat.testBit 1, x.toNat.testBit 0]
def bitsOf : List UInt8 → List Bool
  | [] => []
  | x :: l => bitsU x ++ bitsOf l
theorem bitsU_length (x : UInt8) : (bitsU x).length = 8 := rfl
theorem bitsOf_length : ∀ l : List UInt8, (bitsOf l).length = 8 * l.length
  | [] => rfl
  | x :: l => by rw [bitsOf, List.length_append, bitsOf_length l]; simp [bitsU]; omega
theorem bitsOf_app : ∀ l m : List UInt8, bitsOf (l ++ m) = bitsOf l ++ bitsOf m
  | [], _ => rfl
  | x :: l, m => by rw [List.cons_append, bitsOf, bitsOf, bitsOf_app l m, List.append_assoc]
theorem bitsU_at (x : UInt8) (j : Nat) (hj : j < 8) : (bitsU x)[j]? = some (x.toNat.testBit (7 - j)) := by
  have hc : j = 0 ∨ j = 1 ∨ j = 2 ∨ j = 3 ∨ j = 4 ∨ j = 5 ∨ j = 6 ∨ j = 7 := by omega
  rcases hc with rfl | rfl | rfl | rfl | rfl | rfl | rfl | rfl <;> rfl
theorem bits_at : ∀ (l : List UInt8) (i : Nat) (x : UInt8), l[i / 8]? = some x → (bitsOf l)[i]? = some (x.toNat.testBit (7 - i % 8))
  | [], i, x, h => by simp at h
  | y :: l, i, x, h => by
    rw [bitsOf]
    by_cases hi : i < 8
    · have h0 : i / 8 = 0 := by omega
      rw [h0] at h
      simp at h
      subst h
      rw [List.getElem?_append_left (by simp [bitsU]; exact hi), bitsU_at y i hi, show i % 8 = i from by omega]
    · have h8 : i / 8 = (i - 8) / 8 + 1 := by omega
      rw [h8, List.getElem?_cons_succ] at h
      have := bits_at l (i - 8) x h
      rw [List.getElem?_append_right (by simp [bitsU]; omega), show (bitsU y).length = 8 from rfl, this, show (i - 8) % 8 = i % 8 from by omega]
theorem u8_ext (x y : UInt8) (h : ∀ j, j < 8 → x.toNat.testBit j = y.toNat.testBit j) : x = y := by
  apply UInt8.toNat_inj.1
  apply Nat.eq_of_testBit_eq
  intro j
  by_cases hj : j < 8
  · exact h j hj
  · have hp : (256 : Nat) ≤ 2 ^ j := Nat.pow_le_pow_right (n := 2) (i := 8) (by omega) (by omega)
    rw [Nat.testBit_lt_two_pow (Nat.lt_of_lt_of_le x.toNat_lt hp), Nat.testBit_lt_two_pow (Nat.lt_of_lt_of_le y.toNat_lt hp)]

/-- The bits of n, w of them, the highest first. -/
def bitsN (n : Nat) : Nat → List Bool
  | 0 => []
  | w + 1 => n.testBit w :: bitsN n w
theorem bitsN_length (n : Nat) : ∀ w, (bitsN n w).length = w
  | 0 => rfl
  | w + 1 => by rw [bitsN, List.length_cons, bitsN_length n w]
theorem bitsN_byte (x : UInt8) : bitsN x.toNat 8 = bitsU x := rfl
/-- The first k of them. -/
theorem bitsN_take (n : Nat) : ∀ (w k : Nat), k < w → (bitsN n w).take (k + 1) = (bitsN n w).take k ++ [n.testBit (w - 1 - k)]
  | 0, k, h => by omega
  | w + 1, 0, _ => by simp [bitsN]
  | w + 1, k + 1, h => by
    rw [bitsN, List.take_succ_cons, List.take_succ_cons, bitsN_take n w k (by omega), List.cons_append]
    congr 4
    omega

/-- The number of bits, the highest first. -/
def num (l : List Bool) : Nat := l.foldl (fun a b => 2 * a + b.toNat) 0
theorem num_snoc (l : List Bool) (b : Bool) : num (l ++ [b]) = 2 * num l + b.toNat := by simp [num]
theorem num_lt : ∀ l : List Bool, num l < 2 ^ l.length := by
  intro l
  generalize hn : l.length = n
  induction n generalizing l with
  | zero => rw [List.eq_nil_of_length_eq_zero hn]; simp [num]
  | succ n ih =>
    obtain ⟨m, b, rfl⟩ : ∃ m b, l = m ++ [b] := ⟨l.dropLast, l.getLast (by rintro rfl; simp at hn), (List.dropLast_concat_getLast _).symm⟩
    have := ih m (by simpa using hn)
    rw [num_snoc, Nat.pow_succ]
    cases b <;> simp <;> omega
theorem num_foldl : ∀ (l : List Bool) (a : Nat), l.foldl (fun a b => 2 * a + b.toNat) a = a * 2 ^ l.length + num l
  | [], a => by simp [num]
  | b :: l, a => by
    show l.foldl _ (2 * a + b.toNat) = _
    have h2 : num (b :: l) = b.toNat * 2 ^ l.length + num l := by
      show l.foldl _ (2 * 0 + b.toNat) = _
      rw [num_foldl l, Nat.mul_zero, Nat.zero_add]
    rw [num_foldl l, h2, List.length_cons, Nat.pow_succ, Nat.add_mul, Nat.mul_comm 2 a, Nat.mul_assoc, Nat.mul_comm 2, ← Nat.add_assoc]
theorem num_cons (b : Bool) (l : List Bool) : num (b :: l) = b.toNat * 2 ^ l.length + num l := by
  show l.foldl _ (2 * 0 + b.toNat) = _
  rw [num_foldl l, Nat.mul_zero, Nat.zero_add]
theorem num_bitsN (n : Nat) : ∀ w, num (bitsN n w) = n % 2 ^ w
  | 0 => by simp [bitsN, num, Nat.mod_one]
  | w + 1 => by
    rw [bitsN, num_cons, bitsN_length, num_bitsN n w, Nat.pow_succ]
    have h1 : (n.testBit w).toNat = n / 2 ^ w % 2 := by
      rw [Nat.testBit_eq_decide_div_mod_eq]
      have : n / 2 ^ w % 2 < 2 := Nat.mod_lt _ (by omega)
      by_cases h : n / 2 ^ w % 2 = 1
      · simp [h]
      · rw [show n / 2 ^ w % 2 = 0 by omega]; rfl
    rw [h1, Nat.mod_mul, Nat.mul_comm, Nat.add_comm]

/-- A byte of eight bits. -/
def byteOf (f : Nat → Bool) : UInt8 := UInt8.ofNat (num [f 0, f 1, f 2, f 3, f 4, f 5, f 6, f 7])
theorem byteOf_toNat (f : Nat → Bool) : (byteOf f).toNat = num [f 0, f 1, f 2, f 3, f 4, f 5, f 6, f 7] := by
  have := num_lt [f 0, f 1, f 2, f 3, f 4, f 5, f 6, f 7]
  unfold byteOf
  rw [UInt8.toNat_ofNat']
  exact Nat.mod_eq_of_lt this
theorem byteOf_bits (f : Nat → Bool) : bitsU (byteOf f) = [f 0, f 1, f 2, f 3, f 4, f 5, f 6, f 7] := by
  unfold bitsU
  rw [byteOf_toNat]
  cases f 0 <;> cases f 1 <;> cases f 2 <;> cases f 3 <;> cases f 4 <;> cases f 5 <;> cases f 6 <;> cases f 7 <;> rfl
theorem byteOf_test (f : Nat → Bool) (k : Nat) (hk : k < 8) : (byteOf f).toNat.testBit (7 - k) = f k := by
  have h := bitsU_at (byteOf f) k hk
  rw [byteOf_bits] at h
  have hc : k = 0 ∨ k = 1 ∨ k = 2 ∨ k = 3 ∨ k = 4 ∨ k = 5 ∨ k = 6 ∨ k = 7 := by omega
  rcases hc with rfl | rfl | rfl | rfl | rfl | rfl | rfl | rfl <;> exact (Option.some.inj h).symm
theorem byteOf_same (f g : Nat → Bool) (h : ∀ k, k < 8 → f k = g k) : byteOf f = byteOf g := by
  unfold byteOf
  rw [h 0 (by omega), h 1 (by omega), h 2 (by omega), h 3 (by omega), h 4 (by omega), h 5 (by omega), h 6 (by omega), h 7 (by omega)]

/-- Bits as bytes, m of them: bits beyond the end are 0. -/
def packN (bs : List Bool) (m : Nat) : List UInt8 := (List.range m).map fun j => byteOf fun k => bs.getD (8 * j + k) false
def packL (bs : List Bool) : List UInt8 := packN bs ((bs.length + 7) / 8)
theorem packN_length (bs : List Bool) (m : Nat) : (packN bs m).length = m := by simp [packN]
theorem packL_length (bs : List Bool) : (packL bs).length = (bs.length + 7) / 8 := packN_length _ _
theorem packN_at (bs : List Bool) (m j : Nat) (hj : j < m) : (packN bs m)[j]? = some (byteOf fun k => bs.getD (8 * j + k) false) := by simp [packN, hj]
theorem packN_bits (bs : List Bool) (m : Nat) (h : bs.length ≤ 8 * m) : bitsOf (packN bs m) = bs ++ List.replicate (8 * m - bs.length) false := by
  apply List.ext_getElem?
  intro i
  by_cases hi : i < 8 * m
  · rw [bits_at _ i _ (packN_at bs m (i / 8) (by omega)), byteOf_test _ (i % 8) (by omega), show 8 * (i / 8) + i % 8 = i by omega]
    by_cases hl : i < bs.length
    · rw [List.getElem?_append_left hl]; simp [hl]
    · rw [List.getElem?_append_right (by omega), List.getElem?_replicate, if_pos (by omega)]
      simp [show bs.length ≤ i by omega]
  · rw [List.getElem?_eq_none (by rw [bitsOf_length, packN_length]; omega), List.getElem?_eq_none (by simp; omega)]
theorem packL_bits (bs : List Bool) : bitsOf (packL bs) = bs ++ List.replicate (8 * ((bs.length + 7) / 8) - bs.length) false := packN_bits bs _ (by omega)
theorem bitsOf_inj : ∀ l m : List UInt8, bitsOf l = bitsOf m → l = m
  | [], [], _ => rfl
  | [], _ :: _, h => by have := congrArg List.length h; simp [bitsOf_length] at this
  | _ :: _, [], h => by have := congrArg List.length h; simp [bitsOf_length] at this
  | x :: l, y :: m, h => by
    have h1 : bitsU x = bitsU y ∧ bitsOf l = bitsOf m := by
      rw [bitsOf, bitsOf] at h
      exact List.append_inj h rfl
    rw [bitsOf_inj l m h1.2]
    congr 1
    apply u8_ext
    intro j hj
    have h2 := congrArg (fun l => l[7 - j]?) h1.1
    simp only [bitsU_at _ _ (show 7 - j < 8 by omega), show 7 - (7 - j) = j from by omega] at h2
    exact Option.some.inj h2
theorem packL_bytes (l : List UInt8) : packL (bitsOf l) = l := by
  apply bitsOf_inj
  rw [packL_bits, bitsOf_length, show 8 * ((8 * l.length + 7) / 8) - 8 * l.length = 0 by omega, List.replicate_zero, List.append_nil]
/-- One bit more, in a row of bytes whose others are noughts. -/
theorem packN_or (bs : List Bool) (m i : Nat) (hi : i < bs.length) (hm : i / 8 < m) (x : UInt8) (hx : (packN (bs.take i) m)[i / 8]? = some x) :
    (packN (bs.take i) m).set (i / 8) (if bs[i] = true then x ||| UInt8.ofNat (2 ^ (7 - i % 8)) else x) = packN (bs.take (i + 1)) m := by
  have hxx : x = byteOf fun k => (bs.take i).getD (8 * (i / 8) + k) false := by
    rw [packN_at _ _ _ hm] at hx; exact (Option.some.inj hx).symm
  apply List.ext_getElem?
  intro j
  rw [List.getElem?_set]
  by_cases hj : i / 8 = j
  · subst hj
    rw [if_pos rfl, if_pos (by rw [packN_length]; exact hm), packN_at _ _ _ hm]
    congr 1
    apply u8_ext
    intro t ht
    obtain ⟨k, hk, rfl⟩ : ∃ k, k < 8 ∧ t = 7 - k := ⟨7 - t, by omega, by omega⟩
    rw [byteOf_test _ k hk]
    have hold : x.toNat.testBit (7 - k) = (bs.take i).getD (8 * (i / 8) + k) false := by rw [hxx, byteOf_test _ k hk]
    have hpow : (UInt8.ofNat (2 ^ (7 - i % 8))).toNat = 2 ^ (7 - i % 8) := by
      rw [UInt8.toNat_ofNat']
      have hp : 2 ^ (7 - i % 8) < 2 ^ 8 := Nat.pow_lt_pow_right (by omega) (by omega)
      exact Nat.mod_eq_of_lt hp
    have htk : ∀ q p : Nat, (bs.take p).getD q false = (decide (q < p) && bs.getD q false) := fun q p => by
      rw [List.getD_eq_getElem?_getD, List.getElem?_take, List.getD_eq_getElem?_getD]
      by_cases h : q < p <;> simp [h]
    rw [htk] at hold ⊢
    by_cases hki : 8 * (i / 8) + k = i
    · have hkm : k = i % 8 := by omega
      rw [hki] at hold ⊢
      have hb : bs.getD i false = bs[i] := by simp [hi]
      rw [hb]
      simp only [Nat.lt_irrefl, decide_false, Bool.false_and] at hold
      by_cases hbi : bs[i] = true
      · rw [if_pos hbi, UInt8.toNat_or, Nat.testBit_or, hpow, hkm, Nat.testBit_two_pow_self, hbi]; simp
      · rw [if_neg hbi, hold]
        have : bs[i] = false := by simpa using hbi
        rw [this]; simp
    · have hle : decide (8 * (i / 8) + k < i + 1) = decide (8 * (i / 8) + k < i) := by
        by_cases h : 8 * (i / 8) + k < i
        · simp [h]; omega
        · have : ¬ 8 * (i / 8) + k < i + 1 := by omega
          simp [h, this]
      rw [hle, ← hold]
      by_cases hbi : bs[i] = true
      · rw [if_pos hbi, UInt8.toNat_or, Nat.testBit_or, hpow, Nat.testBit_two_pow_of_ne (by omega)]; simp
      · rw [if_neg hbi]
  · rw [if_neg hj]
    by_cases hjm : j < m
    · rw [packN_at _ _ _ hjm, packN_at _ _ _ hjm]
      congr 1
      apply byteOf_same
      intro k hk
      rw [List.getD_eq_getElem?_getD, List.getElem?_take, List.getD_eq_getElem?_getD, List.getElem?_take]
      by_cases h : 8 * j + k < i
      · simp [h, show 8 * j + k < i + 1 by omega]
      · simp [h, show ¬ 8 * j + k < i + 1 by omega]
    · rw [List.getElem?_eq_none (by rw [packN_length]; omega), List.getElem?_eq_none (by rw [packN_length]; omega)]
end Go.Proofs.YtaihjnaggmmiiaaGreatDoor

namespace Go.Proofs.YtaihjnaggmmiiaaGreatDoor

/-- One nought fed in. -/
def zS (W P s : Nat) : Nat := (s * 2 % 2 ^ W) ^^^ (if s.testBit (W - 1) then P else 0)
/-- One bit fed in, the highest first. -/
def stepS (W P s : Nat) (b : Bool) : Nat := (s * 2 % 2 ^ W) ^^^ (if (s.testBit (W - 1) != b) then P else 0)
def runS (W P s : Nat) : List Bool → Nat
  | [] => s
  | b :: l => runS W P (stepS W P s b) l

theorem runS_app (W P : Nat) : ∀ (l m : List Bool) (s : Nat), runS W P s (l ++ m) = runS W P (runS W P s l) m
  | [], _, _ => rfl
  | b :: l, m, s => by rw [List.cons_append, runS, runS, runS_app W P l m]

theorem dbl_xor (W s t : Nat) : (s ^^^ t) * 2 % 2 ^ W = (s * 2 % 2 ^ W) ^^^ (t * 2 % 2 ^ W) := by
  rw [← Nat.xor_mod_two_pow]
  congr 1
  have h : ∀ x : Nat, x * 2 = x <<< 1 := fun x => by rw [Nat.shiftLeft_eq]
  rw [h, h, h, Nat.shiftLeft_xor_distrib]

theorem if_xor (P : Nat) (a b : Bool) : (if (a != b) then P else 0) = (if a then P else 0) ^^^ (if b then P else 0) := by
  cases a <;> cases b <;> simp

/-- Feeding is linear. -/
theorem stepS_xor (W P s t : Nat) (a b : Bool) : stepS W P (s ^^^ t) (a != b) = stepS W P s a ^^^ stepS W P t b := by
  unfold stepS
  rw [dbl_xor, Nat.testBit_xor]
  have h : ((s.testBit (W - 1) != t.testBit (W - 1)) != (a != b)) = ((s.testBit (W - 1) != a) != (t.testBit (W - 1) != b)) := by
    cases s.testBit (W - 1) <;> cases t.testBit (W - 1) <;> cases a <;> cases b <;> rfl
  rw [h, if_xor]
  ac_rfl

def xorB (l m : List Bool) : List Bool := List.zipWith (· != ·) l m
theorem runS_xor (W P : Nat) : ∀ (l m : List Bool) (s t : Nat), l.length = m.length → runS W P (s ^^^ t) (xorB l m) = runS W P s l ^^^ runS W P t m
  | [], [], _, _, _ => rfl
  | a :: l, b :: m, s, t, h => by
    show runS W P (stepS W P (s ^^^ t) (a != b)) (xorB l m) = _
    rw [stepS_xor, runS_xor W P l m _ _ (by simpa using h)]
    rfl
  | [], _ :: _, _, _, h => by simp at h
  | _ :: _, [], _, _, h => by simp at h

theorem zS_eq (W P s : Nat) : stepS W P s false = zS W P s := by unfold stepS zS; simp

theorem stepS_lt (W P s : Nat) (hP : P < 2 ^ W) (b : Bool) : stepS W P s b < 2 ^ W := by
  unfold stepS
  refine Nat.xor_lt_two_pow (Nat.mod_lt _ (Nat.two_pow_pos W)) ?_
  split
  · exact hP
  · exact Nat.two_pow_pos W
theorem runS_lt (W P : Nat) (hP : P < 2 ^ W) : ∀ (l : List Bool) (s : Nat), s < 2 ^ W → runS W P s l < 2 ^ W
  | [], _, h => h
  | b :: l, s, _ => runS_lt W P hP l _ (stepS_lt W P s hP b)

/-- A bit fed in is a nought fed in where the highest bit is turned by it. -/
theorem stepS_top (W P s : Nat) (hW : 0 < W) (b : Bool) : stepS W P s b = zS W P (s ^^^ (if b then 2 ^ (W - 1) else 0)) := by
  cases b
  · simp [zS_eq]
  · unfold stepS zS
    rw [if_pos rfl, dbl_xor, Nat.testBit_xor, Nat.testBit_two_pow_self]
    have h2 : 2 ^ (W - 1) * 2 % 2 ^ W = 0 := by
      rw [← Nat.pow_succ, show (W - 1).succ = W from by omega]; exact Nat.mod_self _
    rw [h2, Nat.xor_zero]

theorem top_bit (W s : Nat) (hW : 0 < W) (h : 2 ^ (W - 1) ≤ s) (hs : s < 2 ^ W) : s.testBit (W - 1) = true := by
  have hW2 : 2 ^ W = 2 * 2 ^ (W - 1) := by rw [← Nat.pow_succ', show (W - 1).succ = W from by omega]
  have hpos := Nat.two_pow_pos (W - 1)
  rw [Nat.testBit_eq_decide_div_mod_eq]
  have : s / 2 ^ (W - 1) = 1 := by
    rw [Nat.div_eq_of_lt_le (k := 1)] <;> omega
  simp [this]

/-- Noughts lose nothing where the polynomial is odd. -/
theorem zS_zero (W P s : Nat) (hW : 0 < W) (hs : s < 2 ^ W) (hP : P.testBit 0 = true) (h : zS W P s = 0) : s = 0 := by
  unfold zS at h
  have h1 := congrArg (fun x => x.testBit 0) h
  simp only [Nat.testBit_xor, Nat.zero_testBit] at h1
  have h2 : (s * 2 % 2 ^ W).testBit 0 = false := by
    rw [Nat.testBit_mod_two_pow]
    simp [Nat.testBit_zero]
  rw [h2] at h1
  by_cases ht : s.testBit (W - 1) = true
  · rw [if_pos ht, hP] at h1; simp at h1
  · rw [if_neg ht, Nat.xor_zero] at h
    have hlt : s < 2 ^ (W - 1) := by
      rcases Nat.lt_or_ge s (2 ^ (W - 1)) with g | g
      · exact g
      · exact absurd (top_bit W s hW g hs) ht
    have hW2 : 2 ^ W = 2 * 2 ^ (W - 1) := by rw [← Nat.pow_succ', show (W - 1).succ = W from by omega]
    rw [Nat.mod_eq_of_lt (by omega)] at h
    omega

theorem zS_lt (W P s : Nat) (hP : P < 2 ^ W) : zS W P s < 2 ^ W := by rw [← zS_eq]; exact stepS_lt W P s hP false
theorem zS_xor (W P s t : Nat) : zS W P (s ^^^ t) = zS W P s ^^^ zS W P t := by
  have := stepS_xor W P s t false false
  rw [← zS_eq, ← zS_eq, ← zS_eq]
  simpa using this
theorem zS_small (W P s : Nat) (hW : 0 < W) (hs : s < 2 ^ (W - 1)) : zS W P s = s * 2 := by
  have hW2 : 2 ^ W = 2 * 2 ^ (W - 1) := by rw [← Nat.pow_succ', show (W - 1).succ = W from by omega]
  unfold zS
  rw [Nat.testBit_lt_two_pow hs, Nat.mod_eq_of_lt (by omega)]
  simp

/-- k noughts. -/
def noughts (W P : Nat) : Nat → Nat → Nat
  | 0, s => s
  | k + 1, s => noughts W P k (zS W P s)
theorem runS_noughts (W P : Nat) : ∀ (k s : Nat), runS W P s (List.replicate k false) = noughts W P k s
  | 0, _ => rfl
  | k + 1, s => by rw [List.replicate_succ, runS, zS_eq, noughts, runS_noughts W P k]
theorem noughts_zero (W P : Nat) (hW : 0 < W) (hP : P < 2 ^ W) (hO : P.testBit 0 = true) : ∀ (k s : Nat), s < 2 ^ W → noughts W P k s = 0 → s = 0
  | 0, _, _, h => h
  | k + 1, s, hs, h => zS_zero W P s hW hs hO (noughts_zero W P hW hP hO k _ (zS_lt W P s hP) h)
theorem noughts_none (W P : Nat) (hW : 0 < W) : ∀ k, noughts W P k 0 = 0
  | 0 => rfl
  | k + 1 => by rw [noughts, zS_small W P 0 hW (Nat.two_pow_pos _)]; exact noughts_none W P hW k

/-- Bits as a number, the highest first. -/
def valB : List Bool → Nat
  | [] => 0
  | b :: l => (if b then 2 ^ l.length else 0) + valB l
theorem valB_lt : ∀ l : List Bool, valB l < 2 ^ l.length
  | [] => by simp [valB]
  | b :: l => by
    have := valB_lt l
    rw [valB, List.length_cons, Nat.pow_succ]
    cases b <;> simp <;> omega
theorem valB_zero : ∀ l : List Bool, valB l = 0 → l = List.replicate l.length false
  | [], _ => rfl
  | b :: l, h => by
    rw [valB] at h
    have hp := Nat.two_pow_pos l.length
    cases b
    · simp at h
      rw [List.length_cons, List.replicate_succ, ← valB_zero l h]
    · simp at h

theorem xor_add_top (m x : Nat) (h : x < 2 ^ m) : 2 ^ m + x = 2 ^ m ^^^ x := by
  have h0 := Nat.two_pow_add_eq_or_of_lt h 1
  rw [Nat.mul_one] at h0
  rw [h0]
  apply Nat.eq_of_testBit_eq
  intro i
  rw [Nat.testBit_or, Nat.testBit_xor, Nat.testBit_two_pow]
  by_cases hi : m = i
  · subst hi; rw [Nat.testBit_lt_two_pow h]; simp
  · simp [hi]

/-- Up to W bits fed in are noughts fed in behind a change of what stands. -/
theorem feed (W P : Nat) (hW : 0 < W) : ∀ (l : List Bool) (s : Nat), l.length ≤ W → runS W P s l = noughts W P l.length (s ^^^ (valB l * 2 ^ (W - l.length)))
  | [], s, _ => by simp [runS, noughts, valB]
  | b :: l, s, h => by
    have hl : l.length + 1 ≤ W := by simpa using h
    have hv := valB_lt l
    rw [runS, feed W P hW l _ (by omega), List.length_cons, noughts, stepS_top W P s hW b]
    congr 1
    have h1 : valB l * 2 ^ (W - l.length) = zS W P (valB l * 2 ^ (W - (l.length + 1))) := by
      have h2 : valB l * 2 ^ (W - (l.length + 1)) < 2 ^ (W - 1) := by
        have : 2 ^ (W - 1) = 2 ^ l.length * 2 ^ (W - (l.length + 1)) := by rw [← Nat.pow_add]; congr 1; omega
        rw [this]
        exact Nat.mul_lt_mul_of_pos_right hv (Nat.two_pow_pos _)
      rw [zS_small W P _ hW h2, Nat.mul_assoc, ← Nat.pow_succ]
      congr 2; omega
    rw [h1, ← zS_xor]
    congr 1
    rw [Nat.xor_assoc]
    congr 1
    rw [valB, Nat.add_mul]
    have h3 : valB l * 2 ^ (W - (l.length + 1)) < 2 ^ (W - 1) := by
      have : 2 ^ (W - 1) = 2 ^ l.length * 2 ^ (W - (l.length + 1)) := by rw [← Nat.pow_add]; congr 1; omega
      rw [this]
      exact Nat.mul_lt_mul_of_pos_right hv (Nat.two_pow_pos _)
    cases b
    · simp
    · have h4 : 2 ^ l.length * 2 ^ (W - (l.length + 1)) = 2 ^ (W - 1) := by rw [← Nat.pow_add]; congr 1; omega
      simp only [if_true, h4]
      exact (xor_add_top _ _ h3).symm

/-- Bits within W side by side that leave nothing behind are none. -/
theorem burst_none (W P : Nat) (hW : 0 < W) (hP : P < 2 ^ W) (hO : P.testBit 0 = true) (i j : Nat) (d : List Bool) (hd : d.length ≤ W)
    (h : runS W P 0 (List.replicate i false ++ d ++ List.replicate j false) = 0) : d = List.replicate d.length false := by
  rw [runS_app, runS_app, runS_noughts W P i, noughts_none W P hW, runS_noughts] at h
  have h1 := noughts_zero W P hW hP hO j _ (runS_lt W P hP d 0 (Nat.two_pow_pos W)) h
  rw [feed W P hW d 0 hd, Nat.zero_xor] at h1
  have hlt : valB d * 2 ^ (W - d.length) < 2 ^ W := by
    have : 2 ^ W = 2 ^ d.length * 2 ^ (W - d.length) := by rw [← Nat.pow_add]; congr 1; omega
    rw [this]
    exact Nat.mul_lt_mul_of_pos_right (valB_lt d) (Nat.two_pow_pos _)
  have h2 := noughts_zero W P hW hP hO _ _ hlt h1
  have h3 : valB d = 0 := by
    rcases Nat.mul_eq_zero.1 h2 with g | g
    · exact g
    · exact absurd g (Nat.ne_of_gt (Nat.two_pow_pos _))
  exact valB_zero d h3

/-- The sum behind bytes is right just if all of it leaves nothing. -/
theorem good_iff (W P s : Nat) (hW : 0 < W) (hP : P < 2 ^ W) (hO : P.testBit 0 = true) (hs : s < 2 ^ W) (l c : List Bool) (hc : c.length = W) : runS W P s (l ++ c) = 0 ↔ valB c = runS W P s l := by
  rw [runS_app, feed W P hW c _ (by omega), hc, Nat.sub_self, Nat.pow_zero, Nat.mul_one]
  have hlt := runS_lt W P hP l s hs
  have hv := valB_lt c
  rw [hc] at hv
  constructor
  · intro h
    have h1 := noughts_zero W P hW hP hO W _ (Nat.xor_lt_two_pow hlt hv) h
    have h2 := congrArg (fun x => runS W P s l ^^^ x) h1
    simp only [← Nat.xor_assoc, Nat.xor_self, Nat.zero_xor, Nat.xor_zero] at h2
    exact h2
  · intro h
    rw [h, Nat.xor_self]
    exact noughts_none W P hW W
end Go.Proofs.YtaihjnaggmmiiaaGreatDoor

namespace Go.Proofs.YtaihjnaggmmiiaaGreatDoor

theorem bitsU_xor (x y : UInt8) : bitsU (x ^^^ y) = xorB (bitsU x) (bitsU y) := by
  simp only [bitsU, UInt8.toNat_xor, Nat.testBit_xor]
  rfl
theorem bitsOf_xor : ∀ l m : List UInt8, l.length = m.length → bitsOf (xorL l m) = xorB (bitsOf l) (bitsOf m)
  | [], [], _ => rfl
  | x :: l, y :: m, h => by
    show bitsU (x ^^^ y) ++ bitsOf (xorL l m) = _
    rw [bitsU_xor, bitsOf_xor l m (by simpa using h), bitsOf, bitsOf]
    unfold xorB
    rw [List.zipWith_append (by rfl)]
  | [], _ :: _, h => by simp at h
  | _ :: _, [], h => by simp at h

def crcL (W P s : Nat) (l : List UInt8) : Nat := runS W P s (bitsOf l)
theorem crcL_lt (W P s : Nat) (hP : P < 2 ^ W) (hs : s < 2 ^ W) (l : List UInt8) : crcL W P s l < 2 ^ W := runS_lt W P hP _ s hs
/-- Sums of one beginning are linear. -/
theorem crcL_xor (W P : Nat) (l m : List UInt8) (h : l.length = m.length) : crcL W P 0 (xorL l m) = crcL W P 0 l ^^^ crcL W P 0 m := by
  unfold crcL
  rw [bitsOf_xor l m h]
  have := runS_xor W P (bitsOf l) (bitsOf m) 0 0 (by rw [bitsOf_length, bitsOf_length, h])
  simpa using this

def wholeP : Nat := 0x5D6DCB
def wholeS : Nat := 0xFEDCBA
def wholeL (l : List UInt8) : Nat := crcL 24 wholeP wholeS l
def headL (l : List UInt8) : Nat := crcL 11 0x385 0x1A l
def sum3 (s : Nat) : List UInt8 := [UInt8.ofNat (s / 65536), UInt8.ofNat (s / 256), UInt8.ofNat s]
def fixL (l : List UInt8) : List UInt8 := l ++ sum3 (wholeL l)
def goodL (l : List UInt8) : Bool := decide (3 ≤ l.length ∧ fixL (l.take (l.length - 3)) = l)

theorem wholeL_lt (l : List UInt8) : wholeL l < 16777216 := crcL_lt 24 wholeP wholeS (by decide) (by decide) l
theorem valB_bitsU (x : UInt8) : valB (bitsU x) = x.toNat := by
  have := (by decide +kernel : ∀ n, n < 256 → valB (bitsU (UInt8.ofNat n)) = n) x.toNat x.toNat_lt
  simpa using this
theorem valB_app : ∀ l m : List Bool, valB (l ++ m) = valB l * 2 ^ m.length + valB m
  | [], m => by simp [valB]
  | b :: l, m => by
    rw [List.cons_append, valB, valB, valB_app l m, List.length_append, Nat.pow_add, Nat.add_mul]
    cases b <;> simp <;> omega
theorem valB_sum3 (x y z : UInt8) : valB (bitsOf [x, y, z]) = x.toNat * 65536 + y.toNat * 256 + z.toNat := by
  simp only [bitsOf, valB_app, valB_bitsU, List.append_nil]
  simp [bitsU]
  omega
theorem sum3_val (s : Nat) (h : s < 16777216) : valB (bitsOf (sum3 s)) = s := by
  rw [sum3, valB_sum3]
  simp only [UInt8.toNat_ofNat']
  omega
theorem sum3_of (x y z : UInt8) (s : Nat) (hs : s < 16777216) (h : valB (bitsOf [x, y, z]) = s) : [x, y, z] = sum3 s := by
  rw [valB_sum3] at h
  have hx := x.toNat_lt
  have hy := y.toNat_lt
  have hz := z.toNat_lt
  have e1 : x = UInt8.ofNat (s / 65536) := by apply UInt8.toNat_inj.1; rw [UInt8.toNat_ofNat']; omega
  have e2 : y = UInt8.ofNat (s / 256) := by apply UInt8.toNat_inj.1; rw [UInt8.toNat_ofNat']; omega
  have e3 : z = UInt8.ofNat s := by apply UInt8.toNat_inj.1; rw [UInt8.toNat_ofNat']; omega
  rw [sum3, ← e1, ← e2, ← e3]

/-- Good bytes leave nothing behind. -/
theorem goodL_iff (l : List UInt8) (h : 3 ≤ l.length) : goodL l = true ↔ runS 24 wholeP wholeS (bitsOf l) = 0 := by
  obtain ⟨x, y, z, hd⟩ : ∃ x y z, l.drop (l.length - 3) = [x, y, z] := by
    have hlen : (l.drop (l.length - 3)).length = 3 := by rw [List.length_drop]; omega
    match hm : l.drop (l.length - 3), hlen with
    | [x, y, z], _ => exact ⟨x, y, z, rfl⟩
  have hl : l = l.take (l.length - 3) ++ [x, y, z] := by rw [← hd, List.take_append_drop]
  obtain ⟨t, ht⟩ : ∃ t, t = l.take (l.length - 3) := ⟨_, rfl⟩
  rw [← ht] at hl
  have hg : goodL l = true ↔ sum3 (wholeL t) = [x, y, z] := by
    unfold goodL
    rw [← ht]
    simp only [decide_eq_true_eq]
    constructor
    · intro g
      have := g.2
      rw [hl] at this
      unfold fixL at this
      exact List.append_cancel_left this
    · intro g
      refine ⟨h, ?_⟩
      unfold fixL
      rw [g, ← hl]
  have h1 := good_iff 24 wholeP wholeS (by omega) (by decide) (by decide) (by decide) (bitsOf t) (bitsOf [x, y, z]) (by rw [bitsOf_length]; rfl)
  rw [← bitsOf_app, ← hl] at h1
  rw [hg, h1]
  constructor
  · intro g
    rw [← g]; exact sum3_val _ (wholeL_lt t)
  · intro g
    exact (sum3_of x y z _ (wholeL_lt t) g).symm

theorem fix_good (l : List UInt8) : goodL (fixL l) = true := by
  unfold goodL
  have h : (fixL l).length = l.length + 3 := by simp [fixL, sum3]
  rw [h]
  simp only [decide_eq_true_eq]
  refine ⟨by omega, ?_⟩
  rw [show l.length + 3 - 3 = l.length from by omega]
  unfold fixL
  rw [List.take_left]

/-- The bits of a burst: those of bits from the bit k on. -/
def burstB (n k bits : Nat) : List Bool := (List.range (8 * n)).map fun i => decide (k ≤ i ∧ i < k + 32) && bits.testBit (31 - (i - k))
theorem burstB_length (n k bits : Nat) : (burstB n k bits).length = 8 * n := by simp [burstB]
theorem burstB_at (n k bits i : Nat) (h : i < 8 * n) : (burstB n k bits)[i]? = some (decide (k ≤ i ∧ i < k + 32) && bits.testBit (31 - (i - k))) := by
  simp [burstB, h]

/-- Bits that are none but within 24 side by side, cut in three. -/
theorem window (l : List Bool) (k : Nat) (h : ∀ i b, l[i]? = some b → b = true → k ≤ i ∧ i < k + 24) :
    ∃ i j d, d.length ≤ 24 ∧ l = List.replicate i false ++ d ++ List.replicate j false ∧ (d = List.replicate d.length false → l = List.replicate l.length false) := by
  have hlow : l.take k = List.replicate (l.take k).length false := by
    apply List.eq_replicate_of_mem
    intro b hb
    obtain ⟨i, hi⟩ := List.getElem?_of_mem hb
    rw [List.getElem?_take] at hi
    split at hi
    · cases b
      · rfl
      · have := h i true hi rfl; omega
    · simp at hi
  have hhigh : l.drop (k + 24) = List.replicate (l.drop (k + 24)).length false := by
    apply List.eq_replicate_of_mem
    intro b hb
    obtain ⟨i, hi⟩ := List.getElem?_of_mem hb
    rw [List.getElem?_drop] at hi
    cases b
    · rfl
    · have := h _ true hi rfl; omega
  refine ⟨(l.take k).length, (l.drop (k + 24)).length, (l.drop k).take 24, by rw [List.length_take]; omega, ?_, ?_⟩
  · rw [← hlow, ← hhigh, List.append_assoc, show l.drop (k + 24) = (l.drop k).drop 24 from by rw [List.drop_drop], List.take_append_drop, List.take_append_drop]
  · intro hd
    have hl : l = List.replicate (l.take k).length false ++ (l.drop k).take 24 ++ List.replicate (l.drop (k + 24)).length false := by
      rw [← hlow, ← hhigh, List.append_assoc, show l.drop (k + 24) = (l.drop k).drop 24 from by rw [List.drop_drop], List.take_append_drop, List.take_append_drop]
    apply List.eq_replicate_of_mem
    intro b hb
    rw [hl, hd] at hb
    simp only [List.mem_append, List.mem_replicate] at hb
    rcases hb with (hb | hb) | hb <;> exact hb.2

/-- Bits turned in good bytes, within 24 side by side, leave them good just if none is turned. -/
theorem burst_found (x e : List UInt8) (k : Nat) (h3 : 3 ≤ x.length) (hx : goodL x = true) (hl : e.length = x.length) (he : ∀ i b, (bitsOf e)[i]? = some b → b = true → k ≤ i ∧ i < k + 24) :
    goodL (xorL x e) = decide (e = List.replicate e.length 0) := by
  have hxl : (xorL x e).length = x.length := xorL_length x e hl.symm
  have h1 := (goodL_iff x h3).1 hx
  have h2 := goodL_iff (xorL x e) (by omega)
  have h4 := runS_xor 24 wholeP (bitsOf x) (bitsOf e) wholeS 0 (by rw [bitsOf_length, bitsOf_length, hl])
  rw [Nat.xor_zero, ← bitsOf_xor x e hl.symm, h1, Nat.zero_xor] at h4
  rw [h4] at h2
  by_cases hz : e = List.replicate e.length 0
  · rw [decide_eq_true hz]
    apply h2.2
    have hb : bitsOf e = List.replicate (bitsOf e).length false := by
      apply List.eq_replicate_of_mem
      intro b hb
      obtain ⟨i, hi⟩ := List.getElem?_of_mem hb
      have hil := (List.getElem?_eq_some_iff.1 hi).1
      rw [bitsOf_length] at hil
      have hz8 : e[i / 8]? = some 0 := by rw [hz, List.getElem?_replicate, if_pos (by omega)]
      rw [bits_at e i 0 hz8] at hi
      simp at hi
      exact hi
    rw [hb, runS_noughts]
    exact noughts_none 24 wholeP (by omega) _
  · rw [decide_eq_false hz]
    apply Bool.eq_false_iff.2
    intro hg
    apply hz
    have h5 := h2.1 hg
    obtain ⟨i, j, d, hd, hcut, hall⟩ := window (bitsOf e) k he
    rw [hcut] at h5
    have h6 := hall (burst_none 24 wholeP (by omega) (by decide) (by decide) i j d hd h5)
    apply bitsOf_inj
    rw [h6, bitsOf_length]
    symm
    apply List.eq_replicate_iff.2
    refine ⟨by rw [bitsOf_length, List.length_replicate], fun b hb => ?_⟩
    obtain ⟨q, hq⟩ := List.getElem?_of_mem hb
    have hql := (List.getElem?_eq_some_iff.1 hq).1
    rw [bitsOf_length, List.length_replicate] at hql
    rw [bits_at _ q 0 (by rw [List.getElem?_replicate, if_pos (by omega)])] at hq
    simp at hq
    exact hq
end Go.Proofs.YtaihjnaggmmiiaaGreatDoor
