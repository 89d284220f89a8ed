/-
  Words of 32 bits turned to the right, as plain numbers: what follows from the definition (no program here).

  Sums of bits, of any width, over plain numbers: they are linear, and a burst no longer than the sum is found. No program here.

  Bytes as bits, the highest first; sums of bytes; bursts. No program here.
-/
import Derived.Laws.BitsAllLaws
import Derived.Test.YtjmbioedpghopaaGround
namespace Go.Proofs.Ytjmbioedpghopaa

def rotr (x k : Nat) : Nat := (x >>> k) ||| ((x <<< (32 - k)) % 4294967296)

theorem rotr_bv (x k : Nat) (hx : x < 4294967296) (hk : k < 32) : rotr x k = ((BitVec.ofNat 32 x).rotateRight k).toNat := by
  rw [BitVec.rotateRight_def]
  simp only [BitVec.toNat_or, BitVec.toNat_ushiftRight, BitVec.toNat_shiftLeft, BitVec.toNat_ofNat, rotr]
  rw [Nat.mod_eq_of_lt (a := k) hk, Nat.mod_eq_of_lt (a := x) (b := 2 ^ 32) (by omega)]

theorem rotr_lt (x k : Nat) (hx : x < 4294967296) (hk : k < 32) : rotr x k < 4294967296 := by
  rw [rotr_bv x k hx hk]; exact ((BitVec.ofNat 32 x).rotateRight k).isLt

theorem rotr_zero (x : Nat) : rotr x 0 = x := by
  have h : x <<< 32 % 4294967296 = 0 := by rw [Nat.shiftLeft_eq]; omega
  simp [rotr, h]

theorem rotr_rotr (x j k : Nat) (hx : x < 4294967296) (hj : j < 32) (hk : k < 32) : rotr (rotr x j) k = rotr x ((j + k) % 32) := by
  rw [rotr_bv (rotr x j) k (rotr_lt x j hx hj) hk, rotr_bv x j hx hj, rotr_bv x ((j + k) % 32) hx (Nat.mod_lt _ (by omega))]
  congr 1
  rw [BitVec.ofNat_toNat, BitVec.setWidth_eq]
  apply BitVec.eq_of_getLsbD_eq
  intro i hi
  simp only [BitVec.getLsbD_rotateRight]
  rw [Nat.mod_eq_of_lt (a := k) hk, Nat.mod_eq_of_lt (a := j) hj, Nat.mod_mod]
  by_cases h : j + k < 32
  · rw [Nat.mod_eq_of_lt h]
    by_cases h1 : i < 32 - k
    · by_cases h2 : k + i < 32 - j
      · simp [h1, h2, show i < 32 - (j + k) from by omega, Nat.add_assoc]
      · simp [h1, h2, show ¬ i < 32 - (j + k) from by omega, hi, show k + i < 32 from by omega]
        congr 1; omega
    · simp [h1, hi, show i - (32 - k) < 32 - j from by omega, show ¬ i < 32 - (j + k) from by omega]
      congr 1; omega
  · rw [show (j + k) % 32 = j + k - 32 from by omega]
    by_cases h1 : i < 32 - k
    · simp [h1, show ¬ k + i < 32 - j from by omega, show i < 32 - (j + k - 32) from by omega, show k + i < 32 from by omega]
      congr 1; omega
    · by_cases h2 : i - (32 - k) < 32 - j
      · simp [h1, h2, hi, show i < 32 - (j + k - 32) from by omega]
        congr 1; omega
      · simp [h1, h2, hi, show ¬ i < 32 - (j + k - 32) from by omega, show i - (32 - k) < 32 from by omega]
        congr 1; omega

/-- The highest byte first. -/
def be (l : List UInt8) : Nat := l.foldl (fun x c => x * 256 + c.toNat) 0

theorem be_snoc (l : List UInt8) (c : UInt8) : be (l ++ [c]) = be l * 256 + c.toNat := by simp [be, List.foldl_append]

theorem be_lt_aux (l : List UInt8) : ∀ x B : Nat, x < B → l.foldl (fun x c => x * 256 + c.toNat) x < B * 256 ^ l.length := by
  induction l with
  | nil => intro x B h; simpa using h
  | cons c l ih =>
    intro x B h
    have hc := c.toNat_lt
    have h1 : x * 256 + c.toNat < B * 256 := by omega
    have h2 := ih (x * 256 + c.toNat) (B * 256) h1
    simp only [List.foldl_cons, List.length_cons]
    rw [show B * 256 ^ (l.length + 1) = B * 256 * 256 ^ l.length from by rw [Nat.pow_succ, Nat.mul_comm (256 ^ l.length) 256, Nat.mul_assoc]]
    exact h2

theorem be_lt (l : List UInt8) : be l < 256 ^ l.length := by have := be_lt_aux l 0 1 (by omega); simpa [be] using this

/-- A word as four bytes. -/
def w4 (x : Nat) : List UInt8 := [UInt8.ofNat (x / 16777216), UInt8.ofNat (x / 65536), UInt8.ofNat (x / 256), UInt8.ofNat x]

theorem w4_length (x : Nat) : (w4 x).length = 4 := rfl

theorem be_w4 (x : Nat) (h : x < 4294967296) : be (w4 x) = x := by
  simp only [be, w4, List.foldl_cons, List.foldl_nil, UInt8.toNat_ofNat']
  omega

theorem be_from (m : List UInt8) : ∀ x : Nat, m.foldl (fun x c => x * 256 + c.toNat) x = x * 256 ^ m.length + be m := by
  induction m with
  | nil => intro x; simp [be]
  | cons c m ih =>
    intro x
    have h0 := ih c.toNat
    simp only [List.foldl_cons, List.length_cons, be, Nat.zero_mul, Nat.zero_add] at *
    rw [ih, h0, Nat.pow_succ, Nat.mul_comm (256 ^ m.length) 256, ← Nat.mul_assoc, Nat.add_mul]
    omega

theorem be_append (l m : List UInt8) : be (l ++ m) = be l * 256 ^ m.length + be m := by
  have := be_from m (be l)
  simp only [be, List.foldl_append] at *
  exact this

/-- Words, one behind the other. -/
def w4s (l : List Nat) : List UInt8 := l.flatMap w4

theorem w4s_length (l : List Nat) : (w4s l).length = 4 * l.length := by
  induction l with
  | nil => rfl
  | cons x l ih => simp only [w4s, List.flatMap_cons, List.length_append, w4_length, List.length_cons] at *; omega

theorem w4s_snoc (l : List Nat) (x : Nat) : w4s (l ++ [x]) = w4s l ++ w4 x := by simp [w4s, List.flatMap_append]

end Go.Proofs.Ytjmbioedpghopaa

namespace Go.Proofs.Ytjmbioedpghopaa

/-- One nought fed in. -/
def zS (W P s : Nat) : Nat := (s * 2 % 2 ^ W) ^^^ (if s.testBit (W - 1) then P else 0)
/-- One bit fed in, the highest first. -/
def stepS (W P s : Nat) (b : Bool) : Nat := (s * 2 % 2 ^ W) ^^^ (if (s.testBit (W - 1) != b) then P else 0)
def runS (W P s : Nat) : List Bool → Nat
  | [] => s
  | b :: l => runS W P (stepS W P s b) l

theorem runS_app (W P : Nat) : ∀ (l m : List Bool) (s : Nat), runS W P s (l ++ m) = runS W P (runS W P s l) m
  | [], _, _ => rfl
  | b :: l, m, s => by rw [List.cons_append, runS, runS, runS_app W P l m]

theorem dbl_xor (W s t : Nat) : (s ^^^ t) * 2 % 2 ^ W = (s * 2 % 2 ^ W) ^^^ (t * 2 % 2 ^ W) := by
  rw [← Nat.xor_mod_two_pow]
  congr 1
  have h : ∀ x : Nat, x * 2 = x <<< 1 := fun x => by rw [Nat.shiftLeft_eq]
  rw [h, h, h, Nat.shiftLeft_xor_distrib]

theorem if_xor (P : Nat) (a b : Bool) : (if (a != b) then P else 0) = (if a then P else 0) ^^^ (if b then P else 0) := by
  cases a <;> cases b <;> simp

/-- Feeding is linear. -/
theorem stepS_xor (W P s t : Nat) (a b : Bool) : stepS W P (s ^^^ t) (a != b) = stepS W P s a ^^^ stepS W P t b := by
  unfold stepS
  rw [dbl_xor, Nat.testBit_xor]
  have h : ((s.testBit (W - 1) != t.testBit (W - 1)) != (a != b)) = ((s.testBit (W - 1) != a) != (t.testBit (W - 1) != b)) := by
    cases s.testBit (W - 1) <;> cases t.testBit (W - 1) <;> cases a <;> cases b <;> rfl
  rw [h, if_xor]
  ac_rfl

def xorB (l m : List Bool) : List Bool := List.zipWith (· != ·) l m
theorem runS_xor (W P : Nat) : ∀ (l m : List Bool) (s t : Nat), l.length = m.length → runS W P (s ^^^ t) (xorB l m) = runS W P s l ^^^ runS W P t m
  | [], [], _, _, _ => rfl
  | a :: l, b :: m, s, t, h => by
    show runS W P (stepS W P (s ^^^ t) (a != b)) (xorB l m) = _
    rw [stepS_xor, runS_xor W P l m _ _ (by simpa using h)]
    rfl
  | [], _ :: _, _, _, h => by simp at h
  | _ :: _, [], _, _, h => by simp at h

theorem zS_eq (W P s : Nat) : stepS W P s false = zS W P s := by unfold stepS zS; simp

theorem stepS_lt (W P s : Nat) (hP : P < 2 ^ W) (b : Bool) : stepS W P s b < 2 ^ W := by
  unfold stepS
  refine Nat.xor_lt_two_pow (Nat.mod_lt _ (Nat.two_pow_pos W)) ?_
  split
  · exact hP
  · exact Nat.two_pow_pos W
theorem runS_lt (W P : Nat) (hP : P < 2 ^ W) : ∀ (l : List Bool) (s : Nat), s < 2 ^ W → runS W P s l < 2 ^ W
  | [], _, h => h
  | b :: l, s, _ => runS_lt W P hP l _ (stepS_lt W P s hP b)

/-- A bit fed in is a nought fed in where the highest bit is turned by it. -/
theorem stepS_top (W P s : Nat) (hW : 0 < W) (b : Bool) : stepS W P s b = zS W P (s ^^^ (if b then 2 ^ (W - 1) else 0)) := by
  cases b
  · simp [zS_eq]
  · unfold stepS zS
    rw [if_pos rfl, dbl_xor, Nat.testBit_xor, Nat.testBit_two_pow_self]
    have h2 : 2 ^ (W - 1) * 2 % 2 ^ W = 0 := by
      rw [← Nat.pow_succ, show (W - 1).succ = W from by omega]; exact Nat.mod_self _
    rw [h2, Nat.xor_zero]

theorem top_bit (W s : Nat) (hW : 0 < W) (h : 2 ^ (W - 1) ≤ s) (hs : s < 2 ^ W) : s.testBit (W - 1) = true := by
  have hW2 : 2 ^ W = 2 * 2 ^ (W - 1) := by rw [← Nat.pow_succ', show (W - 1).succ = W from by omega]
  have hpos := Nat.two_pow_pos (W - 1)
  rw [Nat.testBit_eq_decide_div_mod_eq]
  have : s / 2 ^ (W - 1) = 1 := by
    rw [Nat.div_eq_of_lt_le (k := 1)] <;> omega
  simp [this]

/-- Noughts lose nothing where the polynomial is odd. -/
theorem zS_zero (W P s : Nat) (hW : 0 < W) (hs : s < 2 ^ W) (hP : P.testBit 0 = true) (h : zS W P s = 0) : s = 0 := by
  unfold zS at h
  have h1 := congrArg (fun x => x.testBit 0) h
  simp only [Nat.testBit_xor, Nat.zero_testBit] at h1
  have h2 : (s * 2 % 2 ^ W).testBit 0 = false := by
    rw [Nat.testBit_mod_two_pow]
    simp [Nat.testBit_zero]
  rw [h2] at h1
  by_cases ht : s.testBit (W - 1) = true
  · rw [if_pos ht, hP] at h1; simp at h1
  · rw [if_neg ht, Nat.xor_zero] at h
    have hlt : s < 2 ^ (W - 1) := by
      rcases Nat.lt_or_ge s (2 ^ (W - 1)) with g | g
      · exact g
      · exact absurd (top_bit W s hW g hs) ht
    have hW2 : 2 ^ W = 2 * 2 ^ (W - 1) := by rw [← Nat.pow_succ', show (W - 1).succ = W from by omega]
    rw [Nat.mod_eq_of_lt (by omega)] at h
    omega

theorem zS_lt (W P s : Nat) (hP : P < 2 ^ W) : zS W P s < 2 ^ W := by rw [← zS_eq]; exact stepS_lt W P s hP false
theorem zS_xor (W P s t : Nat) : zS W P (s ^^^ t) = zS W P s ^^^ zS W P t := by
  have := stepS_xor W P s t false false
  rw [← zS_eq, ← zS_eq, ← zS_eq]
  simpa using this
theorem zS_small (W P s : Nat) (hW : 0 < W) (hs : s < 2 ^ (W - 1)) : zS W P s = s * 2 := by
  have hW2 : 2 ^ W = 2 * 2 ^ (W - 1) := by rw [← Nat.pow_succ', show (W - 1).succ = W from by omega]
  unfold zS
  rw [Nat.testBit_lt_two_pow hs, Nat.mod_eq_of_lt (by omega)]
  simp

/-- k noughts. -/
def noughts (W P : Nat) : Nat → Nat → Nat
  | 0, s => s
  | k + 1, s => noughts W P k (zS W P s)
theorem runS_noughts (W P : Nat) : ∀ (k s : Nat), runS W P s (List.replicate k false) = noughts W P k s
  | 0, _ => rfl
  | k + 1, s => by rw [List.replicate_succ, runS, zS_eq, noughts, runS_noughts W P k]
theorem noughts_zero (W P : Nat) (hW : 0 < W) (hP : P < 2 ^ W) (hO : P.testBit 0 = true) : ∀ (k s : Nat), s < 2 ^ W → noughts W P k s = 0 → s = 0
  | 0, _, _, h => h
  | k + 1, s, hs, h => zS_zero W P s hW hs hO (noughts_zero W P hW hP hO k _ (zS_lt W P s hP) h)
theorem noughts_none (W P : Nat) (hW : 0 < W) : ∀ k, noughts W P k 0 = 0
  | 0 => rfl
  | k + 1 => by rw [noughts, zS_small W P 0 hW (Nat.two_pow_pos _)]; exact noughts_none W P hW k

/-- Bits as a number, the highest first. -/
def valB : List Bool → Nat
  | [] => 0
  | b :: l => (if b then 2 ^ l.length else 0) + valB l
theorem valB_lt : ∀ l : List Bool, valB l < 2 ^ l.length
  | [] => by simp [valB]
  | b :: l => by
    have := valB_lt l
    rw [valB, List.length_cons, Nat.pow_succ]
    cases b <;> simp <;> omega
theorem valB_zero : ∀ l : List Bool, valB l = 0 → l = List.replicate l.length false
  | [], _ => rfl
  | b :: l, h => by
    rw [valB] at h
    have hp := Nat.two_pow_pos l.length
    cases b
    · simp at h
      rw [List.length_cons, List.replicate_succ, ← valB_zero l h]
    · simp at h

theorem xor_add_top (m x : Nat) (h : x < 2 ^ m) : 2 ^ m + x = 2 ^ m ^^^ x := by
  have h0 := Nat.two_pow_add_eq_or_of_lt h 1
  rw [Nat.mul_one] at h0
  rw [h0]
  apply Nat.eq_of_testBit_eq
  intro i
  rw [Nat.testBit_or, Nat.testBit_xor, Nat.testBit_two_pow]
  by_cases hi : m = i
  · subst hi; rw [Nat.testBit_lt_two_pow h]; simp
  · simp [hi]

/-- Up to W bits fed in are noughts fed in behind a change of what stands. -/
theorem feed (W P : Nat) (hW : 0 < W) : ∀ (l : List Bool) (s : Nat), l.length ≤ W → runS W P s l = noughts W P l.length (s ^^^ (valB l * 2 ^ (W - l.length)))
  | [], s, _ => by simp [runS, noughts, valB]
  | b :: l, s, h => by
    have hl : l.length + 1 ≤ W := by simpa using h
    have hv := valB_lt l
    rw [runS, feed W P hW l _ (by omega), List.length_cons, noughts, stepS_top W P s hW b]
    congr 1
    have h1 : valB l * 2 ^ (W - l.length) = zS W P (valB l * 2 ^ (W - (l.length + 1))) := by
      have h2 : valB l * 2 ^ (W - (l.length + 1)) < 2 ^ (W - 1) := by
        have : 2 ^ (W - 1) = 2 ^ l.length * 2 ^ (W - (l.length + 1)) := by rw [← Nat.pow_add]; congr 1; omega
        rw [this]
        exact Nat.mul_lt_mul_of_pos_right hv (Nat.two_pow_pos _)
      rw [zS_small W P _ hW h2, Nat.mul_assoc, ← Nat.pow_succ]
      congr 2; omega
    rw [h1, ← zS_xor]
    congr 1
    rw [Nat.xor_assoc]
    congr 1
    rw [valB, Nat.add_mul]
    have h3 : valB l * 2 ^ (W - (l.length + 1)) < 2 ^ (W - 1) := by
      have : 2 ^ (W - 1) = 2 ^ l.length * 2 ^ (W - (l.length + 1)) := by rw [← Nat.pow_add]; congr 1; omega
      rw [this]
      exact Nat.mul_lt_mul_of_pos_right hv (Nat.two_pow_pos _)
    cases b
    · simp
    · have h4 : 2 ^ l.length * 2 ^ (W - (l.length + 1)) = 2 ^ (W - 1) := by rw [← Nat.pow_add]; congr 1; omega
      simp only [if_true, h4]
      exact (xor_add_top _ _ h3).symm

/-- Bits within W side by side that leave nothing behind are none. -/
theorem burst_none (W P : Nat) (hW : 0 < W) (hP : P < 2 ^ W) (hO : P.testBit 0 = true) (i j : Nat) (d : List Bool) (hd : d.length ≤ W)
    (h : runS W P 0 (List.replicate i false ++ d ++ List.replicate j false) = 0) : d = List.replicate d.length false := by
  rw [runS_app, runS_app, runS_noughts W P i, noughts_none W P hW, runS_noughts] at h
  have h1 := noughts_zero W P hW hP hO j _ (runS_lt W P hP d 0 (Nat.two_pow_pos W)) h
  rw [feed W P hW d 0 hd, Nat.zero_xor] at h1
  have hlt : valB d * 2 ^ (W - d.length) < 2 ^ W := by
    have : 2 ^ W = 2 ^ d.length * 2 ^ (W - d.length) := by rw [← Nat.pow_add]; congr 1; omega
    rw [this]
    exact Nat.mul_lt_mul_of_pos_right (valB_lt d) (Nat.two_pow_pos _)
  have h2 := noughts_zero W P hW hP hO _ _ hlt h1
  have h3 : valB d = 0 := by
    rcases Nat.mul_eq_zero.1 h2 with g | g
    · exact g
    · exact absurd g (Nat.ne_of_gt (Nat.two_pow_pos _))
  exact valB_zero d h3

/-- The sum behind bytes is right just if all of it leaves nothing. -/
theorem good_iff (W P s : Nat) (hW : 0 < W) (hP : P < 2 ^ W) (hO : P.testBit 0 = true) (hs : s < 2 ^ W) (l c : List Bool) (hc : c.length = W) : runS W P s (l ++ c) = 0 ↔ valB c = runS W P s l := by
  rw [runS_app, feed W P hW c _ (by omega), hc, Nat.sub_self, Nat.pow_zero, Nat.mul_one]
  have hlt := runS_lt W P hP l s hs
  have hv := valB_lt c
  rw [hc] at hv
  constructor
  · intro h
    have h1 := noughts_zero W P hW hP hO W _ (Nat.xor_lt_two_pow hlt hv) h
    have h2 := congrArg (fun x => runS W P s l ^^^ x) h1
    simp only [← Nat.xor_assoc, Nat.xor_self, Nat.zero_xor, Nat.xor_zero] at h2
    exact h2
  · intro h
    rw [h, Nat.xor_self]
    exact noughts_none W P hW W
end Go.Proofs.Ytjmbioedpghopaa

namespace Go.Proofs.Ytjmbioedpghopaa

def bitsU (x : UInt8) : List Bool := [x.toNat.testBit 7, x.toNat.testBit 6, x.toNat.testBit 5, x.toNat.testBit 4, x.toNat.testBit 3, x.toNat.testBit 2, x.toNat.testBit 1, x.toNat.testBit 0]
def bitsOf : List UInt8 → List Bool
  | [] => []
  | x :: l => bitsU x ++ bitsOf l
theorem bitsOf_length : ∀ l : List UInt8, (bitsOf l).length = 8 * l.length
  | [] => rfl
  | x :: l => by rw [bitsOf, List.length_append, bitsOf_length l]; simp [bitsU]; omega
theorem bitsOf_app : ∀ l m : List UInt8, bitsOf (l ++ m) = bitsOf l ++ bitsOf m
  | [], _ => rfl
  | x :: l, m => by rw [List.cons_append, bitsOf, bitsOf, bitsOf_app l m, List.append_assoc]
theorem bitsU_at (x : UInt8) (j : Nat) (hj : j < 8) : (bitsU x)[j]? = some (x.toNat.testBit (7 - j)) := by
  have hc : j = 0 ∨ j = 1 ∨ j = 2 ∨ j = 3 ∨ j = 4 ∨ j = 5 ∨ j = 6 ∨ j = 7 := by omega
  rcases hc with rfl | rfl | rfl | rfl | rfl | rfl | rfl | rfl <;> rfl
theorem bits_at : ∀ (l : List UInt8) (i : Nat) (x : UInt8), l[i / 8]? = some x → (bitsOf l)[i]? = some (x.toNat.testBit (7 - i % 8))
  | [], i, x, h => by simp at h
  | y :: l, i, x, h => by
    rw [bitsOf]
    by_cases hi : i < 8
    · have h0 : i / 8 = 0 := by omega
      rw [h0] at h
      simp at h
      subst h
      rw [List.getElem?_append_left (by simp [bitsU]; exact hi), bitsU_at y i hi, show i % 8 = i from by omega]
    · have h8 : i / 8 = (i - 8) / 8 + 1 := by omega
      rw [h8, List.getElem?_cons_succ] at h
      have := bits_at l (i - 8) x h
      rw [List.getElem?_append_right (by simp [bitsU]; omega), show (bitsU y).length = 8 from rfl, this, show (i - 8) % 8 = i % 8 from by omega]

theorem u8_ext (x y : UInt8) (h : ∀ j, j < 8 → x.toNat.testBit j = y.toNat.testBit j) : x = y := by
  apply UInt8.toNat_inj.1
  apply Nat.eq_of_testBit_eq
  intro j
  by_cases hj : j < 8
  · exact h j hj
  · rw [Nat.testBit_lt_two_pow (Nat.lt_of_lt_of_le x.toNat_lt (Nat.pow_le_pow_right (n := 2) (i := 8) (by omega) (by omega))), Nat.testBit_lt_two_pow (Nat.lt_of_lt_of_le y.toNat_lt (Nat.pow_le_pow_right (n := 2) (i := 8) (by omega) (by omega)))]
theorem bitsOf_inj : ∀ l m : List UInt8, bitsOf l = bitsOf m → l = m
  | [], [], _ => rfl
  | [], _ :: _, h => by have := congrArg List.length h; simp [bitsOf_length] at this
  | _ :: _, [], h => by have := congrArg List.length h; simp [bitsOf_length] at this
  | x :: l, y :: m, h => by
    have h1 : bitsU x = bitsU y ∧ bitsOf l = bitsOf m := by
      rw [bitsOf, bitsOf] at h
      exact List.append_inj h rfl
    rw [bitsOf_inj l m h1.2]
    congr 1
    apply u8_ext
    intro j hj
    have h2 := congrArg (fun l => l[7 - j]?) h1.1
    simp only [bitsU_at _ _ (show 7 - j < 8 by omega), show 7 - (7 - j) = j from by omega] at h2
    exact Option.some.inj h2

theorem bitsU_xor (x y : UInt8) : bitsU (x ^^^ y) = xorB (bitsU x) (bitsU y) := by
  simp only [bitsU, UInt8.toNat_xor, Nat.testBit_xor]
  rfl
theorem bitsOf_xor : ∀ l m : List UInt8, l.length = m.length → bitsOf (xorL l m) = xorB (bitsOf l) (bitsOf m)
  | [], [], _ => rfl
  | x :: l, y :: m, h => by
    show bitsU (x ^^^ y) ++ bitsOf (xorL l m) = _
    rw [bitsU_xor, bitsOf_xor l m (by simpa using h), bitsOf, bitsOf]
    unfold xorB
    rw [List.zipWith_append (by rfl)]
  | [], _ :: _, h => by simp at h
  | _ :: _, [], h => by simp at h

def crcL (W P s : Nat) (l : List UInt8) : Nat := runS W P s (bitsOf l)
theorem crcL_lt (W P s : Nat) (hP : P < 2 ^ W) (hs : s < 2 ^ W) (l : List UInt8) : crcL W P s l < 2 ^ W := runS_lt W P hP _ s hs
/-- Sums of one beginning are linear. -/
theorem crcL_xor (W P : Nat) (l m : List UInt8) (h : l.length = m.length) : crcL W P 0 (xorL l m) = crcL W P 0 l ^^^ crcL W P 0 m := by
  unfold crcL
  rw [bitsOf_xor l m h]
  have := runS_xor W P (bitsOf l) (bitsOf m) 0 0 (by rw [bitsOf_length, bitsOf_length, h])
  simpa using this

def wholeP : Nat := 0x5D6DCB
def wholeS : Nat := 0xFEDCBA
def wholeL (l : List UInt8) : Nat := crcL 24 wholeP wholeS l
def headL (l : List UInt8) : Nat := crcL 11 0x385 0x1A l
def sum3 (s : Nat) : List UInt8 := [UInt8.ofNat (s / 65536), UInt8.ofNat (s / 256), UInt8.ofNat s]
def fixL (l : List UInt8) : List UInt8 := l ++ sum3 (wholeL l)
def goodL (l : List UInt8) : Bool := decide (3 ≤ l.length ∧ fixL (l.take (l.length - 3)) = l)

theorem wholeL_lt (l : List UInt8) : wholeL l < 16777216 := crcL_lt 24 wholeP wholeS (by decide) (by decide) l
theorem valB_bitsU (x : UInt8) : valB (bitsU x) = x.toNat := by
  have := (by decide +kernel : ∀ n, n < 256 → valB (bitsU (UInt8.ofNat n)) = n) x.toNat x.toNat_lt
  simpa using this
theorem valB_app : ∀ l m : List Bool, valB (l ++ m) = valB l * 2 ^ m.length + valB m
  | [], m => by simp [valB]
  | b :: l, m => by
    rw [List.cons_append, valB, valB, valB_app l m, List.length_append, Nat.pow_add, Nat.add_mul]
    cases b <;> simp <;> omega
theorem valB_sum3 (x y z : UInt8) : valB (bitsOf [x, y, z]) = x.toNat * 65536 + y.toNat * 256 + z.toNat := by
  simp only [bitsOf, valB_app, valB_bitsU, List.append_nil]
  simp [bitsU]
  omega
theorem sum3_val (s : Nat) (h : s < 16777216) : valB (bitsOf (sum3 s)) = s := by
  rw [sum3, valB_sum3]
  simp only [UInt8.toNat_ofNat']
  omega
theorem sum3_of (x y z : UInt8) (s : Nat) (hs : s < 16777216) (h : valB (bitsOf [x, y, z]) = s) : [x, y, z] = sum3 s := by
  rw [valB_sum3] at h
  have hx := x.toNat_lt
  have hy := y.toNat_lt
  have hz := z.toNat_lt
  have e1 : x = UInt8.ofNat (s / 65536) := by apply UInt8.toNat_inj.1; rw [UInt8.toNat_ofNat']; omega
  have e2 : y = UInt8.ofNat (s / 256) := by apply UInt8.toNat_inj.1; rw [UInt8.toNat_ofNat']; omega
  have e3 : z = UInt8.ofNat s := by apply UInt8.toNat_inj.1; rw [UInt8.toNat_ofNat']; omega
  rw [sum3, ← e1, ← e2, ← e3]

/-- Good bytes leave nothing behind. -/
theorem goodL_iff (l : List UInt8) (h : 3 ≤ l.length) : goodL l = true ↔ runS 24 wholeP wholeS (bitsOf l) = 0 := by
  obtain ⟨x, y, z, hd⟩ : ∃ x y z, l.drop (l.length - 3) = [x, y, z] := by
    have hlen : (l.drop (l.length - 3)).length = 3 := by rw [List.length_drop]; omega
    match hm : l.drop (l.length - 3), hlen with
    | [x, y, z], _ => exact ⟨x, y, z, rfl⟩
  have hl : l = l.take (l.length - 3) ++ [x, y, z] := by rw [← hd, List.take_append_drop]
  obtain ⟨t, ht⟩ : ∃ t, t = l.take (l.length - 3) := ⟨_, rfl⟩
  rw [← ht] at hl
  have hg : goodL l = true ↔ sum3 (wholeL t) = [x, y, z] := by
    unfold goodL
    rw [← ht]
    simp only [decide_eq_true_eq]
    constructor
    · intro g
      have := g.2
      rw [hl] at this
      unfold fixL at this
      exact List.append_cancel_left this
    · intro g
      refine ⟨h, ?_⟩
      unfold fixL
      rw [g, ← hl]
  have h1 := good_iff 24 wholeP wholeS (by omega) (by decide) (by decide) (by decide) (bitsOf t) (bitsOf [x, y, z]) (by rw [bitsOf_length]; rfl)
  rw [← bitsOf_app, ← hl] at h1
  rw [hg, h1]
  constructor
  · intro g
    rw [← g]; exact sum3_val _ (wholeL_lt t)
  · intro g
    exact (sum3_of x y z _ (wholeL_lt t) g).symm

theorem fix_good (l : List UInt8) : goodL (fixL l) = true := by
  unfold goodL
  have h : (fixL l).length = l.length + 3 := by simp [fixL, sum3]
  rw [h]
  simp only [decide_eq_true_eq]
  refine ⟨by omega, ?_⟩
  rw [show l.length + 3 - 3 = l.length from by omega]
  unfold fixL
  rw [List.take_left]

/-- The bits of a burst: those of bits from the bit k on. -/
def burstB (n k bits : Nat) : List Bool := (List.range (8 * n)).map fun i => decide (k ≤ i ∧ i < k + 32) && bits.testBit (31 - (i - k))
theorem burstB_length (n k bits : Nat) : (burstB n k bits).length = 8 * n := by simp [burstB]
theorem burstB_at (n k bits i : Nat) (h : i < 8 * n) : (burstB n k bits)[i]? = some (decide (k ≤ i ∧ i < k + 32) && bits.testBit (31 - (i - k))) := by
  simp [burstB, h]

/-- Bits that are none but within 24 side by side, cut in three. -/
theorem window (l : List Bool) (k : Nat) (h : ∀ i b, l[i]? = some b → b = true → k ≤ i ∧ i < k + 24) :
    ∃ i j d, d.length ≤ 24 ∧ l = List.replicate i false ++ d ++ List.replicate j false ∧ (d = List.replicate d.length false → l = List.replicate l.length false) := by
  have hlow : l.take k = List.replicate (l.take k).length false := by
    apply List.eq_replicate_of_mem
    intro b hb
    obtain ⟨i, hi⟩ := List.getElem?_of_mem hb
    rw [List.getElem?_take] at hi
    split at hi
    · cases b
      · rfl
      · have := h i true hi rfl; omega
    · simp at hi
  have hhigh : l.drop (k + 24) = List.replicate (l.drop (k + 24)).length false := by
    apply List.eq_replicate_of_mem
    intro b hb
    obtain ⟨i, hi⟩ := List.getElem?_of_mem hb
    rw [List.getElem?_drop] at hi
    cases b
    · rfl
    · have := h _ true hi rfl; omega
  refine ⟨(l.take k).length, (l.drop (k + 24)).length, (l.drop k).take 24, by rw [List.length_take]; omega, ?_, ?_⟩
  · rw [← hlow, ← hhigh, List.append_assoc, show l.drop (k + 24) = (l.drop k).drop 24 from by rw [List.drop_drop], List.take_append_drop, List.take_append_drop]
  · intro hd
    have hl : l = List.replicate (l.take k).length false ++ (l.drop k).take 24 ++ List.replicate (l.drop (k + 24)).length false := by
      rw [← hlow, ← hhigh, List.append_assoc, show l.drop (k + 24) = (l.drop k).drop 24 from by rw [List.drop_drop], List.take_append_drop, List.take_append_drop]
    apply List.eq_replicate_of_mem
    intro b hb
    rw [hl, hd] at hb
    simp only [List.mem_append, List.mem_replicate] at hb
    rcases hb with (hb | hb) | hb <;> exact hb.2

/-- Bits turned in good bytes, within 24 side by side, leave them good just if none is turned. -/
theorem burst_found (x e : List UInt8) (k : Nat) (h3 : 3 ≤ x.length) (hx : goodL x = true) (hl : e.length = x.length) (he : ∀ i b, (bitsOf e)[i]? = some b → b = true → k ≤ i ∧ i < k + 24) :
    goodL (xorL x e) = decide (e = List.replicate e.length 0) := by
  have hxl : (xorL x e).length = x.length := xorL_length x e hl.symm
  have h1 := (goodL_iff x h3).1 hx
  have h2 := goodL_iff (xorL x e) (by omega)
  have h4 := runS_xor 24 wholeP (bitsOf x) (bitsOf e) wholeS 0 (by rw [bitsOf_length, bitsOf_length, hl])
  rw [Nat.xor_zero, ← bitsOf_xor x e hl.symm, h1, Nat.zero_xor] at h4
  rw [h4] at h2
  by_cases hz : e = List.replicate e.length 0
  · rw [decide_eq_true hz]
    apply h2.2
    have hb : bitsOf e = List.replicate (bitsOf e).length false := by
      apply List.eq_replicate_of_mem
      intro b hb
      obtain ⟨i, hi⟩ := List.getElem?_of_mem hb
      have hil := (List.getElem?_eq_some_iff.1 hi).1
      rw [bitsOf_length] at hil
      have hz8 : e[i / 8]? = some 0 := by rw [hz, List.getElem?_replicate, if_pos (by omega)]
      rw [bits_at e i 0 hz8] at hi
      simp at hi
      exact hi
    rw [hb, runS_noughts]
    exact noughts_none 24 wholeP (by omega) _
  · rw [decide_eq_false hz]
    apply Bool.eq_false_iff.2
    intro hg
    apply hz
    have h5 := h2.1 hg
    obtain ⟨i, j, d, hd, hcut, hall⟩ := window (bitsOf e) k he
    rw [hcut] at h5
    have h6 := hall (burst_none 24 wholeP (by omega) (by decide) (by decide) i j d hd h5)
    apply bitsOf_inj
    rw [h6, bitsOf_length]
    symm
    apply List.eq_replicate_iff.2
    refine ⟨by rw [bitsOf_length, List.length_replicate], fun b hb => ?_⟩
    obtain ⟨q, hq⟩ := List.getElem?_of_mem hb
    have hql := (List.getElem?_eq_some_iff.1 hq).1
    rw [bitsOf_length, List.length_replicate] at hql
    rw [bits_at _ q 0 (by rw [List.getElem?_replicate, if_pos (by omega)])] at hq
    simp at hq
    exact hq
end Go.Proofs.Ytjmbioedpghopaa
