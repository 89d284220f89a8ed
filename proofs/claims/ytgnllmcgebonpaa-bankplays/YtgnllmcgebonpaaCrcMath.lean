/-
  Sums of bits, of any width, over plain numbers: they are linear, and a burst no longer than the sum is found. No program here.
-/
namespace Go.Proofs.Ytgnllmcgebonpaa

/-- One nought fed in. -/
def zS (W P s : Nat) : Nat := (s * 2 % 2 ^ W) ^^^ (if s.testBit (W - 1) then P else 0)
/-- One bit fed in, the highest first. -/
def stepS (W P s : Nat) (b : Bool) : Nat := (s * 2 % 2 ^ W) ^^^ (if (s.testBit (W - 1) != b) then P else 0)
def runS (W P s : Nat) : List Bool → Nat
  | [] => s
  | b :: l => runS W P (stepS W P s b) l

theorem runS_app (W P : Nat) : ∀ (l m : List Bool) (s : Nat), runS W P s (l ++ m) = runS W P (runS W P s l) m
  | [], _, _ => rfl
  | b :: l, m, s => by rw [List.cons_append, runS, runS, runS_app W P l m]

theorem dbl_xor (W s t : Nat) : (s ^^^ t) * 2 % 2 ^ W = (s * 2 % 2 ^ W) ^^^ (t * 2 % 2 ^ W) := by
  rw [← Nat.xor_mod_two_pow]
  congr 1
  have h : ∀ x : Nat, x * 2 = x <<< 1 := fun x => by rw [Nat.shiftLeft_eq]
  rw [h, h, h, Nat.shiftLeft_xor_distrib]

theorem if_xor (P : Nat) (a b : Bool) : (if (a != b) then P else 0) = (if a then P else 0) ^^^ (if b then P else 0) := by
  cases a <;> cases b <;> simp

/-- Feeding is linear. -/
theorem stepS_xor (W P s t : Nat) (a b : Bool) : stepS W P (s ^^^ t) (a != b) = stepS W P s a ^^^ stepS W P t b := by
  unfold stepS
  rw [dbl_xor, Nat.testBit_xor]
  have h : ((s.testBit (W - 1) != t.testBit (W - 1)) != (a != b)) = ((s.testBit (W - 1) != a) != (t.testBit (W - 1) != b)) := by
    cases s.testBit (W - 1) <;> cases t.testBit (W - 1) <;> cases a <;> cases b <;> rfl
  rw [h, if_xor]
  ac_rfl

def xorB (l m : List Bool) : List Bool := List.zipWith (· != ·) l m
theorem runS_xor (W P : Nat) : ∀ (l m : List Bool) (s t : Nat), l.length = m.length → runS W P (s ^^^ t) (xorB l m) = runS W P s l ^^^ runS W P t m
  | [], [], _, _, _ => rfl
  | a :: l, b :: m, s, t, h => by
    show runS W P (stepS W P (s ^^^ t) (a != b)) (xorB l m) = _
    rw [stepS_xor, runS_xor W P l m _ _ (by simpa using h)]
    rfl
  | [], _ :: _, _, _, h => by simp at h
  | _ :: _, [], _, _, h => by simp at h

theorem zS_eq (W P s : Nat) : stepS W P s false = zS W P s := by unfold stepS zS; simp

theorem stepS_lt (W P s : Nat) (hP : P < 2 ^ W) (b : Bool) : stepS W P s b < 2 ^ W := by
  unfold stepS
  refine Nat.xor_lt_two_pow (Nat.mod_lt _ (Nat.two_pow_pos W)) ?_
  split
  · exact hP
  · exact Nat.two_pow_pos W
theorem runS_lt (W P : Nat) (hP : P < 2 ^ W) : ∀ (l : List Bool) (s : Nat), s < 2 ^ W → runS W P s l < 2 ^ W
  | [], _, h => h
  | b :: l, s, _ => runS_lt W P hP l _ (stepS_lt W P s hP b)

/-- A bit fed in is a nought fed in where the highest bit is turned by it. -/
theorem stepS_top (W P s : Nat) (hW : 0 < W) (b : Bool) : stepS W P s b = zS W P (s ^^^ (if b then 2 ^ (W - 1) else 0)) := by
  cases b
  · simp [zS_eq]
  · unfold stepS zS
    rw [if_pos rfl, dbl_xor, Nat.testBit_xor, Nat.testBit_two_pow_self]
    have h2 : 2 ^ (W - 1) * 2 % 2 ^ W = 0 := by
      rw [← Nat.pow_succ, show (W - 1).succ = W from by omega]; exact Nat.mod_self _
    rw [h2, Nat.xor_zero]

theorem top_bit (W s : Nat) (hW : 0 < W) (h : 2 ^ (W - 1) ≤ s) (hs : s < 2 ^ W) : s.testBit (W - 1) = true := by
  have hW2 : 2 ^ W = 2 * 2 ^ (W - 1) := by rw [← Nat.pow_succ', show (W - 1).succ = W from by omega]
  have hpos := Nat.two_pow_pos (W - 1)
  rw [Nat.testBit_eq_decide_div_mod_eq]
  have : s / 2 ^ (W - 1) = 1 := by
    rw [Nat.div_eq_of_lt_le (k := 1)] <;> omega
  simp [this]

/-- Noughts lose nothing where the polynomial is odd. -/
theorem zS_zero (W P s : Nat) (hW : 0 < W) (hs : s < 2 ^ W) (hP : P.testBit 0 = true) (h : zS W P s = 0) : s = 0 := by
  unfold zS at h
  have h1 := congrArg (fun x => x.testBit 0) h
  simp only [Nat.testBit_xor, Nat.zero_testBit] at h1
  have h2 : (s * 2 % 2 ^ W).testBit 0 = false := by
    rw [Nat.testBit_mod_two_pow]
    simp [Nat.testBit_zero]
  rw [h2] at h1
  by_cases ht : s.testBit (W - 1) = true
  · rw [if_pos ht, hP] at h1; simp at h1
  · rw [if_neg ht, Nat.xor_zero] at h
    have hlt : s < 2 ^ (W - 1) := by
      rcases Nat.lt_or_ge s (2 ^ (W - 1)) with g | g
      · exact g
      · exact absurd (top_bit W s hW g hs) ht
    have hW2 : 2 ^ W = 2 * 2 ^ (W - 1) := by rw [← Nat.pow_succ', show (W - 1).succ = W from by omega]
    rw [Nat.mod_eq_of_lt (by omega)] at h
    omega

theorem zS_lt (W P s : Nat) (hP : P < 2 ^ W) : zS W P s < 2 ^ W := by rw [← zS_eq]; exact stepS_lt W P s hP false
theorem zS_xor (W P s t : Nat) : zS W P (s ^^^ t) = zS W P s ^^^ zS W P t := by
  have := stepS_xor W P s t false false
  rw [← zS_eq, ← zS_eq, ← zS_eq]
  simpa using this
theorem zS_small (W P s : Nat) (hW : 0 < W) (hs : s < 2 ^ (W - 1)) : zS W P s = s * 2 := by
  have hW2 : 2 ^ W = 2 * 2 ^ (W - 1) := by rw [← Nat.pow_succ', show (W - 1).succ = W from by omega]
  unfold zS
  rw [Nat.testBit_lt_two_pow hs, Nat.mod_eq_of_lt (by omega)]
  simp

/-- k noughts. -/
def noughts (W P : Nat) : Nat → Nat → Nat
  | 0, s => s
  | k + 1, s => noughts W P k (zS W P s)
theorem runS_noughts (W P : Nat) : ∀ (k s : Nat), runS W P s (List.replicate k false) = noughts W P k s
  | 0, _ => rfl
  | k + 1, s => by rw [List.replicate_succ, runS, zS_eq, noughts, runS_noughts W P k]
theorem noughts_zero (W P : Nat) (hW : 0 < W) (hP : P < 2 ^ W) (hO : P.testBit 0 = true) : ∀ (k s : Nat), s < 2 ^ W → noughts W P k s = 0 → s = 0
  | 0, _, _, h => h
  | k + 1, s, hs, h => zS_zero W P s hW hs hO (noughts_zero W P hW hP hO k _ (zS_lt W P s hP) h)
theorem noughts_none (W P : Nat) (hW : 0 < W) : ∀ k, noughts W P k 0 = 0
  | 0 => rfl
  | k + 1 => by rw [noughts, zS_small W P 0 hW (Nat.two_pow_pos _)]; exact noughts_none W P hW k

/-- Bits as a number, the highest first. -/
def valB : List Bool → Nat
  | [] => 0
  | b :: l => (if b then 2 ^ l.length else 0) + valB l
theorem valB_lt : ∀ l : List Bool, valB l < 2 ^ l.length
  | [] => by simp [valB]
  | b :: l => by
    have := valB_lt l
    rw [valB, List.length_cons, Nat.pow_succ]
    cases b <;> simp <;> omega
theorem valB_zero : ∀ l : List Bool, valB l = 0 → l = List.replicate l.length false
  | [], _ => rfl
  | b :: l, h => by
    rw [valB] at h
    have hp := Nat.two_pow_pos l.length
    cases b
    · simp at h
      rw [List.length_cons, List.replicate_succ, ← valB_zero l h]
    · simp at h

theorem xor_add_top (m x : Nat) (h : x < 2 ^ m) : 2 ^ m + x = 2 ^ m ^^^ x := by
  have h0 := Nat.two_pow_add_eq_or_of_lt h 1
  rw [Nat.mul_one] at h0
  rw [h0]
  apply Nat.eq_of_testBit_eq
  intro i
  rw [Nat.testBit_or, Nat.testBit_xor, Nat.testBit_two_pow]
  by_cases hi : m = i
  · subst hi; rw [Nat.testBit_lt_two_pow h]; simp
  · simp [hi]

/-- Up to W bits fed in are noughts fed in behind a change of what stands. -/
theorem feed (W P : Nat) (hW : 0 < W) : ∀ (l : List Bool) (s : Nat), l.length ≤ W → runS W P s l = noughts W P l.length (s ^^^ (valB l * 2 ^ (W - l.length)))
  | [], s, _ => by simp [runS, noughts, valB]
  | b :: l, s, h => by
    have hl : l.length + 1 ≤ W := by simpa using h
    have hv := valB_lt l
    rw [runS, feed W P hW l _ (by omega), List.length_cons, noughts, stepS_top W P s hW b]
    congr 1
    have h1 : valB l * 2 ^ (W - l.length) = zS W P (valB l * 2 ^ (W - (l.length + 1))) := by
      have h2 : valB l * 2 ^ (W - (l.length + 1)) < 2 ^ (W - 1) := by
        have : 2 ^ (W - 1) = 2 ^ l.length * 2 ^ (W - (l.length + 1)) := by rw [← Nat.pow_add]; congr 1; omega
        rw [this]
        exact Nat.mul_lt_mul_of_pos_right hv (Nat.two_pow_pos _)
      rw [zS_small W P _ hW h2, Nat.mul_assoc, ← Nat.pow_succ]
      congr 2; omega
    rw [h1, ← zS_xor]
    congr 1
    rw [Nat.xor_assoc]
    congr 1
    rw [valB, Nat.add_mul]
    have h3 : valB l * 2 ^ (W - (l.length + 1)) < 2 ^ (W - 1) := by
      have : 2 ^ (W - 1) = 2 ^ l.length * 2 ^ (W - (l.length + 1)) := by rw [← Nat.pow_add]; congr 1; omega
      rw [this]
      exact Nat.mul_lt_mul_of_pos_right hv (Nat.two_pow_pos _)
    cases b
    · simp
    · have h4 : 2 ^ l.length * 2 ^ (W - (l.length + 1)) = 2 ^ (W - 1) := by rw [← Nat.pow_add]; congr 1; omega
      simp only [if_true, h4]
      exact (xor_add_top _ _ h3).symm

/-- Bits within W side by side that leave nothing behind are none. -/
theorem burst_none (W P : Nat) (hW : 0 < W) (hP : P < 2 ^ W) (hO : P.testBit 0 = true) (i j : Nat) (d : List Bool) (hd : d.length ≤ W)
    (h : runS W P 0 (List.replicate i false ++ d ++ List.replicate j false) = 0) : d = List.replicate d.length false := by
  rw [runS_app, runS_app, runS_noughts W P i, noughts_none W P hW, runS_noughts] at h
  have h1 := noughts_zero W P hW hP hO j _ (runS_lt W P hP d 0 (Nat.two_pow_pos W)) h
  rw [feed W P hW d 0 hd, Nat.zero_xor] at h1
  have hlt : valB d * 2 ^ (W - d.length) < 2 ^ W := by
    have : 2 ^ W = 2 ^ d.length * 2 ^ (W - d.length) := by rw [← Nat.pow_add]; congr 1; omega
    rw [this]
    exact Nat.mul_lt_mul_of_pos_right (valB_lt d) (Nat.two_pow_pos _)
  have h2 := noughts_zero W P hW hP hO _ _ hlt h1
  have h3 : valB d = 0 := by
    rcases Nat.mul_eq_zero.1 h2 with g | g
    · exact g
    · exact absurd g (Nat.ne_of_gt (Nat.two_pow_pos _))
  exact valB_zero d h3

/-- The sum behind bytes is right just if all of it leaves nothing. -/
theorem good_iff (W P s : Nat) (hW : 0 < W) (hP : P < 2 ^ W) (hO : P.testBit 0 = true) (hs : s < 2 ^ W) (l c : List Bool) (hc : c.length = W) : runS W P s (l ++ c) = 0 ↔ valB c = runS W P s l := by
  rw [runS_app, feed W P hW c _ (by omega), hc, Nat.sub_self, Nat.pow_zero, Nat.mul_one]
  have hlt := runS_lt W P hP l s hs
  have hv := valB_lt c
  rw [hc] at hv
  constructor
  · intro h
    have h1 := noughts_zero W P hW hP hO W _ (Nat.xor_lt_two_pow hlt hv) h
    have h2 := congrArg (fun x => runS W P s l ^^^ x) h1
    simp only [← Nat.xor_assoc, Nat.xor_self, Nat.zero_xor, Nat.xor_zero] at h2
    exact h2
  · intro h
    rw [h, Nat.xor_self]
    exact noughts_none W P hW W
end Go.Proofs.Ytgnllmcgebonpaa
