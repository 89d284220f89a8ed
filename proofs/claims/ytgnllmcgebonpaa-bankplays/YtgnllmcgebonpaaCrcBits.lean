/-
  Bytes as bits, the highest first; sums of bytes; bursts. No program here.
-/
import Derived.Test.YtgnllmcgebonpaaCrcMath
import Derived.Test.YtgnllmcgebonpaaBase
namespace Go.Proofs.Ytgnllmcgebonpaa

def bitsU (x : UInt8) : List Bool := [x.toNat.testBit 7, x.toNat.testBit 6, x.toNat.testBit 5, x.toNat.testBit 4, x.toNat.testBit 3, x.toNat.testBit 2, x.toNat.testBit 1, x.toNat.testBit 0]
def bitsOf : List UInt8 → List Bool
  | [] => []
  | x :: l => bitsU x ++ bitsOf l
theorem bitsOf_length : ∀ l : List UInt8, (bitsOf l).length = 8 * l.length
  | [] => rfl
  | x :: l => by rw [bitsOf, List.length_append, bitsOf_length l]; simp [bitsU]; omega
theorem bitsOf_app : ∀ l m : List UInt8, bitsOf (l ++ m) = bitsOf l ++ bitsOf m
  | [], _ => rfl
  | x :: l, m => by rw [List.cons_append, bitsOf, bitsOf, bitsOf_app l m, List.append_assoc]
theorem bitsU_at (x : UInt8) (j : Nat) (hj : j < 8) : (bitsU x)[j]? = some (x.toNat.testBit (7 - j)) := by
  have hc : j = 0 ∨ j = 1 ∨ j = 2 ∨ j = 3 ∨ j = 4 ∨ j = 5 ∨ j = 6 ∨ j = 7 := by omega
  rcases hc with rfl | rfl | rfl | rfl | rfl | rfl | rfl | rfl <;> rfl
theorem bits_at : ∀ (l : List UInt8) (i : Nat) (x : UInt8), l[i / 8]? = some x → (bitsOf l)[i]? = some (x.toNat.testBit (7 - i % 8))
  | [], i, x, h => by simp at h
  | y :: l, i, x, h => by
    rw [bitsOf]
    by_cases hi : i < 8
    · have h0 : i / 8 = 0 := by omega
      rw [h0] at h
      simp at h
      subst h
      rw [List.getElem?_append_left (by simp [bitsU]; exact hi), bitsU_at y i hi, show i % 8 = i from by omega]
    · have h8 : i / 8 = (i - 8) / 8 + 1 := by omega
      rw [h8, List.getElem?_cons_succ] at h
      have := bits_at l (i - 8) x h
      rw [List.getElem?_append_right (by simp [bitsU]; omega), show (bitsU y).length = 8 from rfl, this, show (i - 8) % 8 = i % 8 from by omega]

theorem u8_ext (x y : UInt8) (h : ∀ j, j < 8 → x.toNat.testBit j = y.toNat.testBit j) : x = y := by
  apply UInt8.toNat_inj.1
  apply Nat.eq_of_testBit_eq
  intro j
  by_cases hj : j < 8
  · exact h j hj
  · rw [Nat.testBit_lt_two_pow (Nat.lt_of_lt_of_le x.toNat_lt (Nat.pow_le_pow_right (n := 2) (i := 8) (by omega) (by omega))), Nat.testBit_lt_two_pow (Nat.lt_of_lt_of_le y.toNat_lt (Nat.pow_le_pow_right (n := 2) (i := 8) (by omega) (by omega)))]
theorem bitsOf_inj : ∀ l m : List UInt8, bitsOf l = bitsOf m → l = m
  | [], [], _ => rfl
  | [], _ :: _, h => by have := congrArg List.length h; simp [bitsOf_length] at this
  | _ :: _, [], h => by have := congrArg List.length h; simp [bitsOf_length] at this
  | x :: l, y :: m, h => by
    have h1 : bitsU x = bitsU y ∧ bitsOf l = bitsOf m := by
      rw [bitsOf, bitsOf] at h
      exact List.append_inj h rfl
    rw [bitsOf_inj l m h1.2]
    congr 1
    apply u8_ext
    intro j hj
    have h2 := congrArg (fun l => l[7 - j]?) h1.1
    simp only [bitsU_at _ _ (show 7 - j < 8 by omega), show 7 - (7 - j) = j from by omega] at h2
    exact Option.some.inj h2

theorem bitsU_xor (x y : UInt8) : bitsU (x ^^^ y) = xorB (bitsU x) (bitsU y) := by
  simp only [bitsU, UInt8.toNat_xor, Nat.testBit_xor]
  rfl
theorem bitsOf_xor : ∀ l m : List UInt8, l.length = m.length → bitsOf (xorL l m) = xorB (bitsOf l) (bitsOf m)
  | [], [], _ => rfl
  | x :: l, y :: m, h => by
    show bitsU (x ^^^ y) ++ bitsOf (xorL l m) = _
    rw [bitsU_xor, bitsOf_xor l m (by simpa using h), bitsOf, bitsOf]
    unfold xorB
    rw [List.zipWith_append (by rfl)]
  | [], _ :: _, h => by simp at h
  | _ :: _, [], h => by simp at h

def crcL (W P s : Nat) (l : List UInt8) : Nat := runS W P s (bitsOf l)
theorem crcL_lt (W P s : Nat) (hP : P < 2 ^ W) (hs : s < 2 ^ W) (l : List UInt8) : crcL W P s l < 2 ^ W := runS_lt W P hP _ s hs
/-- Sums of one beginning are linear. -/
theorem crcL_xor (W P : Nat) (l m : List UInt8) (h : l.length = m.length) : crcL W P 0 (xorL l m) = crcL W P 0 l ^^^ crcL W P 0 m := by
  unfold crcL
  rw [bitsOf_xor l m h]
  have := runS_xor W P (bitsOf l) (bitsOf m) 0 0 (by rw [bitsOf_length, bitsOf_length, h])
  simpa using this

def wholeP : Nat := 0x5D6DCB
def wholeS : Nat := 0xFEDCBA
def wholeL (l : List UInt8) : Nat := crcL 24 wholeP wholeS l
def headL (l : List UInt8) : Nat := crcL 11 0x385 0x1A l
def sum3 (s : Nat) : List UInt8 := [UInt8.ofNat (s / 65536), UInt8.ofNat (s / 256), UInt8.ofNat s]
def fixL (l : List UInt8) : List UInt8 := l ++ sum3 (wholeL l)
def goodL (l : List UInt8) : Bool := decide (3 ≤ l.length ∧ fixL (l.take (l.length - 3)) = l)

theorem wholeL_lt (l : List UInt8) : wholeL l < 16777216 := crcL_lt 24 wholeP wholeS (by decide) (by decide) l
theorem valB_bitsU (x : UInt8) : valB (bitsU x) = x.toNat := by
  have := (by decide +kernel : ∀ n, n < 256 → valB (bitsU (UInt8.ofNat n)) = n) x.toNat x.toNat_lt
  simpa using this
theorem valB_app : ∀ l m : List Bool, valB (l ++ m) = valB l * 2 ^ m.length + valB m
  | [], m => by simp [valB]
  | b :: l, m => by
    rw [List.cons_append, valB, valB, valB_app l m, List.length_append, Nat.pow_add, Nat.add_mul]
    cases b <;> simp <;> omega
theorem valB_sum3 (x y z : UInt8) : valB (bitsOf [x, y, z]) = x.toNat * 65536 + y.toNat * 256 + z.toNat := by
  simp only [bitsOf, valB_app, valB_bitsU, List.append_nil]
  simp [bitsU]
  omega
theorem sum3_val (s : Nat) (h : s < 16777216) : valB (bitsOf (sum3 s)) = s := by
  rw [sum3, valB_sum3]
  simp only [UInt8.toNat_ofNat']
  omega
theorem sum3_of (x y z : UInt8) (s : Nat) (hs : s < 16777216) (h : valB (bitsOf [x, y, z]) = s) : [x, y, z] = sum3 s := by
  rw [valB_sum3] at h
  have hx := x.toNat_lt
  have hy := y.toNat_lt
  have hz := z.toNat_lt
  have e1 : x = UInt8.ofNat (s / 65536) := by apply UInt8.toNat_inj.1; rw [UInt8.toNat_ofNat']; omega
  have e2 : y = UInt8.ofNat (s / 256) := by apply UInt8.toNat_inj.1; rw [UInt8.toNat_ofNat']; omega
  have e3 : z = UInt8.ofNat s := by apply UInt8.toNat_inj.1; rw [UInt8.toNat_ofNat']; omega
  rw [sum3, ← e1, ← e2, ← e3]

/-- Good bytes leave nothing behind. -/
theorem goodL_iff (l : List UInt8) (h : 3 ≤ l.length) : goodL l = true ↔ runS 24 wholeP wholeS (bitsOf l) = 0 := by
  obtain ⟨x, y, z, hd⟩ : ∃ x y z, l.drop (l.length - 3) = [x, y, z] := by
    have hlen : (l.drop (l.length - 3)).length = 3 := by rw [List.length_drop]; omega
    match hm : l.drop (l.length - 3), hlen with
    | [x, y, z], _ => exact ⟨x, y, z, rfl⟩
  have hl : l = l.take (l.length - 3) ++ [x, y, z] := by rw [← hd, List.take_append_drop]
  obtain ⟨t, ht⟩ : ∃ t, t = l.take (l.length - 3) := ⟨_, rfl⟩
  rw [← ht] at hl
  have hg : goodL l = true ↔ sum3 (wholeL t) = [x, y, z] := by
    unfold goodL
    rw [← ht]
    simp only [decide_eq_true_eq]
    constructor
    · intro g
      have := g.2
      rw [hl] at this
      unfold fixL at this
      exact List.append_cancel_left this
    · intro g
      refine ⟨h, ?_⟩
      unfold fixL
      rw [g, ← hl]
  have h1 := good_iff 24 wholeP wholeS (by omega) (by decide) (by decide) (by decide) (bitsOf t) (bitsOf [x, y, z]) (by rw [bitsOf_length]; rfl)
  rw [← bitsOf_app, ← hl] at h1
  rw [hg, h1]
  constructor
  · intro g
    rw [← g]; exact sum3_val _ (wholeL_lt t)
  · intro g
    exact (sum3_of x y z _ (wholeL_lt t) g).symm

theorem fix_good (l : List UInt8) : goodL (fixL l) = true := by
  unfold goodL
  have h : (fixL l).length = l.length + 3 := by simp [fixL, sum3]
  rw [h]
  simp only [decide_eq_true_eq]
  refine ⟨by omega, ?_⟩
  rw [show l.length + 3 - 3 = l.length from by omega]
  unfold fixL
  rw [List.take_left]

/-- The bits of a burst: those of bits from the bit k on. -/
def burstB (n k bits : Nat) : List Bool := (List.range (8 * n)).map fun i => decide (k ≤ i ∧ i < k + 32) && bits.testBit (31 - (i - k))
theorem burstB_length (n k bits : Nat) : (burstB n k bits).length = 8 * n := by simp [burstB]
theorem burstB_at (n k bits i : Nat) (h : i < 8 * n) : (burstB n k bits)[i]? = some (decide (k ≤ i ∧ i < k + 32) && bits.testBit (31 - (i - k))) := by
  simp [burstB, h]

/-- Bits that are none but within 24 side by side, cut in three. -/
theorem window (l : List Bool) (k : Nat) (h : ∀ i b, l[i]? = some b → b = true → k ≤ i ∧ i < k + 24) :
    ∃ i j d, d.length ≤ 24 ∧ l = List.replicate i false ++ d ++ List.replicate j false ∧ (d = List.replicate d.length false → l = List.replicate l.length false) := by
  have hlow : l.take k = List.replicate (l.take k).length false := by
    apply List.eq_replicate_of_mem
    intro b hb
    obtain ⟨i, hi⟩ := List.getElem?_of_mem hb
    rw [List.getElem?_take] at hi
    split at hi
    · cases b
      · rfl
      · have := h i true hi rfl; omega
    · simp at hi
  have hhigh : l.drop (k + 24) = List.replicate (l.drop (k + 24)).length false := by
    apply List.eq_replicate_of_mem
    intro b hb
    obtain ⟨i, hi⟩ := List.getElem?_of_mem hb
    rw [List.getElem?_drop] at hi
    cases b
    · rfl
    · have := h _ true hi rfl; omega
  refine ⟨(l.take k).length, (l.drop (k + 24)).length, (l.drop k).take 24, by rw [List.length_take]; omega, ?_, ?_⟩
  · rw [← hlow, ← hhigh, List.append_assoc, show l.drop (k + 24) = (l.drop k).drop 24 from by rw [List.drop_drop], List.take_append_drop, List.take_append_drop]
  · intro hd
    have hl : l = List.replicate (l.take k).length false ++ (l.drop k).take 24 ++ List.replicate (l.drop (k + 24)).length false := by
      rw [← hlow, ← hhigh, List.append_assoc, show l.drop (k + 24) = (l.drop k).drop 24 from by rw [List.drop_drop], List.take_append_drop, List.take_append_drop]
    apply List.eq_replicate_of_mem
    intro b hb
    rw [hl, hd] at hb
    simp only [List.mem_append, List.mem_replicate] at hb
    rcases hb with (hb | hb) | hb <;> exact hb.2

/-- Bits turned in good bytes, within 24 side by side, leave them good just if none is turned. -/
theorem burst_found (x e : List UInt8) (k : Nat) (h3 : 3 ≤ x.length) (hx : goodL x = true) (hl : e.length = x.length) (he : ∀ i b, (bitsOf e)[i]? = some b → b = true → k ≤ i ∧ i < k + 24) :
    goodL (xorL x e) = decide (e = List.replicate e.length 0) := by
  have hxl : (xorL x e).length = x.length := xorL_length x e hl.symm
  have h1 := (goodL_iff x h3).1 hx
  have h2 := goodL_iff (xorL x e) (by omega)
  have h4 := runS_xor 24 wholeP (bitsOf x) (bitsOf e) wholeS 0 (by rw [bitsOf_length, bitsOf_length, hl])
  rw [Nat.xor_zero, ← bitsOf_xor x e hl.symm, h1, Nat.zero_xor] at h4
  rw [h4] at h2
  by_cases hz : e = List.replicate e.length 0
  · rw [decide_eq_true hz]
    apply h2.2
    have hb : bitsOf e = List.replicate (bitsOf e).length false := by
      apply List.eq_replicate_of_mem
      intro b hb
      obtain ⟨i, hi⟩ := List.getElem?_of_mem hb
      have hil := (List.getElem?_eq_some_iff.1 hi).1
      rw [bitsOf_length] at hil
      have hz8 : e[i / 8]? = some 0 := by rw [hz, List.getElem?_replicate, if_pos (by omega)]
      rw [bits_at e i 0 hz8] at hi
      simp at hi
      exact hi
    rw [hb, runS_noughts]
    exact noughts_none 24 wholeP (by omega) _
  · rw [decide_eq_false hz]
    apply Bool.eq_false_iff.2
    intro hg
    apply hz
    have h5 := h2.1 hg
    obtain ⟨i, j, d, hd, hcut, hall⟩ := window (bitsOf e) k he
    rw [hcut] at h5
    have h6 := hall (burst_none 24 wholeP (by omega) (by decide) (by decide) i j d hd h5)
    apply bitsOf_inj
    rw [h6, bitsOf_length]
    symm
    apply List.eq_replicate_iff.2
    refine ⟨by rw [bitsOf_length, List.length_replicate], fun b hb => ?_⟩
    obtain ⟨q, hq⟩ := List.getElem?_of_mem hb
    have hql := (List.getElem?_eq_some_iff.1 hq).1
    rw [bitsOf_length, List.length_replicate] at hql
    rw [bits_at _ q 0 (by rw [List.getElem?_replicate, if_pos (by omega)])] at hq
    simp at hq
    exact hq
end Go.Proofs.Ytgnllmcgebonpaa
