/-
  Words of 32 bits turned to the right, as plain numbers: what follows from the definition (no program here).

  SHA-256 in plain numbers: the words of a block, the rounds, the filling up, the digest; what follows from the definitions. No program here.

  More bytes behind bytes: the state and what is left. No program here.

  The tag over lists of bytes, and what follows of it. No program here.

  Keys out of keys over lists of bytes, and what follows of it. No program here.
  Numbers as bits, the highest first; bits as bytes, and back. No program here.

  Sums of bits, of any width, over plain numbers: they are linear, and a burst no longer than the sum is found. No program here.

  Bytes as bits, the highest first; sums of bytes; bursts. No program here.
-/
import Derived.Laws.BitsAllLaws
import Derived.Test.YtahnbljbhfpldaaGreatDoorGround
namespace Go.Proofs.YtahnbljbhfpldaaGreatDoor
set_option maxRecDepth 20000

def rotr (x k : Nat) : Nat := (x >>> k) ||| ((x <<< (32 - k)) % 4294967296)

theorem rotr_bv (x k : Nat) (hx : x < 4294967296) (hk : k < 32) : rotr x k = ((BitVec.ofNat 32 x).rotateRight k).toNat := by
  rw [BitVec.rotateRight_def]
  simp only [BitVec.toNat_or, BitVec.toNat_ushiftRight, BitVec.toNat_shiftLeft, BitVec.toNat_ofNat, rotr]
  rw [Nat.mod_eq_of_lt (a := k) hk, Nat.mod_eq_of_lt (a := x) (b := 2 ^ 32) (by omega)]

theorem rotr_lt (x k : Nat) (hx : x < 4294967296) (hk : k < 32) : rotr x k < 4294967296 := by
  rw [rotr_bv x k hx hk]; exact ((BitVec.ofNat 32 x).rotateRight k).isLt

theorem rotr_zero (x : Nat) : rotr x 0 = x := by
  have h : x <<< 32 % 4294967296 = 0 := by rw [Nat.shiftLeft_eq]; omega
  simp [rotr, h]

theorem rotr_rotr (x j k : Nat) (hx : x < 4294967296) (hj : j < 32) (hk : k < 32) : rotr (rotr x j) k = rotr x ((j + k) % 32) := by
  rw [rotr_bv (rotr x j) k (rotr_lt x j hx hj) hk, rotr_bv x j hx hj, rotr_bv x ((j + k) % 32) hx (Nat.mod_lt _ (by omega))]
  congr 1
  rw [BitVec.ofNat_toNat, BitVec.setWidth_eq]
  apply BitVec.eq_of_getLsbD_eq
  intro i hi
  simp only [BitVec.getLsbD_rotateRight]
  rw [Nat.mod_eq_of_lt (a := k) hk, Nat.mod_eq_of_lt (a := j) hj, Nat.mod_mod]
  by_cases h : j + k < 32
  · rw [Nat.mod_eq_of_lt h]
    by_cases h1 : i < 32 - k
    · by_cases h2 : k + i < 32 - j
      · simp [h1, h2, show i < 32 - (j + k) from by omega, Nat.add_assoc]
      · simp [h1, h2, show ¬ i < 32 - (j + k) from by omega, hi, show k + i < 32 from by omega]
        congr 1; omega
    · simp [h1, hi, show i - (32 - k) < 32 - j from by omega, show ¬ i < 32 - (j + k) from by omega]
      congr 1; omega
  · rw [show (j + k) % 32 = j + k - 32 from by omega]
    by_cases h1 : i < 32 - k
    · simp [h1, show ¬ k + i < 32 - j from by omega, show i < 32 - (j + k - 32) from by omega, show k + i < 32 from by omega]
      congr 1; omega
    · by_cases h2 : i - (32 - k) < 32 - j
      · simp [h1, h2, hi, show i < 32 - (j + k - 32) from by omega]
        congr 1; omega
      · simp [h1, h2, hi, show ¬ i < 32 - (j + k - 32) from by omega, show i - (32 - k) < 32 from by omega]
        congr 1; omega

/-- The highest byte first. -/
def be (l : List UInt8) : Nat := l.foldl (fun x c => x * 256 + c.toNat) 0

theorem be_snoc (l : List UInt8) (c : UInt8) : be (l ++ [c]) = be l * 256 + c.toNat := by simp [be, List.foldl_append]

theorem be_lt_aux (l : List UInt8) : ∀ x B : Nat, x < B → l.foldl (fun x c => x * 256 + c.toNat) x < B * 256 ^ l.length := by
  induction l with
  | nil => intro x B h; simpa using h
  | cons c l ih =>
    intro x B h
    have hc := c.toNat_lt
    have h1 : x * 256 + c.toNat < B * 256 := by omega
    have h2 := ih (x * 256 + c.toNat) (B * 256) h1
    simp only [List.foldl_cons, List.length_cons]
    rw [show B * 256 ^ (l.length + 1) = B * 256 * 256 ^ l.length from by rw [Nat.pow_succ, Nat.mul_comm (256 ^ l.length) 256, Nat.mul_assoc]]
    exact h2

theorem be_lt (l : List UInt8) : be l < 256 ^ l.length := by have := be_lt_aux l 0 1 (by omega); simpa [be] using this

/-- A word as four bytes. -/
def w4 (x : Nat) : List UInt8 := [UInt8.ofNat (x / 16777216), UInt8.ofNat (x / 65536), UInt8.ofNat (x / 256), UInt8.ofNat x]

theorem w4_length (x : Nat) : (w4 x).length = 4 := rfl

theorem be_w4 (x : Nat) (h : x < 4294967296) : be (w4 x) = x := by
  simp only [be, w4, List.foldl_cons, List.foldl_nil, UInt8.toNat_ofNat']
  omega

theorem be_from (m : List UInt8) : ∀ x : Nat, m.foldl (fun x c => x * 256 + c.toNat) x = x * 256 ^ m.length + be m := by
  induction m with
  | nil => intro x; simp [be]
  | cons c m ih =>
    intro x
    have h0 := ih c.toNat
    simp only [List.foldl_cons, List.length_cons, be, Nat.zero_mul, Nat.zero_add] at *
    rw [ih, h0, Nat.pow_succ, Nat.mul_comm (256 ^ m.length) 256, ← Nat.mul_assoc, Nat.add_mul]
    omega

theorem be_append (l m : List UInt8) : be (l ++ m) = be l * 256 ^ m.length + be m := by
  have := be_from m (be l)
  simp only [be, List.foldl_append] at *
  exact this

/-- Words, one behind the other. -/
def w4s (l : List Nat) : List UInt8 := l.flatMap w4

theorem w4s_length (l : List Nat) : (w4s l).length = 4 * l.length := by
  induction l with
  | nil => rfl
  | cons x l ih => simp only [w4s, List.flatMap_cons, List.length_append, w4_length, List.length_cons] at *; omega

theorem w4s_snoc (l : List Nat) (x : Nat) : w4s (l ++ [x]) = w4s l ++ w4 x := by simp [w4s, List.flatMap_append]

end Go.Proofs.YtahnbljbhfpldaaGreatDoor

namespace Go.Proofs.YtahnbljbhfpldaaGreatDoor

def rot3 (x i j k : Nat) : Nat := rotr x i ^^^ rotr x j ^^^ rotr x k
def sg0 (x : Nat) : Nat := rotr x 7 ^^^ rotr x 18 ^^^ (x >>> 3)
def sg1 (x : Nat) : Nat := rotr x 17 ^^^ rotr x 19 ^^^ (x >>> 10)

theorem xor_lt32 {x y : Nat} (hx : x < 4294967296) (hy : y < 4294967296) : x ^^^ y < 4294967296 := Nat.xor_lt_two_pow (n := 32) hx hy
theorem and_lt32 {x y : Nat} (hx : x < 4294967296) : x &&& y < 4294967296 := Nat.lt_of_le_of_lt Nat.and_le_left hx
theorem shr_lt32 {x k : Nat} (hx : x < 4294967296) : x >>> k < 4294967296 := Nat.lt_of_le_of_lt (by rw [Nat.shiftRight_eq_div_pow]; exact Nat.div_le_self _ _) hx
theorem rot3_lt {x i j k : Nat} (hx : x < 4294967296) (hi : i < 32) (hj : j < 32) (hk : k < 32) : rot3 x i j k < 4294967296 :=
  xor_lt32 (xor_lt32 (rotr_lt x i hx hi) (rotr_lt x j hx hj)) (rotr_lt x k hx hk)
theorem sg0_lt {x : Nat} (hx : x < 4294967296) : sg0 x < 4294967296 :=
  xor_lt32 (xor_lt32 (rotr_lt x 7 hx (by omega)) (rotr_lt x 18 hx (by omega))) (shr_lt32 hx)
theorem sg1_lt {x : Nat} (hx : x < 4294967296) : sg1 x < 4294967296 :=
  xor_lt32 (xor_lt32 (rotr_lt x 17 hx (by omega)) (rotr_lt x 19 hx (by omega))) (shr_lt32 hx)

/-- The word behind t words of a block. -/
def nextW (blk : List UInt8) (W : List Nat) (t : Nat) : Nat :=
  if t < 16 then be ((blk.drop (4 * t)).take 4)
  else (sg1 (W.getD (t - 2) 0) + W.getD (t - 7) 0 + sg0 (W.getD (t - 15) 0) + W.getD (t - 16) 0) % 4294967296
/-- The first t words of a block. -/
def wl (blk : List UInt8) : Nat → List Nat
  | 0 => []
  | t + 1 => wl blk t ++ [nextW blk (wl blk t) t]

theorem wl_length (blk : List UInt8) : ∀ t, (wl blk t).length = t
  | 0 => rfl
  | t + 1 => by simp [wl, wl_length blk t]

theorem nextW_lt (blk : List UInt8) (W : List Nat) (t : Nat) : nextW blk W t < 4294967296 := by
  unfold nextW
  split
  · have h := be_lt ((blk.drop (4 * t)).take 4)
    have h2 : ((blk.drop (4 * t)).take 4).length ≤ 4 := List.length_take_le _ _
    have h3 : 256 ^ ((blk.drop (4 * t)).take 4).length ≤ 256 ^ 4 := Nat.pow_le_pow_right (by omega) h2
    have h4 : (256 : Nat) ^ 4 = 4294967296 := by decide
    omega
  · exact Nat.mod_lt _ (by omega)

theorem wl_lt (blk : List UInt8) : ∀ t, ∀ x ∈ wl blk t, x < 4294967296
  | 0 => by simp [wl]
  | t + 1 => by
    intro x hx
    simp only [wl, List.mem_append, List.mem_singleton] at hx
    rcases hx with hx | rfl
    · exact wl_lt blk t x hx
    · exact nextW_lt _ _ _

theorem getD_lt {l : List Nat} (h : ∀ x ∈ l, x < 4294967296) (k : Nat) : l.getD k 0 < 4294967296 := by
  rw [List.getD_eq_getElem?_getD]
  cases hk : l[k]? with
  | none => simp
  | some x => exact h x (List.mem_of_getElem? hk)

/-- The state. -/
structure S8 where
  a : Nat
  b : Nat
  c : Nat
  d : Nat
  e : Nat
  f : Nat
  g : Nat
  h : Nat

def S8.small (s : S8) : Prop := s.a < 4294967296 ∧ s.b < 4294967296 ∧ s.c < 4294967296 ∧ s.d < 4294967296 ∧ s.e < 4294967296 ∧ s.f < 4294967296 ∧ s.g < 4294967296 ∧ s.h < 4294967296
def S8.list (s : S8) : List Nat := [s.a, s.b, s.c, s.d, s.e, s.f, s.g, s.h]

theorem S8.small_list {s : S8} (hs : s.small) : ∀ x ∈ s.list, x < 4294967296 := by
  obtain ⟨h1, h2, h3, h4, h5, h6, h7, h8⟩ := hs
  simp [S8.list]; omega

def ch (e f g : Nat) : Nat := (e &&& f) ^^^ ((4294967295 - e) &&& g)
def maj (a b c : Nat) : Nat := (a &&& b) ^^^ (a &&& c) ^^^ (b &&& c)
theorem ch_lt {e f g : Nat} (he : e < 4294967296) : ch e f g < 4294967296 := xor_lt32 (and_lt32 he) (and_lt32 (by omega))
theorem maj_lt {a b c : Nat} (ha : a < 4294967296) (hb : b < 4294967296) : maj a b c < 4294967296 := xor_lt32 (xor_lt32 (and_lt32 ha) (and_lt32 ha)) (and_lt32 hb)

/-- T1 and T2 of a round. -/
def T1 (k w : Nat) (s : S8) : Nat := (s.h + rot3 s.e 6 11 25 + ch s.e s.f s.g + k + w) % 4294967296
def T2 (s : S8) : Nat := (rot3 s.a 2 13 22 + maj s.a s.b s.c) % 4294967296
/-- One round. -/
def rnd (k w : Nat) (s : S8) : S8 := ⟨(T1 k w s + T2 s) % 4294967296, s.a, s.b, s.c, (s.d + T1 k w s) % 4294967296, s.e, s.f, s.g⟩

theorem rnd_small {k w : Nat} {s : S8} (hs : s.small) : (rnd k w s).small := by
  obtain ⟨h1, h2, h3, h4, h5, h6, h7, h8⟩ := hs
  exact ⟨Nat.mod_lt _ (by omega), h1, h2, h3, Nat.mod_lt _ (by omega), h5, h6, h7⟩

/-- The rounds' words. -/
def kTab : List Nat := [0x428a2f98, 0x71374491, 0xb5c0fbcf, 0xe9b5dba5, 0x3956c25b, 0x59f111f1, 0x923f82a4, 0xab1c5ed5,
  0xd807aa98, 0x12835b01, 0x243185be, 0x550c7dc3, 0x72be5d74, 0x80deb1fe, 0x9bdc06a7, 0xc19bf174,
  0xe49b69c1, 0xefbe4786, 0x0fc19dc6, 0x240ca1cc, 0x2de92c6f, 0x4a7484aa, 0x5cb0a9dc, 0x76f988da,
  0x983e5152, 0xa831c66d, 0xb00327c8, 0xbf597fc7, 0xc6e00bf3, 0xd5a79147, 0x06ca6351, 0x14292967,
  0x27b70a85, 0x2e1b2138, 0x4d2c6dfc, 0x53380d13, 0x650a7354, 0x766a0abb, 0x81c2c92e, 0x92722c85,
  0xa2bfe8a1, 0xa81a664b, 0xc24b8b70, 0xc76c51a3, 0xd192e819, 0xd6990624, 0xf40e3585, 0x106aa070,
  0x19a4c116, 0x1e376c08, 0x2748774c, 0x34b0bcb5, 0x391c0cb3, 0x4ed8aa4a, 0x5b9cca4f, 0x682e6ff3,
  0x748f82ee, 0x78a5636f, 0x84c87814, 0x8cc70208, 0x90befffa, 0xa4506ceb, 0xbef9a3f7, 0xc67178f2]
/-- The state at first. -/
def start : S8 := ⟨0x6a09e667, 0xbb67ae85, 0x3c6ef372, 0xa54ff53a, 0x510e527f, 0x9b05688c, 0x1f83d9ab, 0x5be0cd19⟩

theorem kTab_length : kTab.length = 64 := rfl
theorem kTab_lt : ∀ x ∈ kTab, x < 4294967296 := by decide +kernel
theorem start_small : start.small := by unfold S8.small start; decide

def rnds (W : List Nat) (s : S8) : Nat → S8
  | 0 => s
  | t + 1 => rnd (kTab.getD t 0) (W.getD t 0) (rnds W s t)
theorem rnds_small (W : List Nat) {s : S8} (hs : s.small) : ∀ t, (rnds W s t).small
  | 0 => hs
  | t + 1 => rnd_small (rnds_small W hs t)

def addS (s r : S8) : S8 := ⟨(s.a + r.a) % 4294967296, (s.b + r.b) % 4294967296, (s.c + r.c) % 4294967296, (s.d + r.d) % 4294967296,
  (s.e + r.e) % 4294967296, (s.f + r.f) % 4294967296, (s.g + r.g) % 4294967296, (s.h + r.h) % 4294967296⟩
theorem addS_small (s r : S8) : (addS s r).small := ⟨Nat.mod_lt _ (by omega), Nat.mod_lt _ (by omega), Nat.mod_lt _ (by omega), Nat.mod_lt _ (by omega), Nat.mod_lt _ (by omega), Nat.mod_lt _ (by omega), Nat.mod_lt _ (by omega), Nat.mod_lt _ (by omega)⟩

/-- The state behind a block. -/
def mixS (s : S8) (blk : List UInt8) : S8 := addS s (rnds (wl blk 64) s 64)
theorem mixS_small (s : S8) (blk : List UInt8) : (mixS s blk).small := addS_small _ _

/-- The state behind the first n blocks. -/
def runB (s : S8) (bs : List UInt8) : Nat → S8
  | 0 => s
  | n + 1 => mixS (runB s bs n) ((bs.drop (64 * n)).take 64)
theorem runB_small {s : S8} (hs : s.small) (bs : List UInt8) : ∀ n, (runB s bs n).small
  | 0 => hs
  | _ + 1 => mixS_small _ _

theorem runB_append (s : S8) (bs cs : List UInt8) : ∀ n, 64 * n ≤ bs.length → runB s (bs ++ cs) n = runB s bs n
  | 0, _ => rfl
  | n + 1, h => by
    simp only [runB]
    rw [runB_append s bs cs n (by omega)]
    congr 1
    rw [List.drop_append_of_le_length (by omega), List.take_append_of_le_length (by simp; omega)]

theorem runB_add (s : S8) (bs : List UInt8) (n : Nat) : ∀ m, runB s bs (n + m) = runB (runB s bs n) (bs.drop (64 * n)) m
  | 0 => rfl
  | m + 1 => by
    show mixS (runB s bs (n + m)) _ = mixS (runB (runB s bs n) (bs.drop (64 * n)) m) _
    rw [runB_add s bs n m, List.drop_drop, show 64 * n + 64 * m = 64 * (n.add m) from (Nat.mul_add 64 n m).symm]

/-- How many noughts. -/
def zs (n : Nat) : Nat := (119 - n % 64) % 64
/-- Bytes, filled up: 'size' bytes there are in all. -/
def pad (l : List UInt8) (size : Nat) : List UInt8 := l ++ [0x80] ++ List.replicate (zs l.length) 0 ++ w4s [8 * size / 4294967296, 8 * size % 4294967296]
theorem pad_length (l : List UInt8) (size : Nat) : (pad l size).length = l.length + 9 + zs l.length := by
  simp only [pad, List.length_append, List.length_replicate, w4s_length, List.length_cons, List.length_nil]; omega
theorem pad_length64 (l : List UInt8) (size : Nat) : (pad l size).length % 64 = 0 := by rw [pad_length]; unfold zs; omega
theorem zs_lt (n : Nat) : zs n < 64 := Nat.mod_lt _ (by omega)

/-- The digest. -/
def shaL (bs : List UInt8) : List UInt8 := w4s (runB start (pad bs bs.length) ((pad bs bs.length).length / 64)).list
theorem shaL_length (bs : List UInt8) : (shaL bs).length = 32 := by simp [shaL, w4s_length, S8.list]

/-- The state behind the whole blocks of bs, and what is left. -/
def stOf (bs : List UInt8) : S8 := runB start bs (bs.length / 64)
def leftOf (bs : List UInt8) : List UInt8 := bs.drop (64 * (bs.length / 64))
theorem stOf_small (bs : List UInt8) : (stOf bs).small := runB_small start_small _ _
theorem leftOf_length (bs : List UInt8) : (leftOf bs).length = bs.length % 64 := by simp [leftOf]; omega

/-- The digest out of what a digest keeps. -/
theorem sum_of (bs : List UInt8) : w4s (runB (stOf bs) (pad (leftOf bs) bs.length) ((pad (leftOf bs) bs.length).length / 64)).list = shaL bs := by
  have hl := leftOf_length bs
  have hz : zs (leftOf bs).length = zs bs.length := by rw [hl]; unfold zs; omega
  have hsplit : bs = bs.take (64 * (bs.length / 64)) ++ leftOf bs := (List.take_append_drop _ _).symm
  have htl : (bs.take (64 * (bs.length / 64))).length = 64 * (bs.length / 64) := by simp; omega
  have hp : pad bs bs.length = bs.take (64 * (bs.length / 64)) ++ pad (leftOf bs) bs.length := by
    unfold pad
    rw [hz]
    conv => lhs; lhs; lhs; lhs; rw [hsplit]
    simp only [List.append_assoc]
  have hlen : (pad bs bs.length).length / 64 = bs.length / 64 + (pad (leftOf bs) bs.length).length / 64 := by
    rw [hp, List.length_append, htl]; omega
  unfold shaL
  rw [hlen, runB_add, hp, List.drop_left' htl, runB_append _ _ _ _ (by rw [htl]; exact Nat.le_refl _)]
  congr 3
  unfold stOf
  conv => lhs; rw [hsplit]
  rw [runB_append _ _ _ _ (by rw [← hsplit, htl]; exact Nat.le_refl _)]
  congr 1
  rw [← hsplit]

theorem sha_abc : shaL [97, 98, 99] = [0xba, 0x78, 0x16, 0xbf, 0x8f, 0x01, 0xcf, 0xea, 0x41, 0x41, 0x40, 0xde, 0x5d, 0xae, 0x22, 0x23, 0xb0, 0x03, 0x61, 0xa3, 0x96, 0x17, 0x7a, 0x9c, 0xb4, 0x10, 0xff, 0x61, 0xf2, 0x00, 0x15, 0xad] := by decide +kernel

end Go.Proofs.YtahnbljbhfpldaaGreatDoor

namespace Go.Proofs.YtahnbljbhfpldaaGreatDoor

theorem drop_whole (bs cs : List UInt8) : (bs ++ cs).drop (64 * (bs.length / 64)) = leftOf bs ++ cs := by
  unfold leftOf
  rw [List.drop_append_of_le_length (by omega)]

theorem runB_whole (bs cs : List UInt8) : runB start (bs ++ cs) (bs.length / 64) = stOf bs := by
  unfold stOf
  exact runB_append _ _ _ _ (by omega)

/-- Not yet a block. -/
theorem more_few (bs cs : List UInt8) (h : (leftOf bs).length + cs.length < 64) : stOf (bs ++ cs) = stOf bs ∧ leftOf (bs ++ cs) = leftOf bs ++ cs := by
  have hl := leftOf_length bs
  have hq : (bs ++ cs).length / 64 = bs.length / 64 := by rw [List.length_append]; omega
  constructor
  · rw [← runB_whole bs cs]; unfold stOf; rw [hq]
  · rw [← drop_whole bs cs]; unfold leftOf; rw [hq]

/-- At least one. -/
theorem more_many (bs cs p r : List UInt8) (hc : cs = p ++ r) (hp : (leftOf bs ++ p).length = 64) :
    stOf (bs ++ cs) = runB (mixS (stOf bs) (leftOf bs ++ p)) r (r.length / 64) ∧ leftOf (bs ++ cs) = r.drop (64 * (r.length / 64)) := by
  have hl := leftOf_length bs
  have hpl : (leftOf bs).length + p.length = 64 := by rw [← List.length_append]; exact hp
  have hcl : cs.length = p.length + r.length := by rw [hc, List.length_append]
  have hq : (bs ++ cs).length / 64 = bs.length / 64 + (1 + r.length / 64) := by rw [List.length_append]; omega
  have hd : (bs ++ cs).drop (64 * (bs.length / 64)) = (leftOf bs ++ p) ++ r := by rw [drop_whole, hc, List.append_assoc]
  constructor
  · unfold stOf
    rw [hq, runB_add, runB_whole, hd, runB_add]
    have h1 : ((leftOf bs ++ p) ++ r).drop (64 * 1) = r := List.drop_left' hp
    have h2 : runB (stOf bs) ((leftOf bs ++ p) ++ r) 1 = mixS (stOf bs) (leftOf bs ++ p) := by
      show mixS (stOf bs) ((((leftOf bs ++ p) ++ r).drop 0).take 64) = _
      rw [List.drop_zero, List.take_left' hp]
    rw [h1, h2]
    rfl
  · unfold leftOf at *
    rw [hq, Nat.mul_add, ← List.drop_drop]
    have e : (bs ++ cs).drop (64 * (bs.length / 64)) = (bs.drop (64 * (bs.length / 64)) ++ p) ++ r := hd
    rw [e, Nat.mul_add, ← List.drop_drop, List.drop_left' hp]

end Go.Proofs.YtahnbljbhfpldaaGreatDoor

namespace Go.Proofs.YtahnbljbhfpldaaGreatDoor

/-- The key, or its digest if it has more than 64 bytes. -/
def keyL (key : List UInt8) : List UInt8 := if 64 < key.length then shaL key else key
/-- Filled up with noughts to 64. -/
def fillK (key : List UInt8) : List UInt8 := keyL key ++ List.replicate (64 - (keyL key).length) 0
def padK (key : List UInt8) (c : UInt8) : List UInt8 := (fillK key).map (· ^^^ c)
def inK (key : List UInt8) : List UInt8 := padK key 0x36
def outK (key : List UInt8) : List UInt8 := padK key 0x5C
def hmacL (key b : List UInt8) : List UInt8 := shaL (outK key ++ shaL (inK key ++ b))

theorem keyL_le (key : List UInt8) : (keyL key).length ≤ 64 := by
  unfold keyL; split
  · rw [shaL_length]; omega
  · omega
theorem fillK_length (key : List UInt8) : (fillK key).length = 64 := by
  have := keyL_le key
  simp [fillK]; omega
theorem padK_length (key : List UInt8) (c : UInt8) : (padK key c).length = 64 := by simp [padK, fillK_length]
theorem hmacL_length (key b : List UInt8) : (hmacL key b).length = 32 := shaL_length _

theorem padK_at (key : List UInt8) (c : UInt8) (i : Nat) (hi : i < 64) : (padK key c)[i]? = some (((keyL key)[i]?.getD 0) ^^^ c) := by
  unfold padK fillK
  rw [List.getElem?_map]
  by_cases h : i < (keyL key).length
  · rw [List.getElem?_append_left h]; simp [h]
  · rw [List.getElem?_append_right (by omega), List.getElem?_replicate, if_pos (by omega)]
    simp [show (keyL key).length ≤ i by omega]

theorem fillK_more (key : List UInt8) (n : Nat) (h : key.length + n ≤ 64) : fillK (key ++ List.replicate n 0) = fillK key := by
  unfold fillK keyL
  rw [if_neg (by simp; omega), if_neg (by omega)]
  rw [List.append_assoc, List.replicate_append_replicate]
  congr 2
  simp; omega
theorem hmacL_more (key b : List UInt8) (n : Nat) (h : key.length + n ≤ 64) : hmacL (key ++ List.replicate n 0) b = hmacL key b := by
  unfold hmacL outK inK padK; rw [fillK_more key n h]

def jefe : List UInt8 := [74, 101, 102, 101]
def what : List UInt8 := [119, 104, 97, 116, 32, 100, 111, 32, 121, 97, 32, 119, 97, 110, 116, 32, 102, 111, 114, 32, 110, 111, 116, 104, 105, 110, 103, 63]
theorem hmac_jefe : hmacL jefe what = [0x5b, 0xdc, 0xc1, 0x46, 0xbf, 0x60, 0x75, 0x4e, 0x6a, 0x04, 0x24, 0x26, 0x08, 0x95, 0x75, 0xc7, 0x5a, 0x00, 0x3f, 0x08, 0x9d, 0x27, 0x39, 0x83, 0x9d, 0xec, 0x58, 0xb9, 0x64, 0xec, 0x38, 0x43] := by decide +kernel
end Go.Proofs.YtahnbljbhfpldaaGreatDoor

namespace Go.Proofs.YtahnbljbhfpldaaGreatDoor

/-- T(i): nothing ahead of the first. -/
def tK (key info : List UInt8) : Nat → List UInt8
  | 0 => []
  | i + 1 => hmacL key (tK key info i ++ info ++ [UInt8.ofNat (i + 1)])
/-- T1 to Tk, side by side. -/
def catK (key info : List UInt8) : Nat → List UInt8
  | 0 => []
  | i + 1 => catK key info i ++ tK key info (i + 1)
def expandL (key info : List UInt8) (n : Nat) : List UInt8 := (catK key info ((n + 31) / 32)).take n

theorem tK_length (key info : List UInt8) (i : Nat) (h : 0 < i) : (tK key info i).length = 32 := by
  cases i with
  | zero => omega
  | succ i => exact hmacL_length _ _
theorem tK_le (key info : List UInt8) (i : Nat) : (tK key info i).length ≤ 32 := by
  cases i with
  | zero => simp [tK]
  | succ i => rw [tK_length _ _ _ (by omega)]; exact Nat.le_refl _
theorem catK_length (key info : List UInt8) : ∀ i, (catK key info i).length = 32 * i
  | 0 => rfl
  | i + 1 => by rw [catK, List.length_append, catK_length key info i, tK_length _ _ _ (by omega)]; omega
theorem catK_more (key info : List UInt8) (k : Nat) : ∀ j, ∃ r, catK key info (k + j) = catK key info k ++ r
  | 0 => ⟨[], by simp⟩
  | j + 1 => by
    obtain ⟨r, hr⟩ := catK_more key info k j
    exact ⟨r ++ tK key info (k + j + 1), by rw [← Nat.add_assoc, catK, hr, List.append_assoc]⟩
theorem catK_take (key info : List UInt8) (k n : Nat) (h : n ≤ 32 * k) : (catK key info k).take n = expandL key info n := by
  obtain ⟨r, hr⟩ := catK_more key info ((n + 31) / 32) (k - (n + 31) / 32)
  rw [show (n + 31) / 32 + (k - (n + 31) / 32) = k from by omega] at hr
  unfold expandL
  rw [hr, List.take_append_of_le_length (by rw [catK_length]; omega)]
theorem expandL_length (key info : List UInt8) (n : Nat) : (expandL key info n).length = n := by
  unfold expandL; rw [List.length_take, catK_length]; omega
theorem expandL_fewer (key info : List UInt8) (a b : Nat) (h : a ≤ b) : (expandL key info b).take a = expandL key info a := by
  unfold expandL
  rw [List.take_take, Nat.min_eq_left h]
  exact catK_take key info _ a (by omega)

/-- Letters, one to 64. -/
def labelL (s : List UInt8) : Bool := s.all (fun c => decide (97 ≤ c.toNat ∧ c.toNat ≤ 122)) && decide (1 ≤ s.length ∧ s.length ≤ 64)
def longsL : List Nat → List UInt8
  | [] => []
  | n :: l => w4s [n / 4294967296, n % 4294967296] ++ longsL l
theorem longsL_snoc : ∀ (l : List Nat) (n : Nat), longsL (l ++ [n]) = longsL l ++ w4s [n / 4294967296, n % 4294967296]
  | [], n => by simp [longsL]
  | x :: l, n => by simp [longsL, longsL_snoc l n]
theorem longsL_length : ∀ l : List Nat, (longsL l).length = 8 * l.length
  | [] => rfl
  | n :: l => by rw [longsL, List.length_append, longsL_length l, w4s_length]; simp; omega
def infoL (name : List UInt8) (l : List Nat) : List UInt8 := name ++ [0] ++ longsL l
def keyOf (from_ name : List UInt8) (l : List Nat) : List UInt8 := expandL from_ (infoL name l) 16
theorem keyOf_length (f n : List UInt8) (l : List Nat) : (keyOf f n l).length = 16 := expandL_length _ _ _
end Go.Proofs.YtahnbljbhfpldaaGreatDoor

namespace Go.Proofs.YtahnbljbhfpldaaGreatDoor
set_option maxRecDepth 20000

def bitsU (x : UInt8) : List Bool := [x.toNat.testBit 7, x.toNat.testBit 6, x.toNat.testBit 5, x.toNat.testBit 4, x.toNat.testBit 3, x.toNat.testBit 2, x.toNat.testBit 1, x.toNat.testBit 0]
def bitsOf : List UInt8 → List Bool
  | [] => []
  | x :: l => bitsU x ++ bitsOf l
theorem bitsU_length (x : UInt8) : (bitsU x).length = 8 := rfl
theorem bitsOf_length : ∀ l : List UInt8, (bitsOf l).length = 8 * l.length
  | [] => rfl
  | x :: l => by rw [bitsOf, List.length_append, bitsOf_length l]; simp [bitsU]; omega
theorem bitsOf_app : ∀ l m : List UInt8, bitsOf (l ++ m) = bitsOf l ++ bitsOf m
  | [], _ => rfl
  | x :: l, m => by rw [List.cons_append, bitsOf, bitsOf, bitsOf_app l m, List.append_assoc]
theorem bitsU_at (x : UInt8) (j : Nat) (hj : j < 8) : (bitsU x)[j]? = some (x.toNat.testBit (7 - j)) := by
  have hc : j = 0 ∨ j = 1 ∨ j = 2 ∨ j = 3 ∨ j = 4 ∨ j = 5 ∨ j = 6 ∨ j = 7 := by omega
  rcases hc with rfl | rfl | rfl | rfl | rfl | rfl | rfl | rfl <;> rfl
theorem bits_at : ∀ (l : List UInt8) (i : Nat) (x : UInt8), l[i / 8]? = some x → (bitsOf l)[i]? = some (x.toNat.testBit (7 - i % 8))
  | [], i, x, h => by simp at h
  | y :: l, i, x, h => by
    rw [bitsOf]
    by_cases hi : i < 8
    · have h0 : i / 8 = 0 := by omega
      rw [h0] at h
      simp at h
      subst h
      rw [List.getElem?_append_left (by simp [bitsU]; exact hi), bitsU_at y i hi, show i % 8 = i from by omega]
    · have h8 : i / 8 = (i - 8) / 8 + 1 := by omega
      rw [h8, List.getElem?_cons_succ] at h
      have := bits_at l (i - 8) x h
      rw [List.getElem?_append_right (by simp [bitsU]; omega), show (bitsU y).length = 8 from rfl, this, show (i - 8) % 8 = i % 8 from by omega]
theorem u8_ext (x y : UInt8) (h : ∀ j, j < 8 → x.toNat.testBit j = y.toNat.testBit j) : x = y := by
  apply UInt8.toNat_inj.1
  apply Nat.eq_of_testBit_eq
  intro j
  by_cases hj : j < 8
  · exact h j hj
  · have hp : (256 : Nat) ≤ 2 ^ j := Nat.pow_le_pow_right (n := 2) (i := 8) (by omega) (by omega)
    rw [Nat.testBit_lt_two_pow (Nat.lt_of_lt_of_le x.toNat_lt hp), Nat.testBit_lt_two_pow (Nat.lt_of_lt_of_le y.toNat_lt hp)]

/-- The bits of n, w of them, the highest first. -/
def bitsN (n : Nat) : Nat → List Bool
  | 0 => []
  | w + 1 => n.testBit w :: bitsN n w
theorem bitsN_length (n : Nat) : ∀ w, (bitsN n w).length = w
  | 0 => rfl
  | w + 1 => by rw [bitsN, List.length_cons, bitsN_length n w]
theorem bitsN_byte (x : UInt8) : bitsN x.toNat 8 = bitsU x := rfl
/-- The first k of them. -/
theorem bitsN_take (n : Nat) : ∀ (w k : Nat), k < w → (bitsN n w).take (k + 1) = (bitsN n w).take k ++ [n.testBit (w - 1 - k)]
  | 0, k, h => by omega
  | w + 1, 0, _ => by simp [bitsN]
  | w + 1, k + 1, h => by
    rw [bitsN, List.take_succ_cons, List.take_succ_cons, bitsN_take n w k (by omega), List.cons_append]
    congr 4
    omega

/-- The number of bits, the highest first. -/
def num (l : List Bool) : Nat := l.foldl (fun a b => 2 * a + b.toNat) 0
theorem num_snoc (l : List Bool) (b : Bool) : num (l ++ [b]) = 2 * num l + b.toNat := by simp [num]
theorem num_lt : ∀ l : List Bool, num l < 2 ^ l.length := by
  intro l
  generalize hn : l.length = n
  induction n generalizing l with
  | zero => rw [List.eq_nil_of_length_eq_zero hn]; simp [num]
  | succ n ih =>
    obtain ⟨m, b, rfl⟩ : ∃ m b, l = m ++ [b] := ⟨l.dropLast, l.getLast (by rintro rfl; simp at hn), (List.dropLast_concat_getLast _).symm⟩
    have := ih m (by simpa using hn)
    rw [num_snoc, Nat.pow_succ]
    cases b <;> simp <;> omega
theorem num_foldl : ∀ (l : List Bool) (a : Nat), l.foldl (fun a b => 2 * a + b.toNat) a = a * 2 ^ l.length + num l
  | [], a => by simp [num]
  | b :: l, a => by
    show l.foldl _ (2 * a + b.toNat) = _
    have h2 : num (b :: l) = b.toNat * 2 ^ l.length + num l := by
      show l.foldl _ (2 * 0 + b.toNat) = _
      rw [num_foldl l, Nat.mul_zero, Nat.zero_add]
    rw [num_foldl l, h2, List.length_cons, Nat.pow_succ, Nat.add_mul, Nat.mul_comm 2 a, Nat.mul_assoc, Nat.mul_comm 2, ← Nat.add_assoc]
theorem num_cons (b : Bool) (l : List Bool) : num (b :: l) = b.toNat * 2 ^ l.length + num l := by
  show l.foldl _ (2 * 0 + b.toNat) = _
  rw [num_foldl l, Nat.mul_zero, Nat.zero_add]
theorem num_bitsN (n : Nat) : ∀ w, num (bitsN n w) = n % 2 ^ w
  | 0 => by simp [bitsN, num, Nat.mod_one]
  | w + 1 => by
    rw [bitsN, num_cons, bitsN_length, num_bitsN n w, Nat.pow_succ]
    have h1 : (n.testBit w).toNat = n / 2 ^ w % 2 := by
      rw [Nat.testBit_eq_decide_div_mod_eq]
      have : n / 2 ^ w % 2 < 2 := Nat.mod_lt _ (by omega)
      by_cases h : n / 2 ^ w % 2 = 1
      · simp [h]
      · rw [show n / 2 ^ w % 2 = 0 by omega]; rfl
    rw [h1, Nat.mod_mul, Nat.mul_comm, Nat.add_comm]

/-- A byte of eight bits. -/
def byteOf (f : Nat → Bool) : UInt8 := UInt8.ofNat (num [f 0, f 1, f 2, f 3, f 4, f 5, f 6, f 7])
theorem byteOf_toNat (f : Nat → Bool) : (byteOf f).toNat = num [f 0, f 1, f 2, f 3, f 4, f 5, f 6, f 7] := by
  have := num_lt [f 0, f 1, f 2, f 3, f 4, f 5, f 6, f 7]
  unfold byteOf
  rw [UInt8.toNat_ofNat']
  exact Nat.mod_eq_of_lt this
theorem byteOf_bits (f : Nat → Bool) : bitsU (byteOf f) = [f 0, f 1, f 2, f 3, f 4, f 5, f 6, f 7] := by
  unfold bitsU
  rw [byteOf_toNat]
  cases f 0 <;> cases f 1 <;> cases f 2 <;> cases f 3 <;> cases f 4 <;> cases f 5 <;> cases f 6 <;> cases f 7 <;> rfl
theorem byteOf_test (f : Nat → Bool) (k : Nat) (hk : k < 8) : (byteOf f).toNat.testBit (7 - k) = f k := by
  have h := bitsU_at (byteOf f) k hk
  rw [byteOf_bits] at h
  have hc : k = 0 ∨ k = 1 ∨ k = 2 ∨ k = 3 ∨ k = 4 ∨ k = 5 ∨ k = 6 ∨ k = 7 := by omega
  rcases hc with rfl | rfl | rfl | rfl | rfl | rfl | rfl | rfl <;> exact (Option.some.inj h).symm
theorem byteOf_same (f g : Nat → Bool) (h : ∀ k, k < 8 → f k = g k) : byteOf f = byteOf g := by
  unfold byteOf
  rw [h 0 (by omega), h 1 (by omega), h 2 (by omega), h 3 (by omega), h 4 (by omega), h 5 (by omega), h 6 (by omega), h 7 (by omega)]

/-- Bits as bytes, m of them: bits beyond the end are 0. -/
def packN (bs : List Bool) (m : Nat) : List UInt8 := (List.range m).map fun j => byteOf fun k => bs.getD (8 * j + k) false
def packL (bs : List Bool) : List UInt8 := packN bs ((bs.length + 7) / 8)
theorem packN_length (bs : List Bool) (m : Nat) : (packN bs m).length = m := by simp [packN]
theorem packL_length (bs : List Bool) : (packL bs).length = (bs.length + 7) / 8 := packN_length _ _
theorem packN_at (bs : List Bool) (m j : Nat) (hj : j < m) : (packN bs m)[j]? = some (byteOf fun k => bs.getD (8 * j + k) false) := by simp [packN, hj]
theorem packN_bits (bs : List Bool) (m : Nat) (h : bs.length ≤ 8 * m) : bitsOf (packN bs m) = bs ++ List.replicate (8 * m - bs.length) false := by
  apply List.ext_getElem?
  intro i
  by_cases hi : i < 8 * m
  · rw [bits_at _ i _ (packN_at bs m (i / 8) (by omega)), byteOf_test _ (i % 8) (by omega), show 8 * (i / 8) + i % 8 = i by omega]
    by_cases hl : i < bs.length
    · rw [List.getElem?_append_left hl]; simp [hl]
    · rw [List.getElem?_append_right (by omega), List.getElem?_replicate, if_pos (by omega)]
      simp [show bs.length ≤ i by omega]
  · rw [List.getElem?_eq_none (by rw [bitsOf_length, packN_length]; omega), List.getElem?_eq_none (by simp; omega)]
theorem packL_bits (bs : List Bool) : bitsOf (packL bs) = bs ++ List.replicate (8 * ((bs.length + 7) / 8) - bs.length) false := packN_bits bs _ (by omega)
theorem bitsOf_inj : ∀ l m : List UInt8, bitsOf l = bitsOf m → l = m
  | [], [], _ => rfl
  | [], _ :: _, h => by have := congrArg List.length h; simp [bitsOf_length] at this
  | _ :: _, [], h => by have := congrArg List.length h; simp [bitsOf_length] at this
  | x :: l, y :: m, h => by
    have h1 : bitsU x = bitsU y ∧ bitsOf l = bitsOf m := by
      rw [bitsOf, bitsOf] at h
      exact List.append_inj h rfl
    rw [bitsOf_inj l m h1.2]
    congr 1
    apply u8_ext
    intro j hj
    have h2 := congrArg (fun l => l[7 - j]?) h1.1
    simp only [bitsU_at _ _ (show 7 - j < 8 by omega), show 7 - (7 - j) = j from by omega] at h2
    exact Option.some.inj h2
theorem packL_bytes (l : List UInt8) : packL (bitsOf l) = l := by
  apply bitsOf_inj
  rw [packL_bits, bitsOf_length, show 8 * ((8 * l.length + 7) / 8) - 8 * l.length = 0 by omega, List.replicate_zero, List.append_nil]
/-- One bit more, in a row of bytes whose others are noughts. -/
theorem packN_or (bs : List Bool) (m i : Nat) (hi : i < bs.length) (hm : i / 8 < m) (x : UInt8) (hx : (packN (bs.take i) m)[i / 8]? = some x) :
    (packN (bs.take i) m).set (i / 8) (if bs[i] = true then x ||| UInt8.ofNat (2 ^ (7 - i % 8)) else x) = packN (bs.take (i + 1)) m := by
  have hxx : x = byteOf fun k => (bs.take i).getD (8 * (i / 8) + k) false := by
    rw [packN_at _ _ _ hm] at hx; exact (Option.some.inj hx).symm
  apply List.ext_getElem?
  intro j
  rw [List.getElem?_set]
  by_cases hj : i / 8 = j
  · subst hj
    rw [if_pos rfl, if_pos (by rw [packN_length]; exact hm), packN_at _ _ _ hm]
    congr 1
    apply u8_ext
    intro t ht
    obtain ⟨k, hk, rfl⟩ : ∃ k, k < 8 ∧ t = 7 - k := ⟨7 - t, by omega, by omega⟩
    rw [byteOf_test _ k hk]
    have hold : x.toNat.testBit (7 - k) = (bs.take i).getD (8 * (i / 8) + k) false := by rw [hxx, byteOf_test _ k hk]
    have hpow : (UInt8.ofNat (2 ^ (7 - i % 8))).toNat = 2 ^ (7 - i % 8) := by
      rw [UInt8.toNat_ofNat']
      have hp : 2 ^ (7 - i % 8) < 2 ^ 8 := Nat.pow_lt_pow_right (by omega) (by omega)
      exact Nat.mod_eq_of_lt hp
    have htk : ∀ q p : Nat, (bs.take p).getD q false = (decide (q < p) && bs.getD q false) := fun q p => by
      rw [List.getD_eq_getElem?_getD, List.getElem?_take, List.getD_eq_getElem?_getD]
      by_cases h : q < p <;> simp [h]
    rw [htk] at hold ⊢
    by_cases hki : 8 * (i / 8) + k = i
    · have hkm : k = i % 8 := by omega
      rw [hki] at hold ⊢
      have hb : bs.getD i false = bs[i] := by simp [hi]
      rw [hb]
      simp only [Nat.lt_irrefl, decide_false, Bool.false_and] at hold
      by_cases hbi : bs[i] = true
      · rw [if_pos hbi, UInt8.toNat_or, Nat.testBit_or, hpow, hkm, Nat.testBit_two_pow_self, hbi]; simp
      · rw [if_neg hbi, hold]
        have : bs[i] = false := by simpa using hbi
        rw [this]; simp
    · have hle : decide (8 * (i / 8) + k < i + 1) = decide (8 * (i / 8) + k < i) := by
        by_cases h : 8 * (i / 8) + k < i
        · simp [h]; omega
        · have : ¬ 8 * (i / 8) + k < i + 1 := by omega
          simp [h, this]
      rw [hle, ← hold]
      by_cases hbi : bs[i] = true
      · rw [if_pos hbi, UInt8.toNat_or, Nat.testBit_or, hpow, Nat.testBit_two_pow_of_ne (by omega)]; simp
      · rw [if_neg hbi]
  · rw [if_neg hj]
    by_cases hjm : j < m
    · rw [packN_at _ _ _ hjm, packN_at _ _ _ hjm]
      congr 1
      apply byteOf_same
      intro k hk
      rw [List.getD_eq_getElem?_getD, List.getElem?_take, List.getD_eq_getElem?_getD, List.getElem?_take]
      by_cases h : 8 * j + k < i
      · simp [h, show 8 * j + k < i + 1 by omega]
      · simp [h, show ¬ 8 * j + k < i + 1 by omega]
    · rw [List.getElem?_eq_none (by rw [packN_length]; omega), List.getElem?_eq_none (by rw [packN_length]; omega)]
end Go.Proofs.YtahnbljbhfpldaaGreatDoor

namespace Go.Proofs.YtahnbljbhfpldaaGreatDoor

/-- One nought fed in. -/
def zS (W P s : Nat) : Nat := (s * 2 % 2 ^ W) ^^^ (if s.testBit (W - 1) then P else 0)
/-- One bit fed in, the highest first. -/
def stepS (W P s : Nat) (b : Bool) : Nat := (s * 2 % 2 ^ W) ^^^ (if (s.testBit (W - 1) != b) then P else 0)
def runS (W P s : Nat) : List Bool → Nat
  | [] => s
  | b :: l => runS W P (stepS W P s b) l

theorem runS_app (W P : Nat) : ∀ (l m : List Bool) (s : Nat), runS W P s (l ++ m) = runS W P (runS W P s l) m
  | [], _, _ => rfl
  | b :: l, m, s => by rw [List.cons_append, runS, runS, runS_app W P l m]

theorem dbl_xor (W s t : Nat) : (s ^^^ t) * 2 % 2 ^ W = (s * 2 % 2 ^ W) ^^^ (t * 2 % 2 ^ W) := by
  rw [← Nat.xor_mod_two_pow]
  congr 1
  have h : ∀ x : Nat, x * 2 = x <<< 1 := fun x => by rw [Nat.shiftLeft_eq]
  rw [h, h, h, Nat.shiftLeft_xor_distrib]

theorem if_xor (P : Nat) (a b : Bool) : (if (a != b) then P else 0) = (if a then P else 0) ^^^ (if b then P else 0) := by
  cases a <;> cases b <;> simp

/-- Feeding is linear. -/
theorem stepS_xor (W P s t : Nat) (a b : Bool) : stepS W P (s ^^^ t) (a != b) = stepS W P s a ^^^ stepS W P t b := by
  unfold stepS
  rw [dbl_xor, Nat.testBit_xor]
  have h : ((s.testBit (W - 1) != t.testBit (W - 1)) != (a != b)) = ((s.testBit (W - 1) != a) != (t.testBit (W - 1) != b)) := by
    cases s.testBit (W - 1) <;> cases t.testBit (W - 1) <;> cases a <;> cases b <;> rfl
  rw [h, if_xor]
  ac_rfl

def xorB (l m : List Bool) : List Bool := List.zipWith (· != ·) l m
theorem runS_xor (W P : Nat) : ∀ (l m : List Bool) (s t : Nat), l.length = m.length → runS W P (s ^^^ t) (xorB l m) = runS W P s l ^^^ runS W P t m
  | [], [], _, _, _ => rfl
  | a :: l, b :: m, s, t, h => by
    show runS W P (stepS W P (s ^^^ t) (a != b)) (xorB l m) = _
    rw [stepS_xor, runS_xor W P l m _ _ (by simpa using h)]
    rfl
  | [], _ :: _, _, _, h => by simp at h
  | _ :: _, [], _, _, h => by simp at h

theorem zS_eq (W P s : Nat) : stepS W P s false = zS W P s := by unfold stepS zS; simp

theorem stepS_lt (W P s : Nat) (hP : P < 2 ^ W) (b : Bool) : stepS W P s b < 2 ^ W := by
  unfold stepS
  refine Nat.xor_lt_two_pow (Nat.mod_lt _ (Nat.two_pow_pos W)) ?_
  split
  · exact hP
  · exact Nat.two_pow_pos W
theorem runS_lt (W P : Nat) (hP : P < 2 ^ W) : ∀ (l : List Bool) (s : Nat), s < 2 ^ W → runS W P s l < 2 ^ W
  | [], _, h => h
  | b :: l, s, _ => runS_lt W P hP l _ (stepS_lt W P s hP b)

/-- A bit fed in is a nought fed in where the highest bit is turned by it. -/
theorem stepS_top (W P s : Nat) (hW : 0 < W) (b : Bool) : stepS W P s b = zS W P (s ^^^ (if b then 2 ^ (W - 1) else 0)) := by
  cases b
  · simp [zS_eq]
  · unfold stepS zS
    rw [if_pos rfl, dbl_xor, Nat.testBit_xor, Nat.testBit_two_pow_self]
    have h2 : 2 ^ (W - 1) * 2 % 2 ^ W = 0 := by
      rw [← Nat.pow_succ, show (W - 1).succ = W from by omega]; exact Nat.mod_self _
    rw [h2, Nat.xor_zero]

theorem top_bit (W s : Nat) (hW : 0 < W) (h : 2 ^ (W - 1) ≤ s) (hs : s < 2 ^ W) : s.testBit (W - 1) = true := by
  have hW2 : 2 ^ W = 2 * 2 ^ (W - 1) := by rw [← Nat.pow_succ', show (W - 1).succ = W from by omega]
  have hpos := Nat.two_pow_pos (W - 1)
  rw [Nat.testBit_eq_decide_div_mod_eq]
  have : s / 2 ^ (W - 1) = 1 := by
    rw [Nat.div_eq_of_lt_le (k := 1)] <;> omega
  simp [this]

/-- Noughts lose nothing where the polynomial is odd. -/
theorem zS_zero (W P s : Nat) (hW : 0 < W) (hs : s < 2 ^ W) (hP : P.testBit 0 = true) (h : zS W P s = 0) : s = 0 := by
  unfold zS at h
  have h1 := congrArg (fun x => x.testBit 0) h
  simp only [Nat.testBit_xor, Nat.zero_testBit] at h1
  have h2 : (s * 2 % 2 ^ W).testBit 0 = false := by
    rw [Nat.testBit_mod_two_pow]
    simp [Nat.testBit_zero]
  rw [h2] at h1
  by_cases ht : s.testBit (W - 1) = true
  · rw [if_pos ht, hP] at h1; simp at h1
  · rw [if_neg ht, Nat.xor_zero] at h
    have hlt : s < 2 ^ (W - 1) := by
      rcases Nat.lt_or_ge s (2 ^ (W - 1)) with g | g
      · exact g
      · exact absurd (top_bit W s hW g hs) ht
    have hW2 : 2 ^ W = 2 * 2 ^ (W - 1) := by rw [← Nat.pow_succ', show (W - 1).succ = W from by omega]
    rw [Nat.mod_eq_of_lt (by omega)] at h
    omega

theorem zS_lt (W P s : Nat) (hP : P < 2 ^ W) : zS W P s < 2 ^ W := by rw [← zS_eq]; exact stepS_lt W P s hP false
theorem zS_xor (W P s t : Nat) : zS W P (s ^^^ t) = zS W P s ^^^ zS W P t := by
  have := stepS_xor W P s t false false
  rw [← zS_eq, ← zS_eq, ← zS_eq]
  simpa using this
theorem zS_small (W P s : Nat) (hW : 0 < W) (hs : s < 2 ^ (W - 1)) : zS W P s = s * 2 := by
  have hW2 : 2 ^ W = 2 * 2 ^ (W - 1) := by rw [← Nat.pow_succ', show (W - 1).succ = W from by omega]
  unfold zS
  rw [Nat.testBit_lt_two_pow hs, Nat.mod_eq_of_lt (by omega)]
  simp

/-- k noughts. -/
def noughts (W P : Nat) : Nat → Nat → Nat
  | 0, s => s
  | k + 1, s => noughts W P k (zS W P s)
theorem runS_noughts (W P : Nat) : ∀ (k s : Nat), runS W P s (List.replicate k false) = noughts W P k s
  | 0, _ => rfl
  | k + 1, s => by rw [List.replicate_succ, runS, zS_eq, noughts, runS_noughts W P k]
theorem noughts_zero (W P : Nat) (hW : 0 < W) (hP : P < 2 ^ W) (hO : P.testBit 0 = true) : ∀ (k s : Nat), s < 2 ^ W → noughts W P k s = 0 → s = 0
  | 0, _, _, h => h
  | k + 1, s, hs, h => zS_zero W P s hW hs hO (noughts_zero W P hW hP hO k _ (zS_lt W P s hP) h)
theorem noughts_none (W P : Nat) (hW : 0 < W) : ∀ k, noughts W P k 0 = 0
  | 0 => rfl
  | k + 1 => by rw [noughts, zS_small W P 0 hW (Nat.two_pow_pos _)]; exact noughts_none W P hW k

/-- Bits as a number, the highest first. -/
def valB : List Bool → Nat
  | [] => 0
  | b :: l => (if b then 2 ^ l.length else 0) + valB l
theorem valB_lt : ∀ l : List Bool, valB l < 2 ^ l.length
  | [] => by simp [valB]
  | b :: l => by
    have := valB_lt l
    rw [valB, List.length_cons, Nat.pow_succ]
    cases b <;> simp <;> omega
theorem valB_zero : ∀ l : List Bool, valB l = 0 → l = List.replicate l.length false
  | [], _ => rfl
  | b :: l, h => by
    rw [valB] at h
    have hp := Nat.two_pow_pos l.length
    cases b
    · simp at h
      rw [List.length_cons, List.replicate_succ, ← valB_zero l h]
    · simp at h

theorem xor_add_top (m x : Nat) (h : x < 2 ^ m) : 2 ^ m + x = 2 ^ m ^^^ x := by
  have h0 := Nat.two_pow_add_eq_or_of_lt h 1
  rw [Nat.mul_one] at h0
  rw [h0]
  apply Nat.eq_of_testBit_eq
  intro i
  rw [Nat.testBit_or, Nat.testBit_xor, Nat.testBit_two_pow]
  by_cases hi : m = i
  · subst hi; rw [Nat.testBit_lt_two_pow h]; simp
  · simp [hi]

/-- Up to W bits fed in are noughts fed in behind a change of what stands. -/
theorem feed (W P : Nat) (hW : 0 < W) : ∀ (l : List Bool) (s : Nat), l.length ≤ W → runS W P s l = noughts W P l.length (s ^^^ (valB l * 2 ^ (W - l.length)))
  | [], s, _ => by simp [runS, noughts, valB]
  | b :: l, s, h => by
    have hl : l.length + 1 ≤ W := by simpa using h
    have hv := valB_lt l
    rw [runS, feed W P hW l _ (by omega), List.length_cons, noughts, stepS_top W P s hW b]
    congr 1
    have h1 : valB l * 2 ^ (W - l.length) = zS W P (valB l * 2 ^ (W - (l.length + 1))) := by
      have h2 : valB l * 2 ^ (W - (l.length + 1)) < 2 ^ (W - 1) := by
        have : 2 ^ (W - 1) = 2 ^ l.length * 2 ^ (W - (l.length + 1)) := by rw [← Nat.pow_add]; congr 1; omega
        rw [this]
        exact Nat.mul_lt_mul_of_pos_right hv (Nat.two_pow_pos _)
      rw [zS_small W P _ hW h2, Nat.mul_assoc, ← Nat.pow_succ]
      congr 2; omega
    rw [h1, ← zS_xor]
    congr 1
    rw [Nat.xor_assoc]
    congr 1
    rw [valB, Nat.add_mul]
    have h3 : valB l * 2 ^ (W - (l.length + 1)) < 2 ^ (W - 1) := by
      have : 2 ^ (W - 1) = 2 ^ l.length * 2 ^ (W - (l.length + 1)) := by rw [← Nat.pow_add]; congr 1; omega
      rw [this]
      exact Nat.mul_lt_mul_of_pos_right hv (Nat.two_pow_pos _)
    cases b
    · simp
    · have h4 : 2 ^ l.length * 2 ^ (W - (l.length + 1)) = 2 ^ (W - 1) := by rw [← Nat.pow_add]; congr 1; omega
      simp only [if_true, h4]
      exact (xor_add_top _ _ h3).symm

/-- Bits within W side by side that leave nothing behind are none. -/
theorem burst_none (W P : Nat) (hW : 0 < W) (hP : P < 2 ^ W) (hO : P.testBit 0 = true) (i j : Nat) (d : List Bool) (hd : d.length ≤ W)
    (h : runS W P 0 (List.replicate i false ++ d ++ List.replicate j false) = 0) : d = List.replicate d.length false := by
  rw [runS_app, runS_app, runS_noughts W P i, noughts_none W P hW, runS_noughts] at h
  have h1 := noughts_zero W P hW hP hO j _ (runS_lt W P hP d 0 (Nat.two_pow_pos W)) h
  rw [feed W P hW d 0 hd, Nat.zero_xor] at h1
  have hlt : valB d * 2 ^ (W - d.length) < 2 ^ W := by
    have : 2 ^ W = 2 ^ d.length * 2 ^ (W - d.length) := by rw [← Nat.pow_add]; congr 1; omega
    rw [this]
    exact Nat.mul_lt_mul_of_pos_right (valB_lt d) (Nat.two_pow_pos _)
  have h2 := noughts_zero W P hW hP hO _ _ hlt h1
  have h3 : valB d = 0 := by
    rcases Nat.mul_eq_zero.1 h2 with g | g
    · exact g
    · exact absurd g (Nat.ne_of_gt (Nat.two_pow_pos _))
  exact valB_zero d h3

/-- The sum behind bytes is right just if all of it leaves nothing. -/
theorem good_iff (W P s : Nat) (hW : 0 < W) (hP : P < 2 ^ W) (hO : P.testBit 0 = true) (hs : s < 2 ^ W) (l c : List Bool) (hc : c.length = W) : runS W P s (l ++ c) = 0 ↔ valB c = runS W P s l := by
  rw [runS_app, feed W P hW c _ (by omega), hc, Nat.sub_self, Nat.pow_zero, Nat.mul_one]
  have hlt := runS_lt W P hP l s hs
  have hv := valB_lt c
  rw [hc] at hv
  constructor
  · intro h
    have h1 := noughts_zero W P hW hP hO W _ (Nat.xor_lt_two_pow hlt hv) h
    have h2 := congrArg (fun x => runS W P s l ^^^ x) h1
    simp only [← Nat.xor_assoc, Nat.xor_self, Nat.zero_xor, Nat.xor_zero] at h2
    exact h2
  · intro h
    rw [h, Nat.xor_self]
    exact noughts_none W P hW W
end Go.Proofs.YtahnbljbhfpldaaGreatDoor

namespace Go.Proofs.YtahnbljbhfpldaaGreatDoor

theorem bitsU_xor (x y : UInt8) : bitsU (x ^^^ y) = xorB (bitsU x) (bitsU y) := by
  simp only [bitsU, UInt8.toNat_xor, Nat.testBit_xor]
  rfl
theorem bitsOf_xor : ∀ l m : List UInt8, l.length = m.length → bitsOf (xorL l m) = xorB (bitsOf l) (bitsOf m)
  | [], [], _ => rfl
  | x :: l, y :: m, h => by
    show bitsU (x ^^^ y) ++ bitsOf (xorL l m) = _
    rw [bitsU_xor, bitsOf_xor l m (by simpa using h), bitsOf, bitsOf]
    unfold xorB
    rw [List.zipWith_append (by rfl)]
  | [], _ :: _, h => by simp at h
  | _ :: _, [], h => by simp at h

def crcL (W P s : Nat) (l : List UInt8) : Nat := runS W P s (bitsOf l)
theorem crcL_lt (W P s : Nat) (hP : P < 2 ^ W) (hs : s < 2 ^ W) (l : List UInt8) : crcL W P s l < 2 ^ W := runS_lt W P hP _ s hs
/-- Sums of one beginning are linear. -/
theorem crcL_xor (W P : Nat) (l m : List UInt8) (h : l.length = m.length) : crcL W P 0 (xorL l m) = crcL W P 0 l ^^^ crcL W P 0 m := by
  unfold crcL
  rw [bitsOf_xor l m h]
  have := runS_xor W P (bitsOf l) (bitsOf m) 0 0 (by rw [bitsOf_length, bitsOf_length, h])
  simpa using this

def wholeP : Nat := 0x5D6DCB
def wholeS : Nat := 0xFEDCBA
def wholeL (l : List UInt8) : Nat := crcL 24 wholeP wholeS l
def headL (l : List UInt8) : Nat := crcL 11 0x385 0x1A l
def sum3 (s : Nat) : List UInt8 := [UInt8.ofNat (s / 65536), UInt8.ofNat (s / 256), UInt8.ofNat s]
def fixL (l : List UInt8) : List UInt8 := l ++ sum3 (wholeL l)
def goodL (l : List UInt8) : Bool := decide (3 ≤ l.length ∧ fixL (l.take (l.length - 3)) = l)

theorem wholeL_lt (l : List UInt8) : wholeL l < 16777216 := crcL_lt 24 wholeP wholeS (by decide) (by decide) l
theorem valB_bitsU (x : UInt8) : valB (bitsU x) = x.toNat := by
  have := (by decide +kernel : ∀ n, n < 256 → valB (bitsU (UInt8.ofNat n)) = n) x.toNat x.toNat_lt
  simpa using this
theorem valB_app : ∀ l m : List Bool, valB (l ++ m) = valB l * 2 ^ m.length + valB m
  | [], m => by simp [valB]
  | b :: l, m => by
    rw [List.cons_append, valB, valB, valB_app l m, List.length_append, Nat.pow_add, Nat.add_mul]
    cases b <;> simp <;> omega
theorem valB_sum3 (x y z : UInt8) : valB (bitsOf [x, y, z]) = x.toNat * 65536 + y.toNat * 256 + z.toNat := by
  simp only [bitsOf, valB_app, valB_bitsU, List.append_nil]
  simp [bitsU]
  omega
theorem sum3_val (s : Nat) (h : s < 16777216) : valB (bitsOf (sum3 s)) = s := by
  rw [sum3, valB_sum3]
  simp only [UInt8.toNat_ofNat']
  omega
theorem sum3_of (x y z : UInt8) (s : Nat) (hs : s < 16777216) (h : valB (bitsOf [x, y, z]) = s) : [x, y, z] = sum3 s := by
  rw [valB_sum3] at h
  have hx := x.toNat_lt
  have hy := y.toNat_lt
  have hz := z.toNat_lt
  have e1 : x = UInt8.ofNat (s / 65536) := by apply UInt8.toNat_inj.1; rw [UInt8.toNat_ofNat']; omega
  have e2 : y = UInt8.ofNat (s / 256) := by apply UInt8.toNat_inj.1; rw [UInt8.toNat_ofNat']; omega
  have e3 : z = UInt8.ofNat s := by apply UInt8.toNat_inj.1; rw [UInt8.toNat_ofNat']; omega
  rw [sum3, ← e1, ← e2, ← e3]

/-- Good bytes leave nothing behind. -/
theorem goodL_iff (l : List UInt8) (h : 3 ≤ l.length) : goodL l = true ↔ runS 24 wholeP wholeS (bitsOf l) = 0 := by
  obtain ⟨x, y, z, hd⟩ : ∃ x y z, l.drop (l.length - 3) = [x, y, z] := by
    have hlen : (l.drop (l.length - 3)).length = 3 := by rw [List.length_drop]; omega
    match hm : l.drop (l.length - 3), hlen with
    | [x, y, z], _ => exact ⟨x, y, z, rfl⟩
  have hl : l = l.take (l.length - 3) ++ [x, y, z] := by rw [← hd, List.take_append_drop]
  obtain ⟨t, ht⟩ : ∃ t, t = l.take (l.length - 3) := ⟨_, rfl⟩
  rw [← ht] at hl
  have hg : goodL l = true ↔ sum3 (wholeL t) = [x, y, z] := by
    unfold goodL
    rw [← ht]
    simp only [decide_eq_true_eq]
    constructor
    · intro g
      have := g.2
      rw [hl] at this
      unfold fixL at this
      exact List.append_cancel_left this
    · intro g
      refine ⟨h, ?_⟩
      unfold fixL
      rw [g, ← hl]
  have h1 := good_iff 24 wholeP wholeS (by omega) (by decide) (by decide) (by decide) (bitsOf t) (bitsOf [x, y, z]) (by rw [bitsOf_length]; rfl)
  rw [← bitsOf_app, ← hl] at h1
  rw [hg, h1]
  constructor
  · intro g
    rw [← g]; exact sum3_val _ (wholeL_lt t)
  · intro g
    exact (sum3_of x y z _ (wholeL_lt t) g).symm

theorem fix_good (l : List UInt8) : goodL (fixL l) = true := by
  unfold goodL
  have h : (fixL l).length = l.length + 3 := by simp [fixL, sum3]
  rw [h]
  simp only [decide_eq_true_eq]
  refine ⟨by omega, ?_⟩
  rw [show l.length + 3 - 3 = l.length from by omega]
  unfold fixL
  rw [List.take_left]

/-- The bits of a burst: those of bits from the bit k on. -/
def burstB (n k bits : Nat) : List Bool := (List.range (8 * n)).map fun i => decide (k ≤ i ∧ i < k + 32) && bits.testBit (31 - (i - k))
theorem burstB_length (n k bits : Nat) : (burstB n k bits).length = 8 * n := by simp [burstB]
theorem burstB_at (n k bits i : Nat) (h : i < 8 * n) : (burstB n k bits)[i]? = some (decide (k ≤ i ∧ i < k + 32) && bits.testBit (31 - (i - k))) := by
  simp [burstB, h]

/-- Bits that are none but within 24 side by side, cut in three. -/
theorem window (l : List Bool) (k : Nat) (h : ∀ i b, l[i]? = some b → b = true → k ≤ i ∧ i < k + 24) :
    ∃ i j d, d.length ≤ 24 ∧ l = List.replicate i false ++ d ++ List.replicate j false ∧ (d = List.replicate d.length false → l = List.replicate l.length false) := by
  have hlow : l.take k = List.replicate (l.take k).length false := by
    apply List.eq_replicate_of_mem
    intro b hb
    obtain ⟨i, hi⟩ := List.getElem?_of_mem hb
    rw [List.getElem?_take] at hi
    split at hi
    · cases b
      · rfl
      · have := h i true hi rfl; omega
    · simp at hi
  have hhigh : l.drop (k + 24) = List.replicate (l.drop (k + 24)).length false := by
    apply List.eq_replicate_of_mem
    intro b hb
    obtain ⟨i, hi⟩ := List.getElem?_of_mem hb
    rw [List.getElem?_drop] at hi
    cases b
    · rfl
    · have := h _ true hi rfl; omega
  refine ⟨(l.take k).length, (l.drop (k + 24)).length, (l.drop k).take 24, by rw [List.length_take]; omega, ?_, ?_⟩
  · rw [← hlow, ← hhigh, List.append_assoc, show l.drop (k + 24) = (l.drop k).drop 24 from by rw [List.drop_drop], List.take_append_drop, List.take_append_drop]
  · intro hd
    have hl : l = List.replicate (l.take k).length false ++ (l.drop k).take 24 ++ List.replicate (l.drop (k + 24)).length false := by
      rw [← hlow, ← hhigh, List.append_assoc, show l.drop (k + 24) = (l.drop k).drop 24 from by rw [List.drop_drop], List.take_append_drop, List.take_append_drop]
    apply List.eq_replicate_of_mem
    intro b hb
    rw [hl, hd] at hb
    simp only [List.mem_append, List.mem_replicate] at hb
    rcases hb with (hb | hb) | hb <;> exact hb.2

/-- Bits turned in good bytes, within 24 side by side, leave them good just if none is turned. -/
theorem burst_found (x e : List UInt8) (k : Nat) (h3 : 3 ≤ x.length) (hx : goodL x = true) (hl : e.length = x.length) (he : ∀ i b, (bitsOf e)[i]? = some b → b = true → k ≤ i ∧ i < k + 24) :
    goodL (xorL x e) = decide (e = List.replicate e.length 0) := by
  have hxl : (xorL x e).length = x.length := xorL_length x e hl.symm
  have h1 := (goodL_iff x h3).1 hx
  have h2 := goodL_iff (xorL x e) (by omega)
  have h4 := runS_xor 24 wholeP (bitsOf x) (bitsOf e) wholeS 0 (by rw [bitsOf_length, bitsOf_length, hl])
  rw [Nat.xor_zero, ← bitsOf_xor x e hl.symm, h1, Nat.zero_xor] at h4
  rw [h4] at h2
  by_cases hz : e = List.replicate e.length 0
  · rw [decide_eq_true hz]
    apply h2.2
    have hb : bitsOf e = List.replicate (bitsOf e).length false := by
      apply List.eq_replicate_of_mem
      intro b hb
      obtain ⟨i, hi⟩ := List.getElem?_of_mem hb
      have hil := (List.getElem?_eq_some_iff.1 hi).1
      rw [bitsOf_length] at hil
      have hz8 : e[i / 8]? = some 0 := by rw [hz, List.getElem?_replicate, if_pos (by omega)]
      rw [bits_at e i 0 hz8] at hi
      simp at hi
      exact hi
    rw [hb, runS_noughts]
    exact noughts_none 24 wholeP (by omega) _
  · rw [decide_eq_false hz]
    apply Bool.eq_false_iff.2
    intro hg
    apply hz
    have h5 := h2.1 hg
    obtain ⟨i, j, d, hd, hcut, hall⟩ := window (bitsOf e) k he
    rw [hcut] at h5
    have h6 := hall (burst_none 24 wholeP (by omega) (by decide) (by decide) i j d hd h5)
    apply bitsOf_inj
    rw [h6, bitsOf_length]
    symm
    apply List.eq_replicate_iff.2
    refine ⟨by rw [bitsOf_length, List.length_replicate], fun b hb => ?_⟩
    obtain ⟨q, hq⟩ := List.getElem?_of_mem hb
    have hql := (List.getElem?_eq_some_iff.1 hq).1
    rw [bitsOf_length, List.length_replicate] at hql
    rw [bits_at _ q 0 (by rw [List.getElem?_replicate, if_pos (by omega)])] at hq
    simp at hq
    exact hq
end Go.Proofs.YtahnbljbhfpldaaGreatDoor
