/-
  SHA-256 in plain numbers: the words of a block, the rounds, the filling up, the digest; what follows from the definitions. No program here.
-/
import Derived.Test.YtkpaldkmikjpiaaDoorMath
namespace Go.Proofs.YtkpaldkmikjpiaaDoor

def rot3 (x i j k : Nat) : Nat := rotr x i ^^^ rotr x j ^^^ rotr x k
def sg0 (x : Nat) : Nat := rotr x 7 ^^^ rotr x 18 ^^^ (x >>> 3)
def sg1 (x : Nat) : Nat := rotr x 17 ^^^ rotr x 19 ^^^ (x >>> 10)

theorem xor_lt32 {x y : Nat} (hx : x < 4294967296) (hy : y < 4294967296) : x ^^^ y < 4294967296 := Nat.xor_lt_two_pow (n := 32) hx hy
theorem and_lt32 {x y : Nat} (hx : x < 4294967296) : x &&& y < 4294967296 := Nat.lt_of_le_of_lt Nat.and_le_left hx
theorem shr_lt32 {x k : Nat} (hx : x < 4294967296) : x >>> k < 4294967296 := Nat.lt_of_le_of_lt (by rw [Nat.shiftRight_eq_div_pow]; exact Nat.div_le_self _ _) hx
theorem rot3_lt {x i j k : Nat} (hx : x < 4294967296) (hi : i < 32) (hj : j < 32) (hk : k < 32) : rot3 x i j k < 4294967296 :=
  xor_lt32 (xor_lt32 (rotr_lt x i hx hi) (rotr_lt x j hx hj)) (rotr_lt x k hx hk)
theorem sg0_lt {x : Nat} (hx : x < 4294967296) : sg0 x < 4294967296 :=
  xor_lt32 (xor_lt32 (rotr_lt x 7 hx (by omega)) (rotr_lt x 18 hx (by omega))) (shr_lt32 hx)
theorem sg1_lt {x : Nat} (hx : x < 4294967296) : sg1 x < 4294967296 :=
  xor_lt32 (xor_lt32 (rotr_lt x 17 hx (by omega)) (rotr_lt x 19 hx (by omega))) (shr_lt32 hx)

/-- The word behind t words of a block. -/
def nextW (blk : List UInt8) (W : List Nat) (t : Nat) : Nat :=
  if t < 16 then be ((blk.drop (4 * t)).take 4)
  else (sg1 (W.getD (t - 2) 0) + W.getD (t - 7) 0 + sg0 (W.getD (t - 15) 0) + W.getD (t - 16) 0) % 4294967296
/-- The first t words of a block. -/
def wl (blk : List UInt8) : Nat → List Nat
  | 0 => []
  | t + 1 => wl blk t ++ [nextW blk (wl blk t) t]

theorem wl_length (blk : List UInt8) : ∀ t, (wl blk t).length = t
  | 0 => rfl
  | t + 1 => by simp [wl, wl_length blk t]

theorem nextW_lt (blk : List UInt8) (W : List Nat) (t : Nat) : nextW blk W t < 4294967296 := by
  unfold nextW
  split
  · have h := be_lt ((blk.drop (4 * t)).take 4)
    have h2 : ((blk.drop (4 * t)).take 4).length ≤ 4 := List.length_take_le _ _
    have h3 : 256 ^ ((blk.drop (4 * t)).take 4).length ≤ 256 ^ 4 := Nat.pow_le_pow_right (by omega) h2
    have h4 : (256 : Nat) ^ 4 = 4294967296 := by decide
    omega
  · exact Nat.mod_lt _ (by omega)

theorem wl_lt (blk : List UInt8) : ∀ t, ∀ x ∈ wl blk t, x < 4294967296
  | 0 => by simp [wl]
  | t + 1 => by
    intro x hx
    simp only [wl, List.mem_append, List.mem_singleton] at hx
    rcases hx with hx | rfl
    · exact wl_lt blk t x hx
    · exact nextW_lt _ _ _

theorem getD_lt {l : List Nat} (h : ∀ x ∈ l, x < 4294967296) (k : Nat) : l.getD k 0 < 4294967296 := by
  rw [List.getD_eq_getElem?_getD]
  cases hk : l[k]? with
  | none => simp
  | some x => exact h x (List.mem_of_getElem? hk)

/-- The state. -/
structure S8 where
  a : Nat
  b : Nat
  c : Nat
  d : Nat
  e : Nat
  f : Nat
  g : Nat
  h : Nat

def S8.small (s : S8) : Prop := s.a < 4294967296 ∧ s.b < 4294967296 ∧ s.c < 4294967296 ∧ s.d < 4294967296 ∧ s.e < 4294967296 ∧ s.f < 4294967296 ∧ s.g < 4294967296 ∧ s.h < 4294967296
def S8.list (s : S8) : List Nat := [s.a, s.b, s.c, s.d, s.e, s.f, s.g, s.h]

theorem S8.small_list {s : S8} (hs : s.small) : ∀ x ∈ s.list, x < 4294967296 := by
  obtain ⟨h1, h2, h3, h4, h5, h6, h7, h8⟩ := hs
  simp [S8.list]; omega

def ch (e f g : Nat) : Nat := (e &&& f) ^^^ ((4294967295 - e) &&& g)
def maj (a b c : Nat) : Nat := (a &&& b) ^^^ (a &&& c) ^^^ (b &&& c)
theorem ch_lt {e f g : Nat} (he : e < 4294967296) : ch e f g < 4294967296 := xor_lt32 (and_lt32 he) (and_lt32 (by omega))
theorem maj_lt {a b c : Nat} (ha : a < 4294967296) (hb : b < 4294967296) : maj a b c < 4294967296 := xor_lt32 (xor_lt32 (and_lt32 ha) (and_lt32 ha)) (and_lt32 hb)

/-- T1 and T2 of a round. -/
def T1 (k w : Nat) (s : S8) : Nat := (s.h + rot3 s.e 6 11 25 + ch s.e s.f s.g + k + w) % 4294967296
def T2 (s : S8) : Nat := (rot3 s.a 2 13 22 + maj s.a s.b s.c) % 4294967296
/-- One round. -/
def rnd (k w : Nat) (s : S8) : S8 := ⟨(T1 k w s + T2 s) % 4294967296, s.a, s.b, s.c, (s.d + T1 k w s) % 4294967296, s.e, s.f, s.g⟩

theorem rnd_small {k w : Nat} {s : S8} (hs : s.small) : (rnd k w s).small := by
  obtain ⟨h1, h2, h3, h4, h5, h6, h7, h8⟩ := hs
  exact ⟨Nat.mod_lt _ (by omega), h1, h2, h3, Nat.mod_lt _ (by omega), h5, h6, h7⟩

/-- The rounds' words. -/
def kTab : List Nat := [0x428a2f98, 0x71374491, 0xb5c0fbcf, 0xe9b5dba5, 0x3956c25b, 0x59f111f1, 0x923f82a4, 0xab1c5ed5,
  0xd807aa98, 0x12835b01, 0x243185be, 0x550c7dc3, 0x72be5d74, 0x80deb1fe, 0x9bdc06a7, 0xc19bf174,
  0xe49b69c1, 0xefbe4786, 0x0fc19dc6, 0x240ca1cc, 0x2de92c6f, 0x4a7484aa, 0x5cb0a9dc, 0x76f988da,
  0x983e5152, 0xa831c66d, 0xb00327c8, 0xbf597fc7, 0xc6e00bf3, 0xd5a79147, 0x06ca6351, 0x14292967,
  0x27b70a85, 0x2e1b2138, 0x4d2c6dfc, 0x53380d13, 0x650a7354, 0x766a0abb, 0x81c2c92e, 0x92722c85,
  0xa2bfe8a1, 0xa81a664b, 0xc24b8b70, 0xc76c51a3, 0xd192e819, 0xd6990624, 0xf40e3585, 0x106aa070,
  0x19a4c116, 0x1e376c08, 0x2748774c, 0x34b0bcb5, 0x391c0cb3, 0x4ed8aa4a, 0x5b9cca4f, 0x682e6ff3,
  0x748f82ee, 0x78a5636f, 0x84c87814, 0x8cc70208, 0x90befffa, 0xa4506ceb, 0xbef9a3f7, 0xc67178f2]
/-- The state at first. -/
def start : S8 := ⟨0x6a09e667, 0xbb67ae85, 0x3c6ef372, 0xa54ff53a, 0x510e527f, 0x9b05688c, 0x1f83d9ab, 0x5be0cd19⟩

theorem kTab_length : kTab.length = 64 := rfl
theorem kTab_lt : ∀ x ∈ kTab, x < 4294967296 := by decide +kernel
theorem start_small : start.small := by unfold S8.small start; decide

def rnds (W : List Nat) (s : S8) : Nat → S8
  | 0 => s
  | t + 1 => rnd (kTab.getD t 0) (W.getD t 0) (rnds W s t)
theorem rnds_small (W : List Nat) {s : S8} (hs : s.small) : ∀ t, (rnds W s t).small
  | 0 => hs
  | t + 1 => rnd_small (rnds_small W hs t)

def addS (s r : S8) : S8 := ⟨(s.a + r.a) % 4294967296, (s.b + r.b) % 4294967296, (s.c + r.c) % 4294967296, (s.d + r.d) % 4294967296,
  (s.e + r.e) % 4294967296, (s.f + r.f) % 4294967296, (s.g + r.g) % 4294967296, (s.h + r.h) % 4294967296⟩
theorem addS_small (s r : S8) : (addS s r).small := ⟨Nat.mod_lt _ (by omega), Nat.mod_lt _ (by omega), Nat.mod_lt _ (by omega), Nat.mod_lt _ (by omega), Nat.mod_lt _ (by omega), Nat.mod_lt _ (by omega), Nat.mod_lt _ (by omega), Nat.mod_lt _ (by omega)⟩

/-- The state behind a block. -/
def mixS (s : S8) (blk : List UInt8) : S8 := addS s (rnds (wl blk 64) s 64)
theorem mixS_small (s : S8) (blk : List UInt8) : (mixS s blk).small := addS_small _ _

/-- The state behind the first n blocks. -/
def runB (s : S8) (bs : List UInt8) : Nat → S8
  | 0 => s
  | n + 1 => mixS (runB s bs n) ((bs.drop (64 * n)).take 64)
theorem runB_small {s : S8} (hs : s.small) (bs : List UInt8) : ∀ n, (runB s bs n).small
  | 0 => hs
  | _ + 1 => mixS_small _ _

theorem runB_append (s : S8) (bs cs : List UInt8) : ∀ n, 64 * n ≤ bs.length → runB s (bs ++ cs) n = runB s bs n
  | 0, _ => rfl
  | n + 1, h => by
    simp only [runB]
    rw [runB_append s bs cs n (by omega)]
    congr 1
    rw [List.drop_append_of_le_length (by omega), List.take_append_of_le_length (by simp; omega)]

theorem runB_add (s : S8) (bs : List UInt8) (n : Nat) : ∀ m, runB s bs (n + m) = runB (runB s bs n) (bs.drop (64 * n)) m
  | 0 => rfl
  | m + 1 => by
    show mixS (runB s bs (n + m)) _ = mixS (runB (runB s bs n) (bs.drop (64 * n)) m) _
    rw [runB_add s bs n m, List.drop_drop, show 64 * n + 64 * m = 64 * (n.add m) from (Nat.mul_add 64 n m).symm]

/-- How many noughts. -/
def zs (n : Nat) : Nat := (119 - n % 64) % 64
/-- Bytes, filled up: 'size' bytes there are in all. -/
def pad (l : List UInt8) (size : Nat) : List UInt8 := l ++ [0x80] ++ List.replicate (zs l.length) 0 ++ w4s [8 * size / 4294967296, 8 * size % 4294967296]
theorem pad_length (l : List UInt8) (size : Nat) : (pad l size).length = l.length + 9 + zs l.length := by
  simp only [pad, List.length_append, List.length_replicate, w4s_length, List.length_cons, List.length_nil]; omega
theorem pad_length64 (l : List UInt8) (size : Nat) : (pad l size).length % 64 = 0 := by rw [pad_length]; unfold zs; omega
theorem zs_lt (n : Nat) : zs n < 64 := Nat.mod_lt _ (by omega)

/-- The digest. -/
def shaL (bs : List UInt8) : List UInt8 := w4s (runB start (pad bs bs.length) ((pad bs bs.length).length / 64)).list
theorem shaL_length (bs : List UInt8) : (shaL bs).length = 32 := by simp [shaL, w4s_length, S8.list]

/-- The state behind the whole blocks of bs, and what is left. -/
def stOf (bs : List UInt8) : S8 := runB start bs (bs.length / 64)
def leftOf (bs : List UInt8) : List UInt8 := bs.drop (64 * (bs.length / 64))
theorem stOf_small (bs : List UInt8) : (stOf bs).small := runB_small start_small _ _
theorem leftOf_length (bs : List UInt8) : (leftOf bs).length = bs.length % 64 := by simp [leftOf]; omega

/-- The digest out of what a digest keeps. -/
theorem sum_of (bs : List UInt8) : w4s (runB (stOf bs) (pad (leftOf bs) bs.length) ((pad (leftOf bs) bs.length).length / 64)).list = shaL bs := by
  have hl := leftOf_length bs
  have hz : zs (leftOf bs).length = zs bs.length := by rw [hl]; unfold zs; omega
  have hsplit : bs = bs.take (64 * (bs.length / 64)) ++ leftOf bs := (List.take_append_drop _ _).symm
  have htl : (bs.take (64 * (bs.length / 64))).length = 64 * (bs.length / 64) := by simp; omega
  have hp : pad bs bs.length = bs.take (64 * (bs.length / 64)) ++ pad (leftOf bs) bs.length := by
    unfold pad
    rw [hz]
    conv => lhs; lhs; lhs; lhs; rw [hsplit]
    simp only [List.append_assoc]
  have hlen : (pad bs bs.length).length / 64 = bs.length / 64 + (pad (leftOf bs) bs.length).length / 64 := by
    rw [hp, List.length_append, htl]; omega
  unfold shaL
  rw [hlen, runB_add, hp, List.drop_left' htl, runB_append _ _ _ _ (by rw [htl]; exact Nat.le_refl _)]
  congr 3
  unfold stOf
  conv => lhs; rw [hsplit]
  rw [runB_append _ _ _ _ (by rw [← hsplit, htl]; exact Nat.le_refl _)]
  congr 1
  rw [← hsplit]

theorem sha_abc : shaL [97, 98, 99] = [0xba, 0x78, 0x16, 0xbf, 0x8f, 0x01, 0xcf, 0xea, 0x41, 0x41, 0x40, 0xde, 0x5d, 0xae, 0x22, 0x23, 0xb0, 0x03, 0x61, 0xa3, 0x96, 0x17, 0x7a, 0x9c, 0xb4, 0x10, 0xff, 0x61, 0xf2, 0x00, 0x15, 0xad] := by decide +kernel

end Go.Proofs.YtkpaldkmikjpiaaDoor
