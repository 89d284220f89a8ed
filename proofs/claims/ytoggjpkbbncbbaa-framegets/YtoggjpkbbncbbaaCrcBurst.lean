/-
  The contract of the document's Burst.
-/
import Derived.Test.YtoggjpkbbncbbaaBitsRefD
import Derived.Test.YtoggjpkbbncbbaaCrcRef
namespace Go.Proofs.Ytoggjpkbbncbbaa
open Go.ChangeShapes Go.WideShapes Go.ChangeAt Go.RowKit

theorem set_bit (l : List UInt8) (q : Nat) (x : UInt8) (hx : l[q / 8]? = some x) : bitsOf (l.set (q / 8) (x ||| UInt8.ofNat (2 ^ (7 - q % 8)))) = (bitsOf l).set q true := by
  have hq : q / 8 < l.length := (List.getElem?_eq_some_iff.1 hx).1
  apply List.ext_getElem?
  intro i
  have hp : (UInt8.ofNat (2 ^ (7 - q % 8))).toNat = 2 ^ (7 - q % 8) := by
    rw [UInt8.toNat_ofNat']
    exact Nat.mod_eq_of_lt (Nat.pow_lt_pow_right (a := 2) (n := 8) (by omega) (by omega))
  by_cases hi : i < 8 * l.length
  · by_cases hib : i / 8 = q / 8
    · rw [bits_at _ i (x ||| UInt8.ofNat (2 ^ (7 - q % 8))) (by rw [hib, List.getElem?_set_self hq]), UInt8.toNat_or, hp, Nat.testBit_or, Nat.testBit_two_pow]
      by_cases hiq : i = q
      · subst hiq
        rw [List.getElem?_set_self (by rw [bitsOf_length]; exact hi)]
        simp
      · rw [List.getElem?_set_ne (Ne.symm hiq), bits_at l i x (by rw [hib]; exact hx)]
        have : ¬ (7 - q % 8 = 7 - i % 8) := by omega
        simp [this]
    · obtain ⟨y, hy⟩ : ∃ y, l[i / 8]? = some y := ⟨l[i / 8]'(by omega), by simp [show i / 8 < l.length by omega]⟩
      rw [bits_at _ i y (by rw [List.getElem?_set_ne (Ne.symm hib)]; exact hy), List.getElem?_set_ne (by rintro rfl; exact hib rfl), bits_at l i y hy]
  · rw [List.getElem?_eq_none (by rw [bitsOf_length, List.length_set]; omega), List.getElem?_eq_none (by rw [List.length_set, bitsOf_length]; omega)]

/-- The burst behind j of its 32 bits. -/
def burstI (n k bits j : Nat) : List Bool := (List.range (8 * n)).map fun i => decide (k ≤ i ∧ i < k + j) && bits.testBit (31 - (i - k))
theorem burstI_length (n k bits j : Nat) : (burstI n k bits j).length = 8 * n := by simp [burstI]
theorem burstI_at (n k bits j i : Nat) (h : i < 8 * n) : (burstI n k bits j)[i]? = some (decide (k ≤ i ∧ i < k + j) && bits.testBit (31 - (i - k))) := by simp [burstI, h]
theorem burstI_zero (n k bits : Nat) : burstI n k bits 0 = List.replicate (8 * n) false := by
  apply List.ext_getElem?
  intro i
  by_cases h : i < 8 * n
  · rw [burstI_at _ _ _ _ _ h, List.getElem?_replicate, if_pos h]
    have h1 : ¬ (k ≤ i ∧ i < k + 0) := by omega
    rw [decide_eq_false h1]; rfl
  · rw [List.getElem?_eq_none (by rw [burstI_length]; omega), List.getElem?_eq_none (by simp; omega)]
theorem burstI_set (n k bits j : Nat) (hj : j < 32) (_hk : k + j < 8 * n) (hb : bits.testBit (31 - j) = true) : burstI n k bits (j + 1) = (burstI n k bits j).set (k + j) true := by
  apply List.ext_getElem?
  intro i
  by_cases h : i < 8 * n
  · rw [burstI_at _ _ _ _ _ h]
    by_cases hi : i = k + j
    · subst hi
      rw [List.getElem?_set_self (by rw [burstI_length]; exact h), show k + j - k = j from by omega, hb]
      simp
    · rw [List.getElem?_set_ne (Ne.symm hi), burstI_at _ _ _ _ _ h]
      have : (k ≤ i ∧ i < k + (j + 1)) ↔ (k ≤ i ∧ i < k + j) := by omega
      simp only [this]
  · rw [List.getElem?_eq_none (by rw [burstI_length]; omega), List.getElem?_eq_none (by rw [List.length_set, burstI_length]; omega)]
theorem burstI_skip (n k bits j : Nat) (h0 : ¬ (k + j < 8 * n ∧ bits.testBit (31 - j) = true)) : burstI n k bits (j + 1) = burstI n k bits j := by
  apply List.ext_getElem?
  intro i
  by_cases h : i < 8 * n
  · rw [burstI_at _ _ _ _ _ h, burstI_at _ _ _ _ _ h]
    by_cases hi : i = k + j
    · subst hi
      rw [show k + j - k = j from by omega]
      have : bits.testBit (31 - j) = false := by
        cases hb : bits.testBit (31 - j)
        · rfl
        · exact absurd ⟨h, hb⟩ h0
      simp [this]
    · have : (k ≤ i ∧ i < k + (j + 1)) ↔ (k ≤ i ∧ i < k + j) := by omega
      simp only [this]
  · rw [List.getElem?_eq_none (by rw [burstI_length]; omega), List.getElem?_eq_none (by rw [burstI_length]; omega)]

/-- The bits that Burst answers. -/
def burstZ (n : Nat) (at' : Int) (bits : Nat) : List Bool := if at' < 0 then List.replicate (8 * n) false else burstI n at'.toNat bits 32

theorem bits_noughts (n : Nat) : bitsOf (List.replicate n 0) = List.replicate (8 * n) false := by
  apply List.eq_replicate_iff.2
  refine ⟨by rw [bitsOf_length, List.length_replicate], fun b hb => ?_⟩
  obtain ⟨q, hq⟩ := List.getElem?_of_mem hb
  have hql := (List.getElem?_eq_some_iff.1 hq).1
  rw [bitsOf_length, List.length_replicate] at hql
  rw [bits_at _ q 0 (by rw [List.getElem?_replicate, if_pos (by omega)])] at hq
  simp at hq
  exact hq

theorem and_one32 (n : Nat) (h : n < 4294967296) : bits .and .u32 (n : Int) 1 = ((n % 2 : Nat) : Int) := by
  have := u32_and_nat n 1 h (by omega)
  rw [Nat.and_one_is_mod] at this
  exact this
/-- Bytes are answered, in memory of the call's own. -/
def Gives (w w' : World) (e : Ending) (p : List UInt8 → Prop) : Prop := ∃ d cd r, Hid (p r) ∧ e = .returned (.slice d r.length cd) ∧ Sees w' d cd r ∧ Below w.heap.size w w' ∧ w'.ownsRow w.heap.size 5 1 (.slice d r.length cd) r.length (r.map cellOf)

/-- What Burst answers, of n, a place and 32 bits. -/
def burstIs (n k : Int) (B : Nat) (r : List UInt8) : Prop := if n < 0 ∨ 4096 < n then r = [] else bitsOf r = burstZ n.toNat k B

theorem burstIs_one {n k : Int} {B : Nat} {r s : List UInt8} (h1 : burstIs n k B r) (h2 : burstIs n k B s) : r = s := by
  unfold burstIs at h1 h2
  by_cases h : n < 0 ∨ 4096 < n
  · rw [if_pos h] at h1 h2; rw [h1, h2]
  · rw [if_neg h] at h1 h2; exact bitsOf_inj r s (h1.trans h2.symm)

def crcP (l : List UInt8) (W : Int) (P s : Nat) : Nat × Nat := if W < 8 ∨ 32 < W ∨ ¬ P < 2 ^ W.toNat ∨ ¬ s < 2 ^ W.toNat then (0, 1) else (crcL W.toNat P s l, 0)

set_option maxHeartbeats 1600000 in
set_option maxRecDepth 20000 in
theorem rcrc_any (w : World) (a : Option Addr) (ca : Nat) (l : List UInt8) (W : Int) (P s0 : Nat) (ha : Sees w a ca l) (hll : l.length ≤ 140737488355328) (hP : P < 4294967296) (hs : s0 < 4294967296) :
    Calls Try.prog 72 #[.slice a l.length ca, .int .i64 W, .int .u32 (P : Int), .int .u32 (s0 : Int)] w fun e w' => e = .returned (.tuple #[.int .u32 (((crcP l W P s0).1 : Nat) : Int), .int .i64 (((crcP l W P s0).2 : Nat) : Int)]) ∧ w' = w := by
  by_cases hbad : W < 8 ∨ 32 < W ∨ ¬ P < 2 ^ W.toNat ∨ ¬ s0 < 2 ^ W.toNat
  · have hE : crcP l W P s0 = (0, 1) := by unfold crcP; rw [if_pos hbad]
    rw [hE]
    clear hE ha
    by_cases h1 : W < 8
    · clear hbad
      go_enter Try.func72, Try.ntmps72
      go_wp2
      go_ret2
      exact ⟨rfl, rfl⟩
    have d1 : decide (W < 8) = false := by simp; omega
    by_cases h2 : 32 < W
    · clear hbad
      go_enter Try.func72, Try.ntmps72
      go_wp2
      go_ret2
      exact ⟨rfl, rfl⟩
    have d2 : decide (32 < W) = false := by simp; omega
    obtain ⟨V, rfl⟩ : ∃ V : Nat, W = V := ⟨W.toNat, by omega⟩
    have gV : (0 : Int) ≤ (V : Int) := Int.natCast_nonneg _
    simp only [Int.toNat_natCast] at hbad
    by_cases h3 : P < 2 ^ V
    · have h4 : ¬ s0 < 2 ^ V := by
        intro h; rcases hbad with h' | h' | h' | h'
        · omega
        · omega
        · exact h' h3
        · exact h' h
      have d3 : (P : Int) / 2 ^ V = 0 := by
        have : ((P / 2 ^ V : Nat) : Int) = 0 := by rw [Nat.div_eq_of_lt h3]; rfl
        simpa using this
      have d4 : ((s0 : Int) / 2 ^ V != 0) = true := by
        have h5 : 0 < s0 / 2 ^ V := Nat.div_pos (by omega) (Nat.two_pow_pos V)
        have h6 : (s0 : Int) / 2 ^ V = ((s0 / 2 ^ V : Nat) : Int) := by simp
        rw [h6]; simp; omega
      clear hbad h3 h4
      go_enter Try.func72, Try.ntmps72
      go_wp2
      go_ret2
      exact ⟨rfl, rfl⟩
    · have d3 : ((P : Int) / 2 ^ V != 0) = true := by
        have h5 : 0 < P / 2 ^ V := Nat.div_pos (by omega) (Nat.two_pow_pos V)
        have h6 : (P : Int) / 2 ^ V = ((P / 2 ^ V : Nat) : Int) := by simp
        rw [h6]; simp; omega
      clear hbad h3
      go_enter Try.func72, Try.ntmps72
      go_wp2
      go_ret2
      exact ⟨rfl, rfl⟩
  · obtain ⟨V, rfl⟩ : ∃ V : Nat, W = V := ⟨W.toNat, by omega⟩
    have hE : crcP l (V : Int) P s0 = (crcL V P s0 l, 0) := by unfold crcP; rw [if_neg hbad]; simp
    rw [hE]
    simp only [Int.toNat_natCast] at hbad
    have h3 : P < 2 ^ V := Decidable.byContradiction fun h => hbad (.inr (.inr (.inl h)))
    have h4 : s0 < 2 ^ V := Decidable.byContradiction fun h => hbad (.inr (.inr (.inr h)))
    exact rcrc_ok w a ca l V P s0 ha hll (by omega) (by omega) h3 h4
end Go.Proofs.Ytoggjpkbbncbbaa
