/-
  What package bits must say of a writer, as a proposition.
-/
import Derived.Test.YtoggjpkbbncbbaaBitsRefD
import Derived.Test.YtoggjpkbbncbbaaNums
import Derived.Test.YtoggjpkbbncbbaaDraws
namespace Go.Proofs.Ytoggjpkbbncbbaa
open Go.ChangeShapes Go.WideShapes Go.ChangeAt Go.RowKit

structure WrSpec (M : World → Nat → List Bool → (Nat → Prop) → Prop) : Prop where
  kept : Kept M
  new : ∀ w : World, Calls Try.prog 20 #[] w fun e w' => ∃ b F, e = .returned (.pointer (some ⟨b, 0, none⟩)) ∧ M w' b [] F ∧ Below w.heap.size w w' ∧ ∀ k, F k → w.heap.size ≤ k
  put : ∀ (w : World) (b : Nat) (bs : List Bool) (F : Nat → Prop) (n : Nat) (W : Int), M w b bs F → n < 18446744073709551616 → bs.length ≤ 8192 →
    Calls Try.prog 69 #[.pointer (some ⟨b, 0, none⟩), .int .u64 (n : Int), .int .i64 W] w fun e w' => e = .returned (.int .i64 (putP bs.length n W : Nat)) ∧ Left M w F b (putB bs n W) w'
  bytes : ∀ (w : World) (b : Nat) (bs : List Bool) (F : Nat → Prop) (x : Option Addr) (cx : Nat) (l : List UInt8), M w b bs F → Sees w x cx l → (∀ b off, x = some ⟨b, off, none⟩ → l ≠ [] → ¬ F b) → bs.length ≤ 8192 →
    Calls Try.prog 70 #[.pointer (some ⟨b, 0, none⟩), .slice x l.length cx] w fun e w' => e = .returned (.int .i64 (bytesP bs.length l.length : Nat)) ∧ Left M w F b (bytesB bs l) w'
  len : ∀ (w : World) (b : Nat) (bs : List Bool) (F : Nat → Prop), M w b bs F → Calls Try.prog 13 #[.pointer (some ⟨b, 0, none⟩)] w fun e w' => e = .returned (.int .i64 (bs.length : Int)) ∧ Below w.heap.size w w'
  done : ∀ (w : World) (b : Nat) (bs : List Bool) (F : Nat → Prop), M w b bs F → bs.length ≤ 8192 →
    Calls Try.prog 24 #[.pointer (some ⟨b, 0, none⟩)] w fun e w' => ∃ d cd r, Hid (r = packL bs) ∧ e = .returned (.slice d r.length cd) ∧ Sees w' d cd r ∧ Below w.heap.size w w'

theorem putB_len (bs : List Bool) (n : Nat) (W : Int) (h : bs.length ≤ 8192) : (putB bs n W).length ≤ 8192 := by
  unfold putB
  by_cases h0 : putP bs.length n W = 0
  · rw [if_pos h0, List.length_append, bitsN_length]
    unfold putP at h0
    by_cases h1 : W < 0 ∨ 64 < W ∨ ¬ n < 2 ^ W.toNat
    · rw [if_pos h1] at h0; cases h0
    · rw [if_neg h1] at h0
      by_cases h2 : 8192 < bs.length + W.toNat
      · rw [if_pos h2] at h0; cases h0
      · omega
  · rw [if_neg h0]; exact h
theorem bytesB_len (bs : List Bool) (l : List UInt8) (h : bs.length ≤ 8192) : (bytesB bs l).length ≤ 8192 := by
  unfold bytesB
  by_cases h0 : bytesP bs.length l.length = 0
  · rw [if_pos h0, List.length_append, bitsOf_length]
    unfold bytesP at h0
    by_cases h1 : 1024 < l.length ∨ 8192 < bs.length + 8 * l.length
    · rw [if_pos h1] at h0; cases h0
    · omega
  · rw [if_neg h0]; exact h

def BawakeOk : Prop := ∀ w : World, Calls Try.prog 16 #[] w fun e w' => e = .returned (.bool true) ∧ Below w.heap.size w w'
end Go.Proofs.Ytoggjpkbbncbbaa
