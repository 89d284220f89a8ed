/-
  The document's reader: its Get with errors, Bytes and End.
-/
import Derived.Test.YtoggjpkbbncbbaaBitsRefR
namespace Go.Proofs.Ytoggjpkbbncbbaa
open Go.ChangeShapes Go.WideShapes Go.ChangeAt Go.RowKit

/-- What Get answers, left bits being left. -/
def getP (left : Nat) (W : Int) : Nat := if W < 0 ∨ 64 < W then 1 else if (left : Int) < W then 3 else 0
def getN (l : List UInt8) (at_ : Nat) (W : Int) : Nat := if getP (8 * l.length - at_) W = 0 then num (nextB l at_ W.toNat) else 0
def getAt (l : List UInt8) (at_ : Nat) (W : Int) : Nat := if getP (8 * l.length - at_) W = 0 then at_ + W.toNat else at_
theorem getAt_le (l : List UInt8) (at_ : Nat) (W : Int) (h : at_ ≤ 8 * l.length) : getAt l at_ W ≤ 8 * l.length := by
  unfold getAt
  by_cases h0 : getP (8 * l.length - at_) W = 0
  · rw [if_pos h0]
    unfold getP at h0
    by_cases h1 : W < 0 ∨ 64 < W
    · rw [if_pos h1] at h0; cases h0
    · rw [if_neg h1] at h0
      by_cases h2 : ((8 * l.length - at_ : Nat) : Int) < W
      · rw [if_pos h2] at h0; cases h0
      · omega
  · rw [if_neg h0]; exact h

set_option maxHeartbeats 1600000 in
set_option maxRecDepth 20000 in
theorem rget_any (a : Option Addr) (cap : Nat) (l : List UInt8) (w : World) (g at_ : Nat) (G : Nat → Prop) (h : RR a cap l w g at_ G) (hs : Sees w a cap l) (hsn : ∀ b off, a = some ⟨b, off, none⟩ → l ≠ [] → ¬ G b) (hl : l.length ≤ 140737488355328) (W : Int) (hat : at_ ≤ 8 * l.length) :
    Calls Try.prog 66 #[.pointer (some ⟨g, 0, none⟩), .int .i64 W] w fun e w' => e = .returned (.tuple #[.int .u64 ((getN l at_ W : Nat) : Int), .int .i64 ((getP (8 * l.length - at_) W : Nat) : Int)]) ∧ Left (RR a cap l) w G g (getAt l at_ W) w' := by
  have hsame : ∀ m, Left (RR a cap l) w G g at_ (w.drewN m) := fun m => ⟨G, (rr_kept a cap l).keep h (fun _ _ => rfl), ⟨rfl, rfl, rfl, Nat.le_refl _, fun _ _ _ => rfl⟩, fun _ h => .inl h⟩
  by_cases hbad : W < 0 ∨ 64 < W
  · have e1 : getP (8 * l.length - at_) W = 1 := by unfold getP; rw [if_pos hbad]
    have e2 : getN l at_ W = 0 := by unfold getN; rw [e1]; rfl
    have e3 : getAt l at_ W = at_ := by unfold getAt; rw [e1]; rfl
    rw [e1, e2, e3]
    have H0 : Hid (Left (RR a cap l) w G g at_ w) := hsame 0
    clear h hs hsn e1 e2 e3 hsame
    by_cases h0 : W < 0
    · clear hbad
      go_enter Try.func66, Try.ntmps66
      go_wp2
      go_ret2
      exact ⟨rfl, H0.out⟩
    · have h64 : 64 < W := by omega
      clear hbad
      go_enter Try.func66, Try.ntmps66
      go_wp2
      go_ret2
      exact ⟨rfl, H0.out⟩
  obtain ⟨V, rfl⟩ : ∃ V : Nat, W = (V : Int) := ⟨W.toNat, by omega⟩
  have hV : V ≤ 64 := by omega
  by_cases hsh : ((8 * l.length - at_ : Nat) : Int) < (V : Int)
  · have e1 : getP (8 * l.length - at_) V = 3 := by unfold getP; rw [if_neg hbad, if_pos hsh]
    have e2 : getN l at_ V = 0 := by unfold getN; rw [e1]; rfl
    have e3 : getAt l at_ V = at_ := by unfold getAt; rw [e1]; rfl
    rw [e1, e2, e3]
    have hlf := rleft_any a cap l w g at_ G h hl hat
    obtain ⟨R, hR⟩ : ∃ R, R = 8 * l.length - at_ := ⟨_, rfl⟩
    rw [← hR] at hlf hsh
    have hVR : R < V := by omega
    have hRm : R ≤ 9223372036854775807 := by omega
    have HS0 : Hid (∀ m, Left (RR a cap l) w G g at_ (w.drewN m)) := hsame
    have dW0 : decide ((V : Int) < 0) = false := by simp
    have dW64 : decide ((64 : Int) < (V : Int)) = false := by simp; omega
    clear h hs hsn e1 e2 e3 hsame hR hsh hbad
    go_enter Try.func66, Try.ntmps66
    go_wp2_with fail
    refine hlf.mono ?_
    rintro e w1 ⟨rfl, m, rfl⟩
    clear hlf
    go_wp2
    go_ret2
    exact ⟨rfl, HS0.out m⟩
  · have e1 : getP (8 * l.length - at_) V = 0 := by unfold getP; rw [if_neg hbad, if_neg hsh]
    have e2 : getN l at_ V = num (nextB l at_ V) := by unfold getN; rw [if_pos e1]; rfl
    have e3 : getAt l at_ V = at_ + V := by unfold getAt; rw [if_pos e1]; rfl
    rw [e1, e2, e3]
    exact rget_ok a cap l w g at_ G h hs hsn hl V hV (by omega)

/-- A byte out of eight bits. -/
theorem bitsU_num (t : List Bool) (h : t.length = 8) : bitsU (UInt8.ofNat (num t)) = t := by
  match t, h with
  | [b0, b1, b2, b3, b4, b5, b6, b7], _ =>
    have := byteOf_bits (fun k => [b0, b1, b2, b3, b4, b5, b6, b7].getD k false)
    unfold byteOf at this
    exact this
theorem nextB_length (l : List UInt8) (at_ k : Nat) (h : at_ + k ≤ 8 * l.length) : (nextB l at_ k).length = k := by
  unfold nextB; rw [List.length_take, List.length_drop, bitsOf_length]; omega
theorem nextB_add (l : List UInt8) (at_ k m : Nat) : nextB l at_ (k + m) = nextB l at_ k ++ nextB l (at_ + k) m := by
  unfold nextB; rw [List.take_add, List.drop_drop]
theorem pack_step (l : List UInt8) (at_ k : Nat) (h : at_ + 8 * (k + 1) ≤ 8 * l.length) : packL (nextB l at_ (8 * (k + 1))) = packL (nextB l at_ (8 * k)) ++ [UInt8.ofNat (num (nextB l (at_ + 8 * k) 8))] := by
  apply bitsOf_inj
  rw [bitsOf_app, packL_bits, packL_bits, nextB_length l at_ _ h, nextB_length l at_ _ (by omega)]
  have h1 : bitsOf [UInt8.ofNat (num (nextB l (at_ + 8 * k) 8))] = nextB l (at_ + 8 * k) 8 := by
    rw [bitsOf, bitsOf, List.append_nil, bitsU_num _ (nextB_length l _ _ (by omega))]
  rw [h1, show 8 * ((8 * (k + 1) + 7) / 8) - 8 * (k + 1) = 0 by omega, show 8 * ((8 * k + 7) / 8) - 8 * k = 0 by omega, List.replicate_zero, List.append_nil, List.append_nil, show 8 * (k + 1) = 8 * k + 8 by omega, nextB_add]
end Go.Proofs.Ytoggjpkbbncbbaa
