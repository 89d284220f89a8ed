/-
  The document's reader: its Left and Get.

  The document's reader: its Get with errors, Bytes and End.

  The document's reader: its Bytes and End.
-/
import Derived.Test.YtaihjnaggmmiiaaGreatDoorBitsA
namespace Go.Proofs.YtaihjnaggmmiiaaGreatDoor
open Go.ChangeShapes Go.WideShapes Go.ChangeAt Go.RowKit

/-- The document's reader at block g: of the slice a, l.length, cap; the next bit. -/
def RR (a : Option Addr) (cap : Nat) (l : List UInt8) (w : World) (g : Nat) (at_ : Nat) (G : Nat → Prop) : Prop :=
  w.heap[g]? = some (.cells #[.slice a l.length cap, .int .i64 (at_ : Int)] 79 (0, 0)) ∧ G g ∧ ∀ k, G k → k < w.heap.size
theorem rr_kept (a : Option Addr) (cap : Nat) (l : List UInt8) : Kept (RR a cap l) where
  lt := fun ⟨_, _, h⟩ => h
  keep := fun {w w' b s F} ⟨h1, h2, h3⟩ hk => ⟨(hk b h2).trans h1, h2, fun k hF => by
    have h8 : w'.heap[k]? = some (w.heap[k]'(h3 k hF)) := by rw [hk k hF]; simp [h3 k hF]
    exact (Array.getElem?_eq_some_iff.1 h8).1⟩
theorem RR.cells {a : Option Addr} {cap : Nat} {l : List UInt8} {w : World} {g at_ : Nat} {G : Nat → Prop} (h : RR a cap l w g at_ G) : w.cell? ⟨g, 0, none⟩ = some (.slice a l.length cap) ∧ w.cell? ⟨g, 1, none⟩ = some (.int .i64 (at_ : Int)) ∧ w.frozen? ⟨g, 1, none⟩ = false :=
  ⟨cell_of_row _ _ 0 _ _ _ h.1, cell_of_row _ _ 1 _ _ _ h.1, frozen_of_row _ _ 1 _ _ h.1⟩
/-- The next bit is set. -/
theorem RR.moved {a : Option Addr} {cap : Nat} {l : List UInt8} {w : World} {g at_ : Nat} {G : Nat → Prop} (h : RR a cap l w g at_ G) (m : Nat) : RR a cap l (w.setCell ⟨g, 1, none⟩ (.int .i64 (m : Int))) g m G :=
  ⟨by rw [heap_setCell_same _ _ _ _ _ _ h.1]; rfl, h.2.1, fun k hk => by simpa using h.2.2 k hk⟩

set_option maxHeartbeats 800000 in
set_option maxRecDepth 20000 in
theorem rleft_any (a : Option Addr) (cap : Nat) (l : List UInt8) (w : World) (g at_ : Nat) (G : Nat → Prop) (h : RR a cap l w g at_ G) (hl : l.length ≤ 140737488355328) (hat : at_ ≤ 8 * l.length) :
    Calls Tryz.prog 81 #[.pointer (some ⟨g, 0, none⟩)] w fun e w' => e = .returned (.int .i64 ((8 * l.length - at_ : Nat) : Int)) ∧ ∃ m, w' = w.drewN m := by
  obtain ⟨c0, c1, _⟩ := h.cells
  have e1 : 8 * (l.length : Int) - (at_ : Int) = ((8 * l.length - at_ : Nat) : Int) := by omega
  obtain ⟨R, hR⟩ : ∃ R, R = 8 * l.length - at_ := ⟨_, rfl⟩
  rw [← hR] at e1 ⊢
  clear hR h
  go_enter Tryz.func81, Tryz.ntmps81
  go_wp2
  go_quiet (fail)
  go_wp2
  go_ret
  exact ⟨rfl, _, rfl⟩

theorem or_bit (N : Nat) (b : Bool) (h : N < 9223372036854775808) : bits .or .u64 (((2 * N : Nat)) : Int) (b.toNat : Int) = ((2 * N + b.toNat : Nat) : Int) := by
  have hb : b.toNat < 2 := by cases b <;> simp
  have h1 := u64_or_nat (2 * N) b.toNat (by omega) (by omega)
  rw [h1]
  congr 1
  have h2 := Nat.shiftLeft_add_eq_or_of_lt (a := N) (i := 1) (b := b.toNat) (by omega)
  rw [Nat.shiftLeft_eq, Nat.pow_one, Nat.mul_comm] at h2
  exact h2.symm
theorem and_one8 (n : Nat) (h : n < 256) : bits .and .u8 (n : Int) 1 = ((n % 2 : Nat) : Int) := by
  have := u8_and_nat n 1 h (by omega)
  rw [Nat.and_one_is_mod] at this
  exact this
theorem bit_mod (n j : Nat) : n / 2 ^ j % 2 = (n.testBit j).toNat := by
  rw [Nat.testBit_eq_decide_div_mod_eq]
  rcases Nat.mod_two_eq_zero_or_one (n / 2 ^ j) with h | h <;> simp [h]

/-- The bits that come next. -/
def nextB (l : List UInt8) (at_ k : Nat) : List Bool := ((bitsOf l).drop at_).take k
theorem nextB_snoc (l : List UInt8) (at_ k : Nat) (t : Bool) (h : (bitsOf l)[at_ + k]? = some t) : nextB l at_ (k + 1) = nextB l at_ k ++ [t] := by
  unfold nextB
  rw [List.take_add_one, List.getElem?_drop, h]; rfl
theorem nextB_len (l : List UInt8) (at_ k : Nat) : (nextB l at_ k).length ≤ k := by unfold nextB; rw [List.length_take]; omega

set_option maxHeartbeats 3200000 in
set_option maxRecDepth 20000 in
theorem rget_ok (a : Option Addr) (cap : Nat) (l : List UInt8) (w : World) (g at_ : Nat) (G : Nat → Prop) (h : RR a cap l w g at_ G) (hs : Sees w a cap l) (hsn : ∀ b off, a = some ⟨b, off, none⟩ → l ≠ [] → ¬ G b) (hl : l.length ≤ 140737488355328) (V : Nat) (hV : V ≤ 64) (hat : at_ + V ≤ 8 * l.length) :
    Calls Tryz.prog 82 #[.pointer (some ⟨g, 0, none⟩), .int .i64 (V : Int)] w fun e w' => e = .returned (.tuple #[.int .u64 ((num (nextB l at_ V) : Nat) : Int), .int .i64 0]) ∧ Left (RR a cap l) w G g (at_ + V) w' := by
  have hlf := rleft_any a cap l w g at_ G h hl (by omega)
  obtain ⟨R, hR⟩ : ∃ R, R = 8 * l.length - at_ := ⟨_, rfl⟩
  rw [← hR] at hlf
  have hVR : V ≤ R := by omega
  have hRm : R ≤ 9223372036854775807 := by omega
  have dW0 : decide ((V : Int) < 0) = false := by simp
  have dW64 : decide ((64 : Int) < (V : Int)) = false := by simp; omega
  have HH : Hid (RR a cap l w g at_ G) := h
  have HS : Hid (Sees w a cap l) := hs
  have HSN : Hid (∀ b off, a = some ⟨b, off, none⟩ → l ≠ [] → ¬ G b) := hsn
  clear h hs hsn hR
  go_enter Tryz.func82, Tryz.ntmps82
  go_wp2_with fail
  refine hlf.mono ?_
  rintro e w1 ⟨rfl, m, hm⟩
  have HL0 : Hid (Left (RR a cap l) w G g (at_ + 0) w1) := by
    rw [hm]; exact ⟨G, (rr_kept a cap l).keep HH.out (fun _ _ => rfl), ⟨rfl, rfl, rfl, Nat.le_refl _, fun _ _ _ => rfl⟩, fun _ h => .inl h⟩
  clear hlf hm
  go_wp2
  go_loopw [6, 7] (fun nv i wr => ∃ k : Nat, k ≤ V ∧ i = .int .i64 k ∧ nv = .int .u64 ((num (nextB l at_ k) : Nat) : Int) ∧ Left (RR a cap l) w G g (at_ + k) wr) (fun _ i _ => V - (intOf i).toNat)
  case atStart => exact ⟨0, Nat.zero_le _, rfl, by simp [nextB, num], HL0.out⟩
  case round =>
    obtain ⟨k, hk, rfl, rfl, G1, hr, hap, hG1⟩ := hrel
    clear HL0
    by_cases hlt : k < V
    · obtain ⟨c0, c1, f1⟩ := hr.cells
      obtain ⟨p, hp⟩ : ∃ p, p = at_ + k := ⟨_, rfl⟩
      rw [← hp] at c1 hr
      obtain ⟨q, hq⟩ : ∃ q, q = p / 8 := ⟨_, rfl⟩
      obtain ⟨r, hr8⟩ : ∃ r, r = p % 8 := ⟨_, rfl⟩
      obtain ⟨s, hs⟩ : ∃ s, s = 7 - r := ⟨_, rfl⟩
      have hql : q < l.length := by omega
      obtain ⟨x, hx⟩ : ∃ x, l[q]? = some x := ⟨l[q], by simp [hql]⟩
      obtain ⟨b1, o1, rfl, hc1⟩ := (hap.sees HS.out HSN.out).get hx
      obtain ⟨t, ht⟩ : ∃ t, t = x.toNat.testBit s := ⟨_, rfl⟩
      have hbit : (bitsOf l)[at_ + k]? = some t := by rw [ht, hs, hr8, ← hp]; exact bits_at l p x (by rw [← hq]; exact hx)
      obtain ⟨N, hN⟩ : ∃ N, N = num (nextB l at_ k) := ⟨_, rfl⟩
      have hNlt : N < 9223372036854775808 := by
        rw [hN]
        have h1 := num_lt (nextB l at_ k)
        have h2 : 2 ^ (nextB l at_ k).length ≤ 2 ^ 63 := Nat.pow_le_pow_right (by omega) (by have := nextB_len l at_ k; omega)
        omega
      have hnext : num (nextB l at_ (k + 1)) = 2 * N + t.toNat := by rw [nextB_snoc l at_ k t hbit, num_snoc, hN]
      obtain ⟨N2, hN2⟩ : ∃ N2, N2 = 2 * N + t.toNat := ⟨_, rfl⟩
      obtain ⟨tn, htn⟩ : ∃ tn, tn = t.toNat := ⟨_, rfl⟩
      have htn2 : tn < 2 := by rw [htn]; cases t <;> simp
      have eand : bits .and .u8 ((x.toNat : Int) / 2 ^ s) 1 = (tn : Int) := by
        have h1 := and_one8 (x.toNat / 2 ^ s) (Nat.lt_of_le_of_lt (Nat.div_le_self _ _) (toNat_lt256 x))
        rw [bit_mod, ← ht, ← htn] at h1
        simpa using h1
      have eor : bits .or .u64 ((N : Int) * 2) (tn : Int) = (N2 : Int) := by
        have h1 := or_bit N t hNlt
        rw [← hN2, ← htn] at h1
        rw [← h1]; congr 1; omega
      have wtn : IntKind.u64.wrap (tn : Int) = (tn : Int) := by rw [IntKind.wrap_u64]; omega
      have wN : IntKind.u64.wrap ((N : Int) * 2) = (N : Int) * 2 := by rw [IntKind.wrap_u64]; omega
      have HEND : Hid (∀ m, Left (RR (some ⟨b1, o1, none⟩) cap l) w G g (at_ + (k + 1)) ((wr.drewN m).setCell ⟨g, 1, none⟩ (.int .i64 ((p + 1 : Nat) : Int)))) := fun m => by
        refine ⟨G1, ?_, ?_, hG1⟩
        · rw [show at_ + (k + 1) = p + 1 by omega]
          exact RR.moved ((rr_kept _ cap l).keep hr (w' := wr.drewN m) (fun _ _ => rfl)) (p + 1)
        · have h1 : Apart G w (wr.drewN m) := ⟨hap.os, hap.tape, hap.output, hap.size, hap.block⟩
          exact h1.setCell (hG1 g hr.2.1) 1 _
      have HNX : Hid (num (nextB l at_ (k + 1)) = N2) := by rw [hnext, hN2]; exact rfl
      have q1 : (p : Int) / 8 = (q : Int) := by omega
      have q2 : (p : Int).tdiv 8 = (q : Int) := by rw [Int.tdiv_eq_ediv_of_nonneg (by omega)]; exact q1
      have r1 : (p : Int) % 8 = (r : Int) := by omega
      have r2 : (p : Int).tmod 8 = (r : Int) := by rw [Int.tmod_eq_emod_of_nonneg (by omega)]; exact r1
      have s1 : 7 - (r : Int) = (s : Int) := by omega
      have s2 : IntKind.i64.wrap (7 - (r : Int)) = (s : Int) := by rw [IntKind.wrap_i64]; omega
      have gq0 : (0 : Int) ≤ (q : Int) := Int.natCast_nonneg _
      have gq1 : (q : Int) < (l.length : Int) := by omega
      have gs0 : (0 : Int) ≤ (s : Int) := Int.natCast_nonneg _
      have hp2 : p + 1 ≤ 9223372036854775807 := by omega
      have hs8 : s < 8 := by omega
      have hmin : min s 8 = s := by omega
      rw [← hN]
      clear hr hap hG1 hp hq hr8 hs hx ht hbit hN hnext hN2 htn hNlt
      go_wp2
      go_quiet (fail)
      go_wp2
      go_roundw
      case rel => exact ⟨k + 1, by omega, by go_num, by rw [HNX.out], HEND.out _⟩
      case measure => simp [intOf]; omega
    · obtain rfl : k = V := by omega
      have HE : Hid (Left (RR a cap l) w G g (at_ + k) wr) := ⟨G1, hr, hap, hG1⟩
      clear hr hap hG1
      go_wp2
      go_ret2
      exact ⟨rfl, HE.out⟩
end Go.Proofs.YtaihjnaggmmiiaaGreatDoor

namespace Go.Proofs.YtaihjnaggmmiiaaGreatDoor
open Go.ChangeShapes Go.WideShapes Go.ChangeAt Go.RowKit

/-- What Get answers, left bits being left. -/
def getP (left : Nat) (W : Int) : Nat := if W < 0 ∨ 64 < W then 1 else if (left : Int) < W then 3 else 0
def getN (l : List UInt8) (at_ : Nat) (W : Int) : Nat := if getP (8 * l.length - at_) W = 0 then num (nextB l at_ W.toNat) else 0
def getAt (l : List UInt8) (at_ : Nat) (W : Int) : Nat := if getP (8 * l.length - at_) W = 0 then at_ + W.toNat else at_
theorem getAt_le (l : List UInt8) (at_ : Nat) (W : Int) (h : at_ ≤ 8 * l.length) : getAt l at_ W ≤ 8 * l.length := by
  unfold getAt
  by_cases h0 : getP (8 * l.length - at_) W = 0
  · rw [if_pos h0]
    unfold getP at h0
    by_cases h1 : W < 0 ∨ 64 < W
    · rw [if_pos h1] at h0; cases h0
    · rw [if_neg h1] at h0
      by_cases h2 : ((8 * l.length - at_ : Nat) : Int) < W
      · rw [if_pos h2] at h0; cases h0
      · omega
  · rw [if_neg h0]; exact h

set_option maxHeartbeats 1600000 in
set_option maxRecDepth 20000 in
theorem rget_any (a : Option Addr) (cap : Nat) (l : List UInt8) (w : World) (g at_ : Nat) (G : Nat → Prop) (h : RR a cap l w g at_ G) (hs : Sees w a cap l) (hsn : ∀ b off, a = some ⟨b, off, none⟩ → l ≠ [] → ¬ G b) (hl : l.length ≤ 140737488355328) (W : Int) (hat : at_ ≤ 8 * l.length) :
    Calls Tryz.prog 82 #[.pointer (some ⟨g, 0, none⟩), .int .i64 W] w fun e w' => e = .returned (.tuple #[.int .u64 ((getN l at_ W : Nat) : Int), .int .i64 ((getP (8 * l.length - at_) W : Nat) : Int)]) ∧ Left (RR a cap l) w G g (getAt l at_ W) w' := by
  have hsame : ∀ m, Left (RR a cap l) w G g at_ (w.drewN m) := fun m => ⟨G, (rr_kept a cap l).keep h (fun _ _ => rfl), ⟨rfl, rfl, rfl, Nat.le_refl _, fun _ _ _ => rfl⟩, fun _ h => .inl h⟩
  by_cases hbad : W < 0 ∨ 64 < W
  · have e1 : getP (8 * l.length - at_) W = 1 := by unfold getP; rw [if_pos hbad]
    have e2 : getN l at_ W = 0 := by unfold getN; rw [e1]; rfl
    have e3 : getAt l at_ W = at_ := by unfold getAt; rw [e1]; rfl
    rw [e1, e2, e3]
    have H0 : Hid (Left (RR a cap l) w G g at_ w) := hsame 0
    clear h hs hsn e1 e2 e3 hsame
    by_cases h0 : W < 0
    · clear hbad
      go_enter Tryz.func82, Tryz.ntmps82
      go_wp2
      go_ret2
      exact ⟨rfl, H0.out⟩
    · have h64 : 64 < W := by omega
      clear hbad
      go_enter Tryz.func82, Tryz.ntmps82
      go_wp2
      go_ret2
      exact ⟨rfl, H0.out⟩
  obtain ⟨V, rfl⟩ : ∃ V : Nat, W = (V : Int) := ⟨W.toNat, by omega⟩
  have hV : V ≤ 64 := by omega
  by_cases hsh : ((8 * l.length - at_ : Nat) : Int) < (V : Int)
  · have e1 : getP (8 * l.length - at_) V = 3 := by unfold getP; rw [if_neg hbad, if_pos hsh]
    have e2 : getN l at_ V = 0 := by unfold getN; rw [e1]; rfl
    have e3 : getAt l at_ V = at_ := by unfold getAt; rw [e1]; rfl
    rw [e1, e2, e3]
    have hlf := rleft_any a cap l w g at_ G h hl hat
    obtain ⟨R, hR⟩ : ∃ R, R = 8 * l.length - at_ := ⟨_, rfl⟩
    rw [← hR] at hlf hsh
    have hVR : R < V := by omega
    have hRm : R ≤ 9223372036854775807 := by omega
    have HS0 : Hid (∀ m, Left (RR a cap l) w G g at_ (w.drewN m)) := hsame
    have dW0 : decide ((V : Int) < 0) = false := by simp
    have dW64 : decide ((64 : Int) < (V : Int)) = false := by simp; omega
    clear h hs hsn e1 e2 e3 hsame hR hsh hbad
    go_enter Tryz.func82, Tryz.ntmps82
    go_wp2_with fail
    refine hlf.mono ?_
    rintro e w1 ⟨rfl, m, rfl⟩
    clear hlf
    go_wp2
    go_ret2
    exact ⟨rfl, HS0.out m⟩
  · have e1 : getP (8 * l.length - at_) V = 0 := by unfold getP; rw [if_neg hbad, if_neg hsh]
    have e2 : getN l at_ V = num (nextB l at_ V) := by unfold getN; rw [if_pos e1]; rfl
    have e3 : getAt l at_ V = at_ + V := by unfold getAt; rw [if_pos e1]; rfl
    rw [e1, e2, e3]
    exact rget_ok a cap l w g at_ G h hs hsn hl V hV (by omega)

/-- A byte out of eight bits. -/
theorem bitsU_num (t : List Bool) (h : t.length = 8) : bitsU (UInt8.ofNat (num t)) = t := by
  match t, h with
  | [b0, b1, b2, b3, b4, b5, b6, b7], _ =>
    have := byteOf_bits (fun k => [b0, b1, b2, b3, b4, b5, b6, b7].getD k false)
    unfold byteOf at this
    exact this
theorem nextB_length (l : List UInt8) (at_ k : Nat) (h : at_ + k ≤ 8 * l.length) : (nextB l at_ k).length = k := by
  unfold nextB; rw [List.length_take, List.length_drop, bitsOf_length]; omega
theorem nextB_add (l : List UInt8) (at_ k m : Nat) : nextB l at_ (k + m) = nextB l at_ k ++ nextB l (at_ + k) m := by
  unfold nextB; rw [List.take_add, List.drop_drop]
theorem pack_step (l : List UInt8) (at_ k : Nat) (h : at_ + 8 * (k + 1) ≤ 8 * l.length) : packL (nextB l at_ (8 * (k + 1))) = packL (nextB l at_ (8 * k)) ++ [UInt8.ofNat (num (nextB l (at_ + 8 * k) 8))] := by
  apply bitsOf_inj
  rw [bitsOf_app, packL_bits, packL_bits, nextB_length l at_ _ h, nextB_length l at_ _ (by omega)]
  have h1 : bitsOf [UInt8.ofNat (num (nextB l (at_ + 8 * k) 8))] = nextB l (at_ + 8 * k) 8 := by
    rw [bitsOf, bitsOf, List.append_nil, bitsU_num _ (nextB_length l _ _ (by omega))]
  rw [h1, show 8 * ((8 * (k + 1) + 7) / 8) - 8 * (k + 1) = 0 by omega, show 8 * ((8 * k + 7) / 8) - 8 * k = 0 by omega, List.replicate_zero, List.append_nil, List.append_nil, show 8 * (k + 1) = 8 * k + 8 by omega, nextB_add]
end Go.Proofs.YtaihjnaggmmiiaaGreatDoor

namespace Go.Proofs.YtaihjnaggmmiiaaGreatDoor
open Go.ChangeShapes Go.WideShapes Go.ChangeAt Go.RowKit

/-- What Bytes answers, left bits being left. -/
def takeP (left : Nat) (n : Int) : Nat := if n < 0 ∨ 1024 < n then 1 else if (left : Int) < 8 * n then 3 else 0
def takeL (l : List UInt8) (at_ : Nat) (n : Int) : List UInt8 := if takeP (8 * l.length - at_) n = 0 then packL (nextB l at_ (8 * n.toNat)) else []
def takeAt (l : List UInt8) (at_ : Nat) (n : Int) : Nat := if takeP (8 * l.length - at_) n = 0 then at_ + 8 * n.toNat else at_

set_option maxHeartbeats 3200000 in
set_option maxRecDepth 20000 in
theorem rtake_ok (a : Option Addr) (cap : Nat) (l : List UInt8) (w : World) (g at_ : Nat) (G : Nat → Prop) (h : RR a cap l w g at_ G) (hs : Sees w a cap l) (hsn : ∀ b off, a = some ⟨b, off, none⟩ → l ≠ [] → ¬ G b) (hsl : ∀ b off, a = some ⟨b, off, none⟩ → l ≠ [] → b < w.heap.size) (hl : l.length ≤ 140737488355328) (n : Nat) (hn : n ≤ 1024) (hat : at_ + 8 * n ≤ 8 * l.length) :
    Calls Tryz.prog 107 #[.pointer (some ⟨g, 0, none⟩), .int .i64 (n : Int)] w fun e w' => ∃ d cd r, Hid (r = packL (nextB l at_ (8 * n))) ∧ e = .returned (.tuple #[.slice d r.length cd, .int .i64 0]) ∧ Sees w' d cd r ∧ Left (RR a cap l) w G g (at_ + 8 * n) w' := by
  have hlf := rleft_any a cap l w g at_ G h hl (by omega)
  obtain ⟨R, hR⟩ : ∃ R, R = 8 * l.length - at_ := ⟨_, rfl⟩
  rw [← hR] at hlf
  have hVR : 8 * n ≤ R := by omega
  have hRm : R ≤ 9223372036854775807 := by omega
  have HH : Hid (RR a cap l w g at_ G) := h
  have HS : Hid (Sees w a cap l) := hs
  have HSN : Hid (∀ b off, a = some ⟨b, off, none⟩ → l ≠ [] → ¬ G b) := hsn
  have HSL : Hid (∀ b off, a = some ⟨b, off, none⟩ → l ≠ [] → b < w.heap.size) := hsl
  clear h hs hsn hR hsl
  go_enter Tryz.func107, Tryz.ntmps107
  go_wp2_with fail
  refine hlf.mono ?_
  rintro e w1 ⟨rfl, m, hm⟩
  have HL0 : Hid (Left (RR a cap l) w G g (at_ + 8 * 0) w1) := by
    rw [hm]; exact ⟨G, (rr_kept a cap l).keep HH.out (fun _ _ => rfl), ⟨rfl, rfl, rfl, Nat.le_refl _, fun _ _ _ => rfl⟩, fun _ h => .inl h⟩
  have own0 : w1.ownsRow w.heap.size 5 1 (.slice none 0 0) ([] : List UInt8).length (([] : List UInt8).map cellOf) := World.ownsRow_nil _ _ _ _
  clear hlf hm
  go_wp2
  go_loopw [6, 7, 8, 9] (fun v i _ _ wr => ∃ (k : Nat) (acc : List UInt8) (d : Option Addr) (cd : Nat), k ≤ n ∧ i = .int .i64 k ∧ v = .slice d acc.length cd ∧ Hid (acc = packL (nextB l at_ (8 * k))) ∧ Hid (acc.length = k) ∧ wr.ownsRow w.heap.size 5 1 (.slice d acc.length cd) acc.length (acc.map cellOf) ∧
      Hid (∃ G1, RR a cap l wr g (at_ + 8 * k) G1 ∧ Apart G w wr ∧ (∀ i, G1 i → G i ∨ w.heap.size ≤ i) ∧ ∀ q, (Value.slice d acc.length cd).ownBlock = some q → ¬ G1 q)) (fun _ i _ _ _ => n - (intOf i).toNat)
  case atStart =>
    obtain ⟨G1, h1, h2, h3⟩ := HL0.out
    exact ⟨0, [], none, 0, Nat.zero_le _, rfl, rfl, by rw [show nextB l at_ (8 * 0) = [] from by simp [nextB]]; exact rfl, rfl, own0, G1, h1, h2, h3, fun q h => by simp [Value.ownBlock] at h⟩
  case round =>
    obtain ⟨k, acc, d, cd, hk, rfl, rfl, hacc, hal, own, hst⟩ := hrel
    clear HL0 own0
    by_cases hlt : k < n
    · obtain ⟨G1, hr, hap, hG1, hq⟩ := hst.out
      have hs1 := hap.sees HS.out HSN.out
      have hget := rget_ok a cap l wr g (at_ + 8 * k) G1 hr hs1 (fun b off he hne hf => by
        rcases hG1 b hf with h | h
        · exact HSN.out b off he hne h
        · have := HSL.out b off he hne; omega) hl 8 (by omega) (by omega)
      obtain ⟨N, hN⟩ : ∃ N, N = num (nextB l (at_ + 8 * k) 8) := ⟨_, rfl⟩
      rw [← hN] at hget
      have hget2 : Calls Tryz.prog 82 #[.pointer (some ⟨g, 0, none⟩), .int .i64 8] wr fun e w' => e = .returned (.tuple #[.int .u64 (N : Int), .int .i64 0]) ∧ Left (RR a cap l) wr G1 g (at_ + 8 * k + 8) w' := hget
      have hN8 : N < 256 := by
        rw [hN]
        have h1 := num_lt (nextB l (at_ + 8 * k) 8)
        have h2 : 2 ^ (nextB l (at_ + 8 * k) 8).length ≤ 2 ^ 8 := Nat.pow_le_pow_right (by omega) (nextB_len l _ 8)
        omega
      have HN : Hid (N = num (nextB l (at_ + 8 * k) 8)) := hN
      have hownlt : ∀ q, (Value.slice d acc.length cd).ownBlock = some q → q < wr.heap.size := fun q hq => (own.lt _ hq).2
      clear hget hN hst hs1
      go_wp2_with fail
      refine hget2.mono ?_
      rintro e w2 ⟨rfl, G2, hr2, hap2, hG2⟩
      have own2 : w2.ownsRow w.heap.size 5 1 (.slice d acc.length cd) acc.length (acc.map cellOf) := by
        refine ⟨own.1, ?_⟩
        rcases own.2 with h0 | ⟨q, c2, cur, he, hlow, hqq, h7⟩
        · exact .inl h0
        · refine .inr ⟨q, c2, cur, he, hlow, ?_, h7⟩
          have hob : (Value.slice d acc.length cd).ownBlock = some q := by rw [he]; rfl
          rw [hap2.block q (hownlt q hob) (hq q hob)]; exact hqq
      have hqn : ∀ q, (Value.slice d acc.length cd).ownBlock = some q → ¬ G2 q := fun q h hg => by
        rcases hG2 q hg with h1 | h1
        · exact hq q h h1
        · have := hownlt q h; omega
      obtain ⟨x, hx⟩ : ∃ x : UInt8, x = UInt8.ofNat N := ⟨_, rfl⟩
      have hxN : (x.toNat : Int) = (N : Int) := by rw [hx, UInt8.toNat_ofNat']; simp; omega
      have hsz2 : w.heap.size ≤ w2.heap.size := Nat.le_trans hap.size hap2.size
      have hsx : Sees (w2.alloc (.cells #[.int .u8 (N : Int)] 5)) (some ⟨w2.heap.size, 0, none⟩) 1 [x] := ⟨Nat.le_refl _, by unfold maxLen; simp, by simp, fun _ => ⟨_, 0, rfl, fun i y hy => by
        match i, hy with
        | 0, hy => simp at hy; subst hy; rw [hxN]; exact cell_of_row _ _ 0 _ _ _ (heap_alloc_new w2 _)
        | k + 1, hy => simp at hy⟩⟩
      have hbA : Below w2.heap.size w2 (w2.alloc (.cells #[.int .u8 (N : Int)] 5)) := (Below.refl _ _).alloc (Nat.le_refl _) _
      obtain ⟨i5, hi, hz0, hz1, hz2⟩ := info_parts Tryz.info5
      have ownA := own_keepB own2 hbA
      obtain ⟨v', w3, hrun, ho', hgr, _, hob⟩ := run_append_own_at (P := Tryz.prog) (w2.alloc (.cells #[.int .u8 (N : Int)] 5)) w.heap.size 23 23 5 i5 (.int .u8 0) 1 1 Tryz.underlying23 hi hz0 hz1 hz2 rfl (by omega) (.slice d acc.length cd) acc.length (acc.map cellOf) ownA ⟨w2.heap.size, 0, none⟩ 1 1 ([x].map cellOf) (by simp) (hsx.news _ rfl) (bytes_oneCell [x]) (by have := hal.out; unfold maxLen; omega) (by have := hal.out; omega) (by simp; omega)
      have ho3 : w3.ownsRow w.heap.size 5 1 v' (acc ++ [x]).length ((acc ++ [x]).map cellOf) := by simpa using ho'
      obtain ⟨d3, c3, rfl, _⟩ := Sees.of_own ho3
      obtain ⟨A, hA⟩ : ∃ A, A = acc ++ [x] := ⟨_, rfl⟩
      rw [← hA] at ho3 hrun hob
      have hAl : Hid (A.length = k + 1) := by rw [hA, List.length_append, hal.out]; exact rfl
      have HR : Hid ((Builtin.append_ #[23, 23] 23 #[.slice d acc.length cd, .slice (some ⟨w2.heap.size, 0, none⟩) 1 1]).run Tryz.prog (w2.alloc (.cells #[.int .u8 (N : Int)] 5)) = .ok (.slice d3 A.length c3) w3) := hrun
      have HAE : Hid (A = packL (nextB l at_ (8 * (k + 1)))) := by rw [hA, hacc.out, hx, HN.out]; exact (pack_step l at_ k (by omega)).symm
      have hsA : (w2.alloc (.cells #[.int .u8 (N : Int)] 5)).heap.size = w2.heap.size + 1 := by simp
      have HST : Hid (∃ G1, RR a cap l w3 g (at_ + 8 * (k + 1)) G1 ∧ Apart G w w3 ∧ (∀ i, G1 i → G i ∨ w.heap.size ≤ i) ∧ ∀ q, (Value.slice d3 A.length c3).ownBlock = some q → ¬ G1 q) := by
        refine ⟨G2, ?_, ?_, ?_, ?_⟩
        · rw [show at_ + 8 * (k + 1) = at_ + 8 * k + 8 by omega]
          refine (rr_kept a cap l).keep hr2 fun q hg => ?_
          have hlt2 := (rr_kept a cap l).lt hr2 q hg
          rw [hgr.block q (by omega) (fun e => hqn q e.symm hg), hbA.block q hlt2]
        · have h1 : Apart G w w2 := hap.trans hap2 hG1
          have h2 : Apart G w (w2.alloc (.cells #[.int .u8 (N : Int)] 5)) := h1.trans (Apart.of_below (F := fun _ => False) hbA) (fun _ h => h.elim)
          exact h2.grown hgr (fun q hq2 => .inr (own.lt _ hq2).1)
        · intro i hi2
          rcases hG2 i hi2 with h | h
          · exact hG1 i h
          · have := hap.size; exact .inr (by omega)
        · intro q hq2 hg
          rcases hob with h | h
          · exact hqn q (by rw [← h]; exact hq2) hg
          · rw [h] at hq2
            have h9 : q = (w2.alloc (.cells #[.int .u8 (N : Int)] 5)).heap.size := by simpa using hq2.symm
            have := (rr_kept a cap l).lt hr2 q hg
            omega
      have wN : IntKind.u8.wrap (N : Int) = (N : Int) := by rw [IntKind.wrap_u8]; omega
      clear hget2 hrun ho' hgr hob hA own own2 ownA hr2 hap2 hG2 hr hap hG1 hq hqn hsx hx hxN hacc hownlt hbA hsA
      go_wp2_with (at_builtin; refine wpList_append_run rfl _ _ 23 rfl _ _ _ rfl rfl HR.out ?_)
      go_roundw
      case rel => exact ⟨k + 1, A, d3, c3, by omega, by go_num, rfl, HAE, hAl, ho3, HST⟩
      case measure => simp [intOf]; omega
    · obtain rfl : k = n := by omega
      obtain ⟨G1, hr, hap, hG1, _⟩ := hst.out
      have HE : Hid (Left (RR a cap l) w G g (at_ + 8 * k) wr) := ⟨G1, hr, hap, hG1⟩
      obtain ⟨d2, c2, hv, hs2⟩ := Sees.of_own own
      simp only [Value.slice.injEq] at hv
      rw [← hv.1, ← hv.2.2] at hs2
      clear hr hap hG1 hv own hst
      go_wp2
      go_ret2
      exact ⟨d, cd, acc, hacc, rfl, hs2, HE.out⟩

set_option maxHeartbeats 1600000 in
set_option maxRecDepth 20000 in
theorem rtake_any (a : Option Addr) (cap : Nat) (l : List UInt8) (w : World) (g at_ : Nat) (G : Nat → Prop) (h : RR a cap l w g at_ G) (hs : Sees w a cap l) (hsn : ∀ b off, a = some ⟨b, off, none⟩ → l ≠ [] → ¬ G b) (hsl : ∀ b off, a = some ⟨b, off, none⟩ → l ≠ [] → b < w.heap.size) (hl : l.length ≤ 140737488355328) (n : Int) (hat : at_ ≤ 8 * l.length) :
    Calls Tryz.prog 107 #[.pointer (some ⟨g, 0, none⟩), .int .i64 n] w fun e w' => ∃ d cd r, Hid (r = takeL l at_ n) ∧ e = .returned (.tuple #[.slice d r.length cd, .int .i64 ((takeP (8 * l.length - at_) n : Nat) : Int)]) ∧ Sees w' d cd r ∧ Left (RR a cap l) w G g (takeAt l at_ n) w' := by
  have hsame : ∀ m, Left (RR a cap l) w G g at_ (w.drewN m) := fun m => ⟨G, (rr_kept a cap l).keep h (fun _ _ => rfl), ⟨rfl, rfl, rfl, Nat.le_refl _, fun _ _ _ => rfl⟩, fun _ h => .inl h⟩
  by_cases hbad : n < 0 ∨ 1024 < n
  · have e1 : takeP (8 * l.length - at_) n = 1 := by unfold takeP; rw [if_pos hbad]
    have e2 : takeL l at_ n = [] := by unfold takeL; rw [e1]; rfl
    have e3 : takeAt l at_ n = at_ := by unfold takeAt; rw [e1]; rfl
    rw [e1, e2, e3]
    have H0 : Hid (Left (RR a cap l) w G g at_ w) := hsame 0
    clear h hs hsn hsl e1 e2 e3 hsame
    by_cases h0 : n < 0
    · clear hbad
      go_enter Tryz.func107, Tryz.ntmps107
      go_wp2
      go_ret2
      exact ⟨none, 0, [], rfl, rfl, Sees.nil' _, H0.out⟩
    · have h64 : 1024 < n := by omega
      clear hbad
      go_enter Tryz.func107, Tryz.ntmps107
      go_wp2
      go_ret2
      exact ⟨none, 0, [], rfl, rfl, Sees.nil' _, H0.out⟩
  obtain ⟨V, rfl⟩ : ∃ V : Nat, n = (V : Int) := ⟨n.toNat, by omega⟩
  have hV : V ≤ 1024 := by omega
  by_cases hsh : ((8 * l.length - at_ : Nat) : Int) < 8 * (V : Int)
  · have e1 : takeP (8 * l.length - at_) V = 3 := by unfold takeP; rw [if_neg hbad, if_pos hsh]
    have e2 : takeL l at_ V = [] := by unfold takeL; rw [e1]; rfl
    have e3 : takeAt l at_ V = at_ := by unfold takeAt; rw [e1]; rfl
    rw [e1, e2, e3]
    have hlf := rleft_any a cap l w g at_ G h hl hat
    obtain ⟨R, hR⟩ : ∃ R, R = 8 * l.length - at_ := ⟨_, rfl⟩
    rw [← hR] at hlf hsh
    have hVR : R < 8 * V := by omega
    have hRm : R ≤ 9223372036854775807 := by omega
    have HS0 : Hid (∀ m, Left (RR a cap l) w G g at_ (w.drewN m)) := hsame
    clear h hs hsn hsl e1 e2 e3 hsame hR hsh hbad
    go_enter Tryz.func107, Tryz.ntmps107
    go_wp2_with fail
    refine hlf.mono ?_
    rintro e w1 ⟨rfl, m, rfl⟩
    clear hlf
    go_wp2
    go_ret2
    exact ⟨none, 0, [], rfl, rfl, Sees.nil' _, HS0.out m⟩
  · have e1 : takeP (8 * l.length - at_) V = 0 := by unfold takeP; rw [if_neg hbad, if_neg hsh]
    have e2 : takeL l at_ V = packL (nextB l at_ (8 * V)) := by unfold takeL; rw [if_pos e1]; rfl
    have e3 : takeAt l at_ V = at_ + 8 * V := by unfold takeAt; rw [if_pos e1]; rfl
    rw [e1, e2, e3]
    exact rtake_ok a cap l w g at_ G h hs hsn hsl hl V hV (by omega)

/-- What End answers. -/
def endP (l : List UInt8) (at_ : Nat) : Nat := if 7 < 8 * l.length - at_ then 4 else if num (nextB l at_ (8 * l.length - at_)) = 0 then 0 else 4

set_option maxHeartbeats 1600000 in
set_option maxRecDepth 20000 in
theorem rend_any (a : Option Addr) (cap : Nat) (l : List UInt8) (w : World) (g at_ : Nat) (G : Nat → Prop) (h : RR a cap l w g at_ G) (hs : Sees w a cap l) (hsl : ∀ b off, a = some ⟨b, off, none⟩ → l ≠ [] → b < w.heap.size) (hl : l.length ≤ 140737488355328) (hat : at_ ≤ 8 * l.length) :
    Calls Tryz.prog 52 #[.pointer (some ⟨g, 0, none⟩)] w fun e w' => e = .returned (.int .i64 ((endP l at_ : Nat) : Int)) ∧ Below w.heap.size w w' := by
  obtain ⟨c0, c1, _⟩ := h.cells
  have HS : Hid (Sees w a cap l) := hs
  have HSL : Hid (∀ b off, a = some ⟨b, off, none⟩ → l ≠ [] → b < w.heap.size) := hsl
  clear h hs hsl
  go_enter Tryz.func52, Tryz.ntmps52
  go_wp2
  go_region
  obtain ⟨W0, hW0⟩ : ∃ W0, W0 = (w.alloc (.cells #[.slice a l.length cap, .int .i64 (at_ : Int)] 79)).drew := ⟨_, rfl⟩
  have hB0 : Below w.heap.size w W0 := by rw [hW0]; exact ((Below.refl _ _).alloc (Nat.le_refl _) _).drew
  have hsz0 : W0.heap.size = w.heap.size + 1 := by rw [hW0]; simp
  have hr0 : RR a cap l W0 w.heap.size at_ (fun k => k = w.heap.size) := ⟨by rw [hW0]; exact heap_alloc_new w _, rfl, by rintro k rfl; omega⟩
  rw [← hW0]
  have hlf := rleft_any a cap l W0 w.heap.size at_ _ hr0 hl hat
  obtain ⟨R, hR⟩ : ∃ R, R = 8 * l.length - at_ := ⟨_, rfl⟩
  rw [← hR] at hlf
  have HR : Hid (R = 8 * l.length - at_) := hR
  have hRm : R ≤ 9223372036854775807 := by omega
  clear hW0 c0 c1 hR
  go_wp2_with fail
  refine hlf.mono ?_
  rintro e w1 ⟨rfl, m1, hw1⟩
  have hr1 : RR a cap l w1 w.heap.size at_ (fun k => k = w.heap.size) := by rw [hw1]; exact (rr_kept a cap l).keep hr0 (fun _ _ => rfl)
  have hB1 : Below w.heap.size w w1 := by rw [hw1]; exact ⟨hB0.os, hB0.tape, hB0.output, hB0.size, hB0.block⟩
  clear hlf hw1 hr0 hB0 hsz0
  by_cases h7 : 7 < R
  · have e1 : endP l at_ = 4 := by unfold endP; rw [if_pos (by rw [← HR.out]; exact h7)]
    have HE1 : Hid (endP l at_ = 4) := e1
    clear e1 hr1
    go_wp2
    go_ret
    exact ⟨by rw [HE1.out]; rfl, hB1⟩
  · have hlf2 := rleft_any a cap l w1 w.heap.size at_ _ hr1 hl hat
    rw [← HR.out] at hlf2
    go_wp2_with fail
    refine hlf2.mono ?_
    rintro e w2 ⟨rfl, m2, hw2⟩
    have hr2 : RR a cap l w2 w.heap.size at_ (fun k => k = w.heap.size) := by rw [hw2]; exact (rr_kept a cap l).keep hr1 (fun _ _ => rfl)
    have hB2 : Below w.heap.size w w2 := by rw [hw2]; exact ⟨hB1.os, hB1.tape, hB1.output, hB1.size, hB1.block⟩
    have hget := rget_ok a cap l w2 w.heap.size at_ _ hr2 (HS.out.below hB2) (fun b off he hne hf => by have := HSL.out b off he hne; omega) hl R (by omega) (by have := HR.out; omega)
    obtain ⟨Z, hZ⟩ : ∃ Z, Z = num (nextB l at_ R) := ⟨_, rfl⟩
    rw [← hZ] at hget
    have HZ : Hid (Z = num (nextB l at_ R)) := hZ
    clear hlf2 hw2 hr1 hB1 hZ
    go_wp2_with fail
    refine hget.mono ?_
    rintro e w3 ⟨rfl, hL3⟩
    have hB3 := hL3.below hB2 (by rintro k rfl; exact Nat.le_refl _) hB2.size
    clear hget hr2 hL3
    by_cases hz : Z = 0
    · have e1 : endP l at_ = 0 := by unfold endP; rw [if_neg (by rw [← HR.out]; exact h7), if_pos (by rw [← HR.out, ← HZ.out]; exact hz)]
      have HE1 : Hid (endP l at_ = 0) := e1
      clear e1 HZ
      subst hz
      go_wp2
      go_ret
      exact ⟨by rw [HE1.out]; rfl, hB3⟩
    · have e1 : endP l at_ = 4 := by unfold endP; rw [if_neg (by rw [← HR.out]; exact h7), if_neg (by rw [← HR.out, ← HZ.out]; exact hz)]
      have HE1 : Hid (endP l at_ = 4) := e1
      clear e1
      go_wp2
      go_ret
      exact ⟨by rw [HE1.out]; rfl, hB3⟩
end Go.Proofs.YtaihjnaggmmiiaaGreatDoor
