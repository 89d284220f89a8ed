/-
  The document's reader: its Left and Get.
-/
import Derived.Test.YtoggjpkbbncbbaaBitsRefD
namespace Go.Proofs.Ytoggjpkbbncbbaa
open Go.ChangeShapes Go.WideShapes Go.ChangeAt Go.RowKit

/-- The document's reader at block g: of the slice a, l.length, cap; the next bit. -/
def RR (a : Option Addr) (cap : Nat) (l : List UInt8) (w : World) (g : Nat) (at_ : Nat) (G : Nat → Prop) : Prop :=
  w.heap[g]? = some (.cells #[.slice a l.length cap, .int .i64 (at_ : Int)] 72 (0, 0)) ∧ G g ∧ ∀ k, G k → k < w.heap.size
theorem rr_kept (a : Option Addr) (cap : Nat) (l : List UInt8) : Kept (RR a cap l) where
  lt := fun ⟨_, _, h⟩ => h
  keep := fun {w w' b s F} ⟨h1, h2, h3⟩ hk => ⟨(hk b h2).trans h1, h2, fun k hF => by
    have h8 : w'.heap[k]? = some (w.heap[k]'(h3 k hF)) := by rw [hk k hF]; simp [h3 k hF]
    exact (Array.getElem?_eq_some_iff.1 h8).1⟩
theorem RR.cells {a : Option Addr} {cap : Nat} {l : List UInt8} {w : World} {g at_ : Nat} {G : Nat → Prop} (h : RR a cap l w g at_ G) : w.cell? ⟨g, 0, none⟩ = some (.slice a l.length cap) ∧ w.cell? ⟨g, 1, none⟩ = some (.int .i64 (at_ : Int)) ∧ w.frozen? ⟨g, 1, none⟩ = false :=
  ⟨cell_of_row _ _ 0 _ _ _ h.1, cell_of_row _ _ 1 _ _ _ h.1, frozen_of_row _ _ 1 _ _ h.1⟩
/-- The next bit is set. -/
theorem RR.moved {a : Option Addr} {cap : Nat} {l : List UInt8} {w : World} {g at_ : Nat} {G : Nat → Prop} (h : RR a cap l w g at_ G) (m : Nat) : RR a cap l (w.setCell ⟨g, 1, none⟩ (.int .i64 (m : Int))) g m G :=
  ⟨by rw [heap_setCell_same _ _ _ _ _ _ h.1]; rfl, h.2.1, fun k hk => by simpa using h.2.2 k hk⟩

set_option maxHeartbeats 800000 in
set_option maxRecDepth 20000 in
theorem rleft_any (a : Option Addr) (cap : Nat) (l : List UInt8) (w : World) (g at_ : Nat) (G : Nat → Prop) (h : RR a cap l w g at_ G) (hl : l.length ≤ 140737488355328) (hat : at_ ≤ 8 * l.length) :
    Calls Try.prog 65 #[.pointer (some ⟨g, 0, none⟩)] w fun e w' => e = .returned (.int .i64 ((8 * l.length - at_ : Nat) : Int)) ∧ ∃ m, w' = w.drewN m := by
  obtain ⟨c0, c1, _⟩ := h.cells
  have e1 : 8 * (l.length : Int) - (at_ : Int) = ((8 * l.length - at_ : Nat) : Int) := by omega
  obtain ⟨R, hR⟩ : ∃ R, R = 8 * l.length - at_ := ⟨_, rfl⟩
  rw [← hR] at e1 ⊢
  clear hR h
  go_enter Try.func65, Try.ntmps65
  go_wp2
  go_quiet (fail)
  go_wp2
  go_ret
  exact ⟨rfl, _, rfl⟩

theorem or_bit (N : Nat) (b : Bool) (h : N < 9223372036854775808) : bits .or .u64 (((2 * N : Nat)) : Int) (b.toNat : Int) = ((2 * N + b.toNat : Nat) : Int) := by
  have hb : b.toNat < 2 := by cases b <;> simp
  have h1 := u64_or_nat (2 * N) b.toNat (by omega) (by omega)
  rw [h1]
  congr 1
  have h2 := Nat.shiftLeft_add_eq_or_of_lt (a := N) (i := 1) (b := b.toNat) (by omega)
  rw [Nat.shiftLeft_eq, Nat.pow_one, Nat.mul_comm] at h2
  exact h2.symm
theorem and_one8 (n : Nat) (h : n < 256) : bits .and .u8 (n : Int) 1 = ((n % 2 : Nat) : Int) := by
  have := u8_and_nat n 1 h (by omega)
  rw [Nat.and_one_is_mod] at this
  exact this
theorem bit_mod (n j : Nat) : n / 2 ^ j % 2 = (n.testBit j).toNat := by
  rw [Nat.testBit_eq_decide_div_mod_eq]
  rcases Nat.mod_two_eq_zero_or_one (n / 2 ^ j) with h | h <;> simp [h]

/-- The bits that come next. -/
def nextB (l : List UInt8) (at_ k : Nat) : List Bool := ((bitsOf l).drop at_).take k
theorem nextB_snoc (l : List UInt8) (at_ k : Nat) (t : Bool) (h : (bitsOf l)[at_ + k]? = some t) : nextB l at_ (k + 1) = nextB l at_ k ++ [t] := by
  unfold nextB
  rw [List.take_add_one, List.getElem?_drop, h]; rfl
theorem nextB_len (l : List UInt8) (at_ k : Nat) : (nextB l at_ k).length ≤ k := by unfold nextB; rw [List.length_take]; omega

set_option maxHeartbeats 3200000 in
set_option maxRecDepth 20000 in
theorem rget_ok (a : Option Addr) (cap : Nat) (l : List UInt8) (w : World) (g at_ : Nat) (G : Nat → Prop) (h : RR a cap l w g at_ G) (hs : Sees w a cap l) (hsn : ∀ b off, a = some ⟨b, off, none⟩ → l ≠ [] → ¬ G b) (hl : l.length ≤ 140737488355328) (V : Nat) (hV : V ≤ 64) (hat : at_ + V ≤ 8 * l.length) :
    Calls Try.prog 66 #[.pointer (some ⟨g, 0, none⟩), .int .i64 (V : Int)] w fun e w' => e = .returned (.tuple #[.int .u64 ((num (nextB l at_ V) : Nat) : Int), .int .i64 0]) ∧ Left (RR a cap l) w G g (at_ + V) w' := by
  have hlf := rleft_any a cap l w g at_ G h hl (by omega)
  obtain ⟨R, hR⟩ : ∃ R, R = 8 * l.length - at_ := ⟨_, rfl⟩
  rw [← hR] at hlf
  have hVR : V ≤ R := by omega
  have hRm : R ≤ 9223372036854775807 := by omega
  have dW0 : decide ((V : Int) < 0) = false := by simp
  have dW64 : decide ((64 : Int) < (V : Int)) = false := by simp; omega
  have HH : Hid (RR a cap l w g at_ G) := h
  have HS : Hid (Sees w a cap l) := hs
  have HSN : Hid (∀ b off, a = some ⟨b, off, none⟩ → l ≠ [] → ¬ G b) := hsn
  clear h hs hsn hR
  go_enter Try.func66, Try.ntmps66
  go_wp2_with fail
  refine hlf.mono ?_
  rintro e w1 ⟨rfl, m, hm⟩
  have HL0 : Hid (Left (RR a cap l) w G g (at_ + 0) w1) := by
    rw [hm]; exact ⟨G, (rr_kept a cap l).keep HH.out (fun _ _ => rfl), ⟨rfl, rfl, rfl, Nat.le_refl _, fun _ _ _ => rfl⟩, fun _ h => .inl h⟩
  clear hlf hm
  go_wp2
  go_loopw [6, 7] (fun nv i wr => ∃ k : Nat, k ≤ V ∧ i = .int .i64 k ∧ nv = .int .u64 ((num (nextB l at_ k) : Nat) : Int) ∧ Left (RR a cap l) w G g (at_ + k) wr) (fun _ i _ => V - (intOf i).toNat)
  case atStart => exact ⟨0, Nat.zero_le _, rfl, by simp [nextB, num], HL0.out⟩
  case round =>
    obtain ⟨k, hk, rfl, rfl, G1, hr, hap, hG1⟩ := hrel
    clear HL0
    by_cases hlt : k < V
    · obtain ⟨c0, c1, f1⟩ := hr.cells
      obtain ⟨p, hp⟩ : ∃ p, p = at_ + k := ⟨_, rfl⟩
      rw [← hp] at c1 hr
      obtain ⟨q, hq⟩ : ∃ q, q = p / 8 := ⟨_, rfl⟩
      obtain ⟨r, hr8⟩ : ∃ r, r = p % 8 := ⟨_, rfl⟩
      obtain ⟨s, hs⟩ : ∃ s, s = 7 - r := ⟨_, rfl⟩
      have hql : q < l.length := by omega
      obtain ⟨x, hx⟩ : ∃ x, l[q]? = some x := ⟨l[q], by simp [hql]⟩
      obtain ⟨b1, o1, rfl, hc1⟩ := (hap.sees HS.out HSN.out).get hx
      obtain ⟨t, ht⟩ : ∃ t, t = x.toNat.testBit s := ⟨_, rfl⟩
      have hbit : (bitsOf l)[at_ + k]? = some t := by rw [ht, hs, hr8, ← hp]; exact bits_at l p x (by rw [← hq]; exact hx)
      obtain ⟨N, hN⟩ : ∃ N, N = num (nextB l at_ k) := ⟨_, rfl⟩
      have hNlt : N < 9223372036854775808 := by
        rw [hN]
        have h1 := num_lt (nextB l at_ k)
        have h2 : 2 ^ (nextB l at_ k).length ≤ 2 ^ 63 := Nat.pow_le_pow_right (by omega) (by have := nextB_len l at_ k; omega)
        omega
      have hnext : num (nextB l at_ (k + 1)) = 2 * N + t.toNat := by rw [nextB_snoc l at_ k t hbit, num_snoc, hN]
      obtain ⟨N2, hN2⟩ : ∃ N2, N2 = 2 * N + t.toNat := ⟨_, rfl⟩
      obtain ⟨tn, htn⟩ : ∃ tn, tn = t.toNat := ⟨_, rfl⟩
      have htn2 : tn < 2 := by rw [htn]; cases t <;> simp
      have eand : bits .and .u8 ((x.toNat : Int) / 2 ^ s) 1 = (tn : Int) := by
        have h1 := and_one8 (x.toNat / 2 ^ s) (Nat.lt_of_le_of_lt (Nat.div_le_self _ _) (toNat_lt256 x))
        rw [bit_mod, ← ht, ← htn] at h1
        simpa using h1
      have eor : bits .or .u64 ((N : Int) * 2) (tn : Int) = (N2 : Int) := by
        have h1 := or_bit N t hNlt
        rw [← hN2, ← htn] at h1
        rw [← h1]; congr 1; omega
      have wtn : IntKind.u64.wrap (tn : Int) = (tn : Int) := by rw [IntKind.wrap_u64]; omega
      have wN : IntKind.u64.wrap ((N : Int) * 2) = (N : Int) * 2 := by rw [IntKind.wrap_u64]; omega
      have HEND : Hid (∀ m, Left (RR (some ⟨b1, o1, none⟩) cap l) w G g (at_ + (k + 1)) ((wr.drewN m).setCell ⟨g, 1, none⟩ (.int .i64 ((p + 1 : Nat) : Int)))) := fun m => by
        refine ⟨G1, ?_, ?_, hG1⟩
        · rw [show at_ + (k + 1) = p + 1 by omega]
          exact RR.moved ((rr_kept _ cap l).keep hr (w' := wr.drewN m) (fun _ _ => rfl)) (p + 1)
        · have h1 : Apart G w (wr.drewN m) := ⟨hap.os, hap.tape, hap.output, hap.size, hap.block⟩
          exact h1.setCell (hG1 g hr.2.1) 1 _
      have HNX : Hid (num (nextB l at_ (k + 1)) = N2) := by rw [hnext, hN2]; exact rfl
      have q1 : (p : Int) / 8 = (q : Int) := by omega
      have q2 : (p : Int).tdiv 8 = (q : Int) := by rw [Int.tdiv_eq_ediv_of_nonneg (by omega)]; exact q1
      have r1 : (p : Int) % 8 = (r : Int) := by omega
      have r2 : (p : Int).tmod 8 = (r : Int) := by rw [Int.tmod_eq_emod_of_nonneg (by omega)]; exact r1
      have s1 : 7 - (r : Int) = (s : Int) := by omega
      have s2 : IntKind.i64.wrap (7 - (r : Int)) = (s : Int) := by rw [IntKind.wrap_i64]; omega
      have gq0 : (0 : Int) ≤ (q : Int) := Int.natCast_nonneg _
      have gq1 : (q : Int) < (l.length : Int) := by omega
      have gs0 : (0 : Int) ≤ (s : Int) := Int.natCast_nonneg _
      have hp2 : p + 1 ≤ 9223372036854775807 := by omega
      have hs8 : s < 8 := by omega
      have hmin : min s 8 = s := by omega
      rw [← hN]
      clear hr hap hG1 hp hq hr8 hs hx ht hbit hN hnext hN2 htn hNlt
      go_wp2
      go_quiet (fail)
      go_wp2
      go_roundw
      case rel => exact ⟨k + 1, by omega, by go_num, by rw [HNX.out], HEND.out _⟩
      case measure => simp [intOf]; omega
    · obtain rfl : k = V := by omega
      have HE : Hid (Left (RR a cap l) w G g (at_ + k) wr) := ⟨G1, hr, hap, hG1⟩
      clear hr hap hG1
      go_wp2
      go_ret2
      exact ⟨rfl, HE.out⟩
end Go.Proofs.Ytoggjpkbbncbbaa
