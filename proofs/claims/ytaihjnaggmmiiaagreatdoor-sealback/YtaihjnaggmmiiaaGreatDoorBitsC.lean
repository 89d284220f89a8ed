/-
  What package bits must say of a writer, as a proposition.

  Bits that lie in one byte: taken as a number, and put. No program here.

  The contract of row.number.

  The contract of slices.Grow over bytes.

  The contract of row.part.
-/
import Derived.Test.YtaihjnaggmmiiaaGreatDoorBitsA
import Derived.Test.YtaihjnaggmmiiaaGreatDoorGround
import Derived.Test.YtaihjnaggmmiiaaGreatDoorBitsB
import Derived.Lib.AppendZeros
namespace Go.Proofs.YtaihjnaggmmiiaaGreatDoor
open Go.ChangeShapes Go.WideShapes Go.ChangeAt Go.RowKit

structure WrSpec (M : World → Nat → List Bool → (Nat → Prop) → Prop) : Prop where
  kept : Kept M
  new : ∀ w : World, Calls Tryz.prog 30 #[] w fun e w' => ∃ b F, e = .returned (.pointer (some ⟨b, 0, none⟩)) ∧ M w' b [] F ∧ Below w.heap.size w w' ∧ ∀ k, F k → w.heap.size ≤ k
  put : ∀ (w : World) (b : Nat) (bs : List Bool) (F : Nat → Prop) (n : Nat) (W : Int), M w b bs F → n < 18446744073709551616 → bs.length ≤ 8192 →
    Calls Tryz.prog 86 #[.pointer (some ⟨b, 0, none⟩), .int .u64 (n : Int), .int .i64 W] w fun e w' => e = .returned (.int .i64 (putP bs.length n W : Nat)) ∧ Left M w F b (putB bs n W) w'
  bytes : ∀ (w : World) (b : Nat) (bs : List Bool) (F : Nat → Prop) (x : Option Addr) (cx : Nat) (l : List UInt8), M w b bs F → Sees w x cx l → (∀ b off, x = some ⟨b, off, none⟩ → l ≠ [] → ¬ F b) → bs.length ≤ 8192 →
    Calls Tryz.prog 87 #[.pointer (some ⟨b, 0, none⟩), .slice x l.length cx] w fun e w' => e = .returned (.int .i64 (bytesP bs.length l.length : Nat)) ∧ Left M w F b (bytesB bs l) w'
  len : ∀ (w : World) (b : Nat) (bs : List Bool) (F : Nat → Prop), M w b bs F → Calls Tryz.prog 42 #[.pointer (some ⟨b, 0, none⟩)] w fun e w' => e = .returned (.int .i64 (bs.length : Int)) ∧ Below w.heap.size w w'
  done : ∀ (w : World) (b : Nat) (bs : List Bool) (F : Nat → Prop), M w b bs F → bs.length ≤ 8192 →
    Calls Tryz.prog 34 #[.pointer (some ⟨b, 0, none⟩)] w fun e w' => ∃ d cd r, Hid (r = packL bs) ∧ e = .returned (.slice d r.length cd) ∧ Sees w' d cd r ∧ Below w.heap.size w w'

theorem putB_len (bs : List Bool) (n : Nat) (W : Int) (h : bs.length ≤ 8192) : (putB bs n W).length ≤ 8192 := by
  unfold putB
  by_cases h0 : putP bs.length n W = 0
  · rw [if_pos h0, List.length_append, bitsN_length]
    unfold putP at h0
    by_cases h1 : W < 0 ∨ 64 < W ∨ ¬ n < 2 ^ W.toNat
    · rw [if_pos h1] at h0; cases h0
    · rw [if_neg h1] at h0
      by_cases h2 : 8192 < bs.length + W.toNat
      · rw [if_pos h2] at h0; cases h0
      · omega
  · rw [if_neg h0]; exact h
theorem bytesB_len (bs : List Bool) (l : List UInt8) (h : bs.length ≤ 8192) : (bytesB bs l).length ≤ 8192 := by
  unfold bytesB
  by_cases h0 : bytesP bs.length l.length = 0
  · rw [if_pos h0, List.length_append, bitsOf_length]
    unfold bytesP at h0
    by_cases h1 : 1024 < l.length ∨ 8192 < bs.length + 8 * l.length
    · rw [if_pos h1] at h0; cases h0
    · omega
  · rw [if_neg h0]; exact h

def BawakeOk : Prop := ∀ w : World, Calls Tryz.prog 28 #[] w fun e w' => e = .returned (.bool true) ∧ Below w.heap.size w w'
end Go.Proofs.YtaihjnaggmmiiaaGreatDoor

namespace Go.Proofs.YtaihjnaggmmiiaaGreatDoor
open Go.ChangeShapes Go.WideShapes Go.ChangeAt Go.RowKit

theorem bitsN_drop (n : Nat) : ∀ (w u : Nat), (bitsN n w).drop u = bitsN n (w - u)
  | w, 0 => rfl
  | 0, u + 1 => by simp [bitsN]
  | w + 1, u + 1 => by rw [bitsN, List.drop_succ_cons, bitsN_drop n w u]; congr 1; omega
theorem bitsN_first (n : Nat) : ∀ (w s : Nat), s ≤ w → (bitsN n w).take s = bitsN (n / 2 ^ (w - s)) s
  | w, 0, _ => by simp [bitsN]
  | 0, s + 1, h => by omega
  | w + 1, s + 1, h => by
    rw [bitsN, List.take_succ_cons, bitsN_first n w s (by omega), bitsN, Nat.testBit_div_two_pow]
    congr 2
    · congr 1; omega
    · congr 2; omega
theorem num_app (l m : List Bool) : num (l ++ m) = num l * 2 ^ m.length + num m := by
  have h1 := num_foldl m (num l)
  rw [← h1]; unfold num; rw [List.foldl_append]

/-- s bits of a byte, from the place u on. -/
theorem byte_mid (x u s : Nat) (h : u + s ≤ 8) : (x * 2 ^ u % 256) / 2 ^ (8 - s) = x / 2 ^ (8 - u - s) % 2 ^ s := by
  have e1 : 256 = 2 ^ (8 - u) * 2 ^ u := by rw [← Nat.pow_add, Nat.sub_add_cancel (by omega)]
  have e2 : 2 ^ (8 - s) = 2 ^ (8 - u - s) * 2 ^ u := by rw [← Nat.pow_add]; congr 1; omega
  have e3 : 2 ^ (8 - u) = 2 ^ (8 - u - s) * 2 ^ s := by rw [← Nat.pow_add]; congr 1; omega
  rw [e1, Nat.mul_mod_mul_right, e2, Nat.mul_div_mul_right _ _ (Nat.two_pow_pos u), e3, Nat.mod_mul_right_div_self]
theorem nextB_byte (l : List UInt8) (p s : Nat) (x : UInt8) (hx : l[p / 8]? = some x) (h : p % 8 + s ≤ 8) : num (nextB l p s) = (x.toNat * 2 ^ (p % 8) % 256) / 2 ^ (8 - s) := by
  have hq : p / 8 < l.length := (List.getElem?_eq_some_iff.1 hx).1
  have e1 : nextB l p s = ((bitsU x).drop (p % 8)).take s := by
    have e2 : bitsOf l = bitsOf (l.take (p / 8)) ++ (bitsU x ++ bitsOf (l.drop (p / 8 + 1))) := by
      have e0 : l.drop (p / 8) = x :: l.drop (p / 8 + 1) := by rw [List.drop_eq_getElem_cons hq, (List.getElem?_eq_some_iff.1 hx).2]
      have e3 : l = l.take (p / 8) ++ x :: l.drop (p / 8 + 1) := by rw [← e0, List.take_append_drop]
      conv => lhs; rw [e3]
      rw [bitsOf_app]; rfl
    have e4 : (bitsOf (l.take (p / 8))).length = 8 * (p / 8) := by rw [bitsOf_length, List.length_take, Nat.min_eq_left (by omega)]
    unfold nextB
    rw [e2, List.drop_append, List.drop_eq_nil_of_le (by rw [e4]; omega), List.nil_append, e4, show p - 8 * (p / 8) = p % 8 by omega, List.drop_append_of_le_length (by rw [bitsU_length]; omega), List.take_append_of_le_length (by rw [List.length_drop, bitsU_length]; omega)]
  rw [e1, ← bitsN_byte, bitsN_drop, bitsN_first _ _ _ (by omega), num_bitsN, byte_mid _ _ _ h]
end Go.Proofs.YtaihjnaggmmiiaaGreatDoor

namespace Go.Proofs.YtaihjnaggmmiiaaGreatDoor
open Go.ChangeShapes Go.WideShapes Go.ChangeAt Go.RowKit

set_option maxHeartbeats 3200000 in
set_option maxRecDepth 20000 in
theorem number_ok (l : List UInt8) (w : World) (b : Nat) (d : Option Addr) (cd : Nat) (hc : w.cell? ⟨b, 1, none⟩ = some (.slice d l.length cd)) (hs : Sees w d cd l) (hl : l.length ≤ 140737488355328) (A V : Nat) (hV : V ≤ 64) (hat : A + V ≤ 8 * l.length) :
    Calls Tryz.prog 93 #[.pointer (some ⟨b, 0, none⟩), .int .i64 (A : Int), .int .i64 (V : Int)] w fun e w' => e = .returned (.int .u64 ((num (nextB l A V) : Nat) : Int)) ∧ ∃ m, w' = w.drewN m := by
  have HS : Hid (Sees w d cd l) := hs
  have HA : Hid (A + V ≤ 8 * l.length) := hat
  have hA : A ≤ 1125899906842624 := by omega
  clear hs hat
  go_enter Tryz.func93, Tryz.ntmps93
  go_wp2
  go_loopw [1, 2, 7, 8, 9] (fun a v n _ _ wr => ∃ k : Nat, k ≤ V ∧ a = .int .i64 ((A + k : Nat) : Int) ∧ v = .int .i64 ((V - k : Nat) : Int) ∧ n = .int .u64 ((num (nextB l A k) : Nat) : Int) ∧ ∃ m, wr = w.drewN m) (fun _ v _ _ _ _ => (intOf v).toNat)
  case atStart => exact ⟨0, Nat.zero_le _, rfl, rfl, by simp [nextB, num], 0, rfl⟩
  case round =>
    obtain ⟨k, hk, rfl, rfl, rfl, m, rfl⟩ := hrel
    by_cases hlt : k < V
    · obtain ⟨p, hp⟩ : ∃ p, p = A + k := ⟨_, rfl⟩
      obtain ⟨v, hv⟩ : ∃ v, v = V - k := ⟨_, rfl⟩
      obtain ⟨q, hq⟩ : ∃ q, q = p / 8 := ⟨_, rfl⟩
      obtain ⟨u, hu⟩ : ∃ u, u = p % 8 := ⟨_, rfl⟩
      obtain ⟨y, hy⟩ : ∃ y, y = 8 - u := ⟨_, rfl⟩
      obtain ⟨s, hs⟩ : ∃ s, s = min y v := ⟨_, rfl⟩
      obtain ⟨t, ht⟩ : ∃ t, t = 8 - s := ⟨_, rfl⟩
      have hql : q < l.length := by have := HA.out; omega
      obtain ⟨x, hx⟩ : ∃ x, l[q]? = some x := ⟨l[q], by simp [hql]⟩
      obtain ⟨b1, o1, rfl, hc1⟩ := HS.out.get hx
      obtain ⟨N, hN⟩ : ∃ N, N = num (nextB l A k) := ⟨_, rfl⟩
      obtain ⟨T, hT⟩ : ∃ T, T = num (nextB l p s) := ⟨_, rfl⟩
      rw [← hN, ← hp, ← hv]
      have hsv : s ≤ v := by omega
      have hs8 : s ≤ 8 := by omega
      have hs0 : 0 < s := by omega
      have hTb : T = (x.toNat * 2 ^ u % 256) / 2 ^ t := by rw [hT, hu, ht]; exact nextB_byte l p s x (by rw [← hq]; exact hx) (by omega)
      have hTl : T < 2 ^ s := by
        rw [hT]
        refine Nat.lt_of_lt_of_le (num_lt _) (Nat.pow_le_pow_right (by omega) (nextB_len l p s))
      have hps : p + s ≤ 8 * l.length := by have := HA.out; omega
      have hnext : num (nextB l A (k + s)) = N * 2 ^ s + T := by
        rw [nextB_add, num_app, nextB_length l (A + k) s (by rw [← hp]; exact hps), ← hN, ← hp, ← hT]
      have hNl : N * 2 ^ s + T < 18446744073709551616 := by
        rw [← hnext]
        have h1 := num_lt (nextB l A (k + s))
        have h2 : 2 ^ (nextB l A (k + s)).length ≤ 2 ^ 64 := Nat.pow_le_pow_right (by omega) (by have := nextB_len l A (k + s); omega)
        omega
      obtain ⟨M, hM⟩ : ∃ M, M = N * 2 ^ s := ⟨_, rfl⟩
      obtain ⟨N2, hN2⟩ : ∃ N2, N2 = M + T := ⟨_, rfl⟩
      have hM1 : (N : Int) * 2 ^ s = (M : Int) := by rw [hM]; simp
      have wN : IntKind.u64.wrap ((N : Int) * 2 ^ s) = (M : Int) := by rw [hM1, IntKind.wrap_u64]; omega
      obtain ⟨X, hX⟩ : ∃ X, X = x.toNat * 2 ^ u % 256 := ⟨_, rfl⟩
      have wX : IntKind.u8.wrap ((x.toNat : Int) * 2 ^ u) = (X : Int) := by
        have h1 : (x.toNat : Int) * 2 ^ u = ((x.toNat * 2 ^ u : Nat) : Int) := by simp
        rw [h1, IntKind.wrap_u8, hX]; omega
      have dT : (X : Int) / 2 ^ t = (T : Int) := by
        have h1 : (X : Int) / 2 ^ t = ((X / 2 ^ t : Nat) : Int) := by simp
        rw [h1, hX, ← hTb]
      have eor : bits .or .u64 (M : Int) (T : Int) = (N2 : Int) := by
        rw [u64_or_nat M T (by omega) (by omega), hN2, hM]
        congr 1
        have h2 := Nat.shiftLeft_add_eq_or_of_lt (a := N) (i := s) (b := T) hTl
        rw [Nat.shiftLeft_eq] at h2
        exact h2.symm
      have wT : IntKind.u64.wrap (T : Int) = (T : Int) := by rw [IntKind.wrap_u64]; omega
      have q1 : (p : Int) / 8 = (q : Int) := by omega
      have q2 : (p : Int).tdiv 8 = (q : Int) := by rw [Int.tdiv_eq_ediv_of_nonneg (by omega)]; exact q1
      have u1 : (p : Int) % 8 = (u : Int) := by omega
      have u2 : (p : Int).tmod 8 = (u : Int) := by rw [Int.tmod_eq_emod_of_nonneg (by omega)]; exact u1
      have y1 : 8 - (u : Int) = (y : Int) := by omega
      have y2 : IntKind.i64.wrap (8 - (u : Int)) = (y : Int) := by rw [IntKind.wrap_i64]; omega
      have t1 : 8 - (s : Int) = (t : Int) := by omega
      have t2 : IntKind.i64.wrap (8 - (s : Int)) = (t : Int) := by rw [IntKind.wrap_i64]; omega
      have hv64 : v ≤ 64 := by omega
      have hpm : p ≤ 1125899906842700 := by omega
      have hv0 : 0 < v := by omega
      have hu8 : u < 8 := by omega
      have m1 : min s 64 = s := by omega
      have m2 : min u 8 = u := by omega
      have m3 : min t 8 = t := by omega
      have gq0 : (0 : Int) ≤ (q : Int) := Int.natCast_nonneg _
      have gq1 : (q : Int) < (l.length : Int) := by omega
      have HNX : Hid (num (nextB l A (k + s)) = N2) := by rw [hnext, hN2, hM]; exact rfl
      have HP : Hid (p = A + k ∧ v = V - k) := ⟨hp, hv⟩
      have hsc : s = y ∧ y ≤ v ∨ s = v ∧ ¬ y ≤ v := by omega
      clear hp hv hq hu hy hs ht hx hN hT hTb hTl hps hnext hNl hM hN2 hX hM1 hk hlt
      rcases hsc with ⟨rfl, hyv⟩ | ⟨rfl, hyv⟩
      all_goals
        go_wp2
        go_quiet (fail)
        go_wp2
        go_roundw
        case rel =>
          have h1 := HP.out
          exact ⟨k + s, by omega, by first | go_num | (congr 1; omega), by first | go_num | (congr 1; omega), by rw [HNX.out], _, rfl⟩
        case measure => simp [intOf]; omega
    · obtain rfl : k = V := by omega
      have hz : k - k = 0 := by omega
      rw [hz]
      go_wp2
      go_ret
      exact ⟨rfl, _, rfl⟩
end Go.Proofs.YtaihjnaggmmiiaaGreatDoor

namespace Go.Proofs.YtaihjnaggmmiiaaGreatDoor
open Go.ChangeShapes Go.WideShapes Go.ChangeAt Go.RowKit

/-- append(s, make([]T, n)...), past the room of s. -/
theorem run_append_grow_zeros {P : Program} (w : World) (t tn ty e : TypeId) (i : TypeInfo) (z : Value) (k kn : IntKind) (ht : P.underlying t = some (.slice e)) (htn : P.underlying tn = some (.int kn)) (hi : P.info? e = some i) (hz : i.zero = some z)
    (b : Addr) (sLen sCap : Nat) (olds : List Value) (hlo : olds.length = sLen * i.size) (holds : ∀ j v, olds[j]? = some v → w.cell? (b.add j) = some v) (n : Nat) (hs : 0 < i.size)
    (hg : sCap < sLen + n) (h0 : 0 < n) (h63 : ((sLen + n : Nat) : Int) ≤ 9223372036854775807) (h48 : n * i.bytes ≤ 281474976710656) (hfit : Builtin.nextslicecap (sLen + n) sCap * i.bytes ≤ 281474976710656) :
    (Builtin.append_ #[t, tn] ty #[.slice (some b) sLen sCap, .int k n]).run P w =
      .ok (.slice (some ⟨w.heap.size, 0, none⟩) (sLen + n) (grownCap w (sLen + n) sCap e))
        (w.drew.alloc (.cells (olds.toArray ++ Builtin.zeroCells z.cells n ++ Builtin.zeroCells z.cells (grownCap w (sLen + n) sCap e - (sLen + n))) e)) := by
  have hn : ¬ (sLen + n ≤ sCap) := by omega
  have hw : IntKind.i64.wrap (n : Int) = n := by rw [IntKind.wrap_i64]; omega
  have h63' : ¬ (9223372036854775807 < ((sLen : Int) + (n : Int))) := by omega
  have h48' : ¬ (281474976710656 < Builtin.nextslicecap (sLen + n) sCap * i.bytes) := by omega
  have h48i : ¬ (281474976710656 < (n : Int) * (i.bytes : Int)) := by rw [← Int.natCast_mul]; omega
  have hneg : ¬ ((n : Int) < 0) := by omega
  have hns : ¬ (n * i.size = 0) := Nat.mul_ne_zero (by omega) (by omega)
  have hfo := run_firstCells_some (P := P) w.drew i.size sLen b sLen sCap olds hlo (by simpa using holds)
  simp [Builtin.append_, run_underlying ht, run_underlying htn, sizeOf, typeInfo, zeroValue, hi, hz, asInt, asIntOf, hw, hneg, hns, hn, h63', h48', h48i, Question.forced, hfo, newRow, grownCap]

/-- The slice v of l's bytes has room for m more. -/
def Roomy (w : World) (v : Value) (l : List UInt8) (m : Nat) : Prop :=
  (v = .slice none 0 0 ∧ l = [] ∧ m = 0) ∨ ∃ g cap cur, v = .slice (some ⟨g, 0, none⟩) l.length cap ∧ w.heap[g]? = some (.cells cur 5 (0, 0)) ∧ l.length + m ≤ cap ∧ cap ≤ maxLen ∧ cur.size = cap ∧ cur.toList.take l.length = l.map cellOf

set_option maxHeartbeats 1600000 in
set_option maxRecDepth 20000 in
theorem grow_ok (w : World) (base : Nat) (v : Value) (l : List UInt8) (ho : w.ownsRow base 5 1 v l.length (l.map cellOf)) (n : Nat) (hn : l.length + n ≤ 140737488355328) :
    Calls Tryz.prog 128 #[v, .int .i64 (n : Int)] w fun e w' => ∃ v', e = .returned v' ∧ Roomy w' v' l n ∧ (v' = v ∨ v'.ownBlock = some w.heap.size) ∧ Below w.heap.size w w' := by
  obtain ⟨i5, hi, hz0, hz1, hz2⟩ := info_parts Tryz.info5
  rcases ho.2 with ⟨rfl, h0⟩ | ⟨g, cap, cur, rfl, hlow, hg, hlc, hcm, hcs, htk⟩
  · obtain rfl : l = [] := List.eq_nil_of_length_eq_zero h0
    by_cases hn0 : n = 0
    · subst hn0
      clear ho hi hz0 hz1 hz2 h0
      go_enter Tryz.func128, Tryz.ntmps128
      go_wp2
      go_ret
      exact ⟨_, rfl, .inl ⟨rfl, rfl, rfl⟩, .inl rfl, Below.refl _ _⟩
    · have hrun := Lib.run_append_nil_zeros (P := Tryz.prog) w 23 3 23 5 i5 (.int .u8 0) .i64 .i64 Tryz.underlying23 Tryz.underlying3 hi hz0 n (by omega) (by rw [hz1]; omega) (by simp at hn; omega) (by rw [hz2]; simp at hn; omega)
      obtain ⟨c, hc⟩ : ∃ c, c = grownCap w n 0 5 := ⟨_, rfl⟩
      rw [← hc] at hrun
      have hcn : n ≤ c := by rw [hc]; exact grownCap_ge w n 0 5
      have hcm : c ≤ maxLen := by rw [hc]; exact grownCap_le_maxLen w n 0 5 (by unfold maxLen; simp at hn; omega)
      obtain ⟨cur, hcur⟩ : ∃ cur, cur = Builtin.zeroCells (Value.int .u8 0).cells n ++ Builtin.zeroCells (Value.int .u8 0).cells (c - n) := ⟨_, rfl⟩
      rw [← hcur] at hrun
      have hsz : cur.size = c := by rw [hcur]; simp [Builtin.zeroCells, Value.cells]; omega
      obtain ⟨w1, hw1⟩ : ∃ w1, w1 = w.drew.alloc (.cells cur 5) := ⟨_, rfl⟩
      rw [← hw1] at hrun
      have HE : Hid (Roomy w1 (.slice (some ⟨w.heap.size, 0, none⟩) 0 c) [] n ∧ Below w.heap.size w w1) :=
        ⟨.inr ⟨w.heap.size, c, cur, rfl, by rw [hw1]; exact heap_alloc_new w.drew _, by simpa using hcn, hcm, hsz, rfl⟩, by rw [hw1]; exact (Below.refl _ w).drew.alloc (Nat.le_refl _) _⟩
      have HR : Hid ((Builtin.append_ #[23, 3] 23 #[.slice none 0 0, .int .i64 (n : Int)]).run Tryz.prog w = .ok (.slice (some ⟨w.heap.size, 0, none⟩) n c) w1) := hrun
      have hn1 : 0 < n := by omega
      have hn2 : n ≤ 140737488355328 := by simpa using hn
      clear ho hi hz0 hz1 hz2 h0 hrun hw1 hc hcur hsz hn
      go_enter Tryz.func128, Tryz.ntmps128
      go_wp2_with (at_builtin; refine Lib.wpList_append_run _ rfl _ _ 23 3 rfl _ _ rfl rfl _ _ HR.out ?_)
      go_ret
      exact ⟨_, rfl, HE.out.1, .inr rfl, HE.out.2⟩
  · have hcm1 : cap ≤ 9223372036854775807 := by unfold maxLen at hcm; omega
    by_cases hr : l.length + n ≤ cap
    · have HE : Hid (Roomy w (.slice (some ⟨g, 0, none⟩) l.length cap) l n) := .inr ⟨g, cap, cur, rfl, hg, hr, hcm, by simpa using hcs, by simpa using htk⟩
      clear ho hi hz0 hz1 hz2 hg hcs htk
      go_enter Tryz.func128, Tryz.ntmps128
      go_wp2
      go_ret
      exact ⟨_, rfl, HE.out, .inl rfl, Below.refl _ _⟩
    · obtain ⟨m, hm⟩ : ∃ m, m = n - (cap - l.length) := ⟨_, rfl⟩
      have hm0 : 0 < m := by omega
      have hmt : cap + m = l.length + n := by omega
      have hcs' : cur.size = cap := by simpa using hcs
      have hrun := run_append_grow_zeros (P := Tryz.prog) w 23 3 23 5 i5 (.int .u8 0) .i64 .i64 Tryz.underlying23 Tryz.underlying3 hi hz0 ⟨g, 0, none⟩ cap cap cur.toList (by rw [hz1]; simpa using hcs) (World.news_of_block hg) m (by rw [hz1]; omega) (by omega) hm0 (by omega) (by rw [hz2]; omega) (growslice_fits (by omega) (by rw [hz2]; omega))
      obtain ⟨c, hc⟩ : ∃ c, c = grownCap w (cap + m) cap 5 := ⟨_, rfl⟩
      rw [← hc] at hrun
      have hcn : cap + m ≤ c := by rw [hc]; exact grownCap_ge w _ _ 5
      have hcm2 : c ≤ maxLen := by rw [hc]; exact grownCap_le_maxLen w _ _ 5 (by unfold maxLen; omega)
      obtain ⟨cr, hcr⟩ : ∃ cr, cr = cur.toList.toArray ++ Builtin.zeroCells (Value.int .u8 0).cells m ++ Builtin.zeroCells (Value.int .u8 0).cells (c - (cap + m)) := ⟨_, rfl⟩
      rw [← hcr] at hrun
      have hsz : cr.size = c := by rw [hcr]; simp [Builtin.zeroCells, Value.cells, hcs']; omega
      have htk2 : cr.toList.take l.length = l.map cellOf := by
        rw [hcr, Array.toList_append, Array.toList_append, List.append_assoc, List.take_append_of_le_length (by simp [hcs']; exact hlc)]
        simpa using htk
      obtain ⟨w1, hw1⟩ : ∃ w1, w1 = w.drew.alloc (.cells cr 5) := ⟨_, rfl⟩
      rw [← hw1] at hrun
      have HE : Hid (Roomy w1 (.slice (some ⟨w.heap.size, 0, none⟩) l.length c) l n ∧ Below w.heap.size w w1) :=
        ⟨.inr ⟨w.heap.size, c, cr, rfl, by rw [hw1]; exact heap_alloc_new w.drew _, by omega, hcm2, hsz, htk2⟩, by rw [hw1]; exact (Below.refl _ w).drew.alloc (Nat.le_refl _) _⟩
      have HR : Hid ((Builtin.append_ #[23, 3] 23 #[.slice (some ⟨g, 0, none⟩) cap cap, .int .i64 (m : Int)]).run Tryz.prog w = .ok (.slice (some ⟨w.heap.size, 0, none⟩) (cap + m) c) w1) := hrun
      have em : (n : Int) - ((cap : Int) - (l.length : Int)) = (m : Int) := by omega
      have hlm : l.length ≤ cap + m := by omega
      have hlm2 : l.length ≤ c := by omega
      have hn2 : n ≤ 140737488355328 := by omega
      clear ho hi hz0 hz1 hz2 hg hcs htk hcs' hsz htk2 hw1 hcr hc hrun hm hr
      go_enter Tryz.func128, Tryz.ntmps128
      go_wp2_with (at_builtin; refine Lib.wpList_append_run _ rfl _ _ 23 3 rfl _ _ rfl rfl _ _ HR.out ?_)
      go_ret
      exact ⟨_, rfl, HE.out.1, .inr rfl, HE.out.2⟩
end Go.Proofs.YtaihjnaggmmiiaaGreatDoor

namespace Go.Proofs.YtaihjnaggmmiiaaGreatDoor
open Go.ChangeShapes Go.WideShapes Go.ChangeAt Go.RowKit

theorem part_even (l : List UInt8) (q n : Nat) (h : q + n ≤ l.length) : packL (nextB l (8 * q) (8 * n)) = (l.drop q).take n := by
  have e1 : nextB l (8 * q) (8 * n) = bitsOf ((l.drop q).take n) := by
    have e2 : bitsOf l = bitsOf (l.take q) ++ (bitsOf ((l.drop q).take n) ++ bitsOf ((l.drop q).drop n)) := by
      rw [← bitsOf_app, ← bitsOf_app, List.take_append_drop, List.take_append_drop]
    have e3 : (bitsOf (l.take q)).length = 8 * q := by rw [bitsOf_length, List.length_take, Nat.min_eq_left (by omega)]
    have e4 : (bitsOf ((l.drop q).take n)).length = 8 * n := by rw [bitsOf_length, List.length_take, List.length_drop, Nat.min_eq_left (by omega)]
    unfold nextB
    rw [e2, ← e3, List.drop_left, ← e4, List.take_left]
  rw [e1, packL_bytes]

set_option maxHeartbeats 3200000 in
set_option maxRecDepth 20000 in
theorem part_ok (l : List UInt8) (w : World) (b : Nat) (d : Option Addr) (cd : Nat) (hc : w.cell? ⟨b, 1, none⟩ = some (.slice d l.length cd)) (hs : Sees w d cd l) (hd : d = none ∨ ∃ g o, d = some ⟨g, o, none⟩) (hl : l.length ≤ 140737488355328) (A n : Nat) (hat : A + 8 * n ≤ 8 * l.length) :
    Calls Tryz.prog 60 #[.pointer (some ⟨b, 0, none⟩), .int .i64 (A : Int), .int .i64 (n : Int)] w fun e w' => ∃ cc r, Hid (r = packL (nextB l A (8 * n))) ∧ e = .returned (.slice (some ⟨w.heap.size, 0, none⟩) r.length cc) ∧ Sees w' (some ⟨w.heap.size, 0, none⟩) cc r ∧ Below w.heap.size w w' := by
  obtain ⟨i5, hi, hz0, hz1, hz2⟩ := info_parts Tryz.info5
  have hnl : n ≤ l.length := by omega
  have hbl : b < w.heap.size := World.block_lt_of_cell? w _ hc
  have HS : Hid (Sees w d cd l) := hs
  have HA : Hid (A + 8 * n ≤ 8 * l.length) := hat
  have hA : A ≤ 1125899906842624 := by omega
  obtain ⟨q, hq⟩ : ∃ q, q = A / 8 := ⟨_, rfl⟩
  obtain ⟨u, hu⟩ : ∃ u, u = A % 8 := ⟨_, rfl⟩
  have q1 : (A : Int) / 8 = (q : Int) := by omega
  have q2 : (A : Int).tdiv 8 = (q : Int) := by rw [Int.tdiv_eq_ediv_of_nonneg (by omega)]; exact q1
  have u1 : (A : Int) % 8 = (u : Int) := by omega
  have u2 : (A : Int).tmod 8 = (u : Int) := by rw [Int.tmod_eq_emod_of_nonneg (by omega)]; exact u1
  have HQ : Hid (A = 8 * q + u ∧ u < 8) := ⟨by omega, by omega⟩
  have hqn : q + n ≤ l.length := by omega
  clear hs hat hq hu
  go_enter Tryz.func60, Tryz.ntmps60
  go_wp2_with (at_make; refine wpList_make_full _ rfl _ _ 23 rfl w.heap.size 5 i5 (.int .u8 0) 1 Tryz.underlying23 hi hz0 hz1 .i64 .i64 _ _ n rfl rfl rfl rfl ?b2 ?b3 ?b4 ?_)
  case b2 => rw [hz2]; omega
  case b3 => unfold maxLen; omega
  case b4 => exact Nat.le_refl _
  intro w1 hown hgrow
  have hbel : Below w.heap.size w w1 := (Below.refl _ _).grown hgrow (Nat.le_refl _) (by intro k h; cases h)
  have ho0 : w1.ownsRow w.heap.size 5 1 (.slice (some ⟨w.heap.size, 0, none⟩) n n) n ((List.replicate n (0 : UInt8)).map cellOf) := by rw [← made_bytes]; simpa using hown
  have hc1 : w1.cell? ⟨b, 1, none⟩ = some (.slice d l.length cd) := by rw [hbel.cell (p := ⟨b, 1, none⟩) hbl]; exact hc
  have HS1 : Hid (Sees w1 d cd l) := HS.out.below hbel
  clear hgrow hown hc
  by_cases h0 : u = 0
  · subst h0
    have hpk : packL (nextB l A (8 * n)) = (l.drop q).take n := by rw [HQ.out.1, Nat.add_zero]; exact part_even l q n hqn
    obtain ⟨r, hr⟩ : ∃ r, r = (l.drop q).take n := ⟨_, rfl⟩
    have hrl : r.length = n := by rw [hr, List.length_take, List.length_drop]; omega
    have HR : Hid (r = packL (nextB l A (8 * n))) := by rw [hpk]; exact hr
    have hmod : (0 : Int) = ((0 : Nat) : Int) := rfl
    have hrs : r = [] → Sees w1 (some ⟨w.heap.size, 0, none⟩) 0 r := by rintro rfl; exact ⟨by simp, by simp, (fun h0 => by cases h0), fun h => absurd rfl h⟩
    rcases hd with rfl | ⟨g, o, rfl⟩
    · have hl0 : l.length = 0 := by have h1 := HS.out.bare rfl; have h2 := HS.out.fits; omega
      obtain rfl : n = 0 := by omega
      obtain rfl : q = 0 := by omega
      have hc0 : cd = 0 := HS.out.bare rfl
      subst hc0
      rw [hl0] at hc1
      have hr0 : r = [] := List.eq_nil_of_length_eq_zero hrl
      have HE := hrs hr0
      have HRL : Hid (r.length = 0) := hrl
      have HCP : Hid ((Builtin.copy_ #[23, 23] 3 #[.slice (some ⟨w.heap.size, 0, none⟩) 0 0, .slice none 0 0]).run Tryz.prog w1 = .ok (.int .i64 0) w1) := copy_nil _ _ _ _ _ _
      clear ho0 hr hpk hrl hmod hi hz0 hz1 hz2 hrs hr0
      go_wp2_with (first | refine wpList_copy_run rfl _ _ 23 rfl _ _ _ rfl rfl HCP.out ?_)
      go_ret
      exact ⟨_, r, HR, by rw [HRL.out]; rfl, HE, hbel⟩
    by_cases hcq : cd = q
    · subst hcq
      have hf := HS.out.fits
      obtain rfl : n = 0 := by omega
      have hr0 : r = [] := List.eq_nil_of_length_eq_zero hrl
      have HE := hrs hr0
      have HRL : Hid (r.length = 0) := hrl
      have hz : l.length - cd = 0 := by omega
      have hd1 : cd ≤ l.length := by omega
      have HCP : Hid ((Builtin.copy_ #[23, 23] 3 #[.slice (some ⟨w.heap.size, 0, none⟩) 0 0, .slice (some ⟨g, o, none⟩) 0 0]).run Tryz.prog w1 = .ok (.int .i64 0) w1) := copy_nil _ _ _ _ _ _
      clear ho0 hr hpk hrl hmod hi hz0 hz1 hz2 hrs hr0
      go_wp2_with (first | refine wpList_copy_run rfl _ _ 23 rfl _ _ _ rfl rfl HCP.out ?_)
      go_ret
      exact ⟨_, r, HR, by rw [HRL.out]; rfl, HE, hbel⟩
    · obtain ⟨cur, hg, hcs⟩ : ∃ cur : Array Value, w1.heap[w.heap.size]? = some (.cells cur 5 (0, 0)) ∧ cur.size = n := by
        rcases ho0.2 with ⟨h1, _⟩ | ⟨g1, c1, cur, he, _, hq1, _, _, hsz, _⟩
        · cases h1
        · simp only [Value.slice.injEq, Option.some.injEq, Addr.mk.injEq, and_true] at he
          obtain ⟨rfl, _, rfl⟩ := he
          exact ⟨cur, hq1, by simpa using hsz⟩
      obtain ⟨w2, hrun, hg2, hap, _⟩ := copy_row w1 w.heap.size 0 n n cur hg (by omega) _ _ _ (HS1.out.tail q (by omega)) n (by rw [List.length_drop]; omega)
      rw [List.length_drop] at hrun
      have HCP : Hid ((Builtin.copy_ #[23, 23] 3 #[.slice (some ⟨w.heap.size, 0, none⟩) n n, .slice (some ⟨g, o + q, none⟩) (l.length - q) (cd - q)]).run Tryz.prog w1 = .ok (.int .i64 (n : Int)) w2) := hrun
      clear hrun
      have HE : Hid (Sees w2 (some ⟨w.heap.size, 0, none⟩) n r ∧ Below w.heap.size w w2) := by
        refine ⟨⟨by omega, by unfold maxLen; omega, (fun h0 => by cases h0), fun _ => ⟨w.heap.size, 0, rfl, fun i x hx => ?_⟩⟩, hap.below hbel (fun k hk => by rw [hk]; exact Nat.le_refl _) hbel.size⟩
        rw [← hr, List.take_zero, List.nil_append] at hg2
        have hi' : i < r.length := (List.getElem?_eq_some_iff.1 hx).1
        rw [cell_of_row _ _ _ _ _ _ hg2]
        simp [List.getElem?_append, hi', cellOf, (List.getElem?_eq_some_iff.1 hx).2]
      have HRL : Hid (r.length = n) := hrl
      have hd1 : q ≤ l.length := by omega
      clear hg2 hap hg hcs ho0 hr hpk hrl hmod hi hz0 hz1 hz2
      go_wp2_with (first | refine wpList_copy_run rfl _ _ 23 rfl _ _ _ rfl rfl HCP.out ?_)
      go_ret
      exact ⟨_, r, HR, by rw [HRL.out]; rfl, HE.out.1, HE.out.2⟩
  · have dmod : ((u : Int) == 0) = false := by simp [h0]
    have HP0 : Hid (w1.ownsRow w.heap.size 5 1 (.slice (some ⟨w.heap.size, 0, none⟩) n n) n ((packL (nextB l A (8 * 0)) ++ List.replicate (n - 0) (0 : UInt8)).map cellOf)) := by
      have : packL (nextB l A (8 * 0)) = [] := by simp [nextB, packL, packN]
      rw [this]; exact ho0
    clear hi hz0 hz1 hz2 ho0
    go_wp2
    go_loopw [8, 26] (fun _ i wr => ∃ k : Nat, k ≤ n ∧ i = .int .i64 k ∧ wr.ownsRow w.heap.size 5 1 (.slice (some ⟨w.heap.size, 0, none⟩) n n) n ((packL (nextB l A (8 * k)) ++ List.replicate (n - k) (0 : UInt8)).map cellOf) ∧ Below w.heap.size w wr) (fun _ i _ => n - (intOf i).toNat)
    case atStart => exact ⟨0, Nat.zero_le _, rfl, HP0.out, hbel⟩
    case round =>
      obtain ⟨k, hk, rfl, ho, hbl2⟩ := hrel
      clear HP0
      by_cases hlt : k < n
      · have hkn : A + 8 * (k + 1) ≤ 8 * l.length := by have := HA.out; omega
        have hc2 : wr.cell? ⟨b, 1, none⟩ = some (.slice d l.length cd) := by rw [hbl2.cell (p := ⟨b, 1, none⟩) hbl, ← hbel.cell (p := ⟨b, 1, none⟩) hbl]; exact hc1
        have hnum := number_ok l wr b d cd hc2 (HS.out.below hbl2) hl (A + 8 * k) 8 (by omega) (by omega)
        obtain ⟨T, hT⟩ : ∃ T, T = num (nextB l (A + 8 * k) 8) := ⟨_, rfl⟩
        have hT8 : T < 256 := by
          have h1 := num_lt (nextB l (A + 8 * k) 8)
          rw [nextB_length _ _ _ (by omega), ← hT] at h1
          exact h1
        have hstep := pack_step l A k hkn
        have hlen : (packL (nextB l A (8 * k))).length = k := by rw [packL_length, nextB_length _ _ _ (by omega)]; omega
        have hset : (packL (nextB l A (8 * k)) ++ List.replicate (n - k) (0 : UInt8)).set k (UInt8.ofNat T) = packL (nextB l A (8 * (k + 1))) ++ List.replicate (n - (k + 1)) 0 := by
          rw [hstep, ← hT, show n - k = (n - (k + 1)) + 1 by omega, List.replicate_succ, List.set_append_right _ _ (by omega), hlen, Nat.sub_self, List.set_cons_zero, List.append_assoc]; rfl
        rw [← hT] at hnum
        have hTu : (UInt8.ofNat T).toNat = T := by rw [UInt8.toNat_ofNat']; omega
        have HST : Hid (∀ m, ((wr.drewN m).setCell ⟨w.heap.size, k, none⟩ (.int .u8 (T : Int))).ownsRow w.heap.size 5 1 (.slice (some ⟨w.heap.size, 0, none⟩) n n) n ((packL (nextB l A (8 * (k + 1))) ++ List.replicate (n - (k + 1)) (0 : UInt8)).map cellOf)) := fun m => by
          have h1 : (wr.drewN m).ownsRow w.heap.size 5 1 (.slice (some ⟨w.heap.size, 0, none⟩) n n) n ((packL (nextB l A (8 * k)) ++ List.replicate (n - k) (0 : UInt8)).map cellOf) := ho
          obtain ⟨h2, _⟩ := h1.stored k (.int .u8 (T : Int))
          rw [← hset, List.map_set]
          unfold cellOf
          rw [hTu]; exact h2
        have HBL : Hid (∀ m, Below w.heap.size w ((wr.drewN m).setCell ⟨w.heap.size, k, none⟩ (.int .u8 (T : Int)))) := fun m => (below_drewN hbl2 m).setCell (p := ⟨w.heap.size, k, none⟩) (Nat.le_refl _) _
        have hcx : ∃ z, Hid (∀ m, (wr.drewN m).cell? ⟨w.heap.size, k, none⟩ = some (.int .u8 z) ∧ (wr.drewN m).frozen? ⟨w.heap.size, k, none⟩ = false) := by
          obtain ⟨z, hz⟩ : ∃ z, (packL (nextB l A (8 * k)) ++ List.replicate (n - k) (0 : UInt8))[k]? = some z := by
            have : k < (packL (nextB l A (8 * k)) ++ List.replicate (n - k) (0 : UInt8)).length := by rw [List.length_append, hlen, List.length_replicate]; omega
            exact ⟨_, List.getElem?_eq_getElem this⟩
          refine ⟨(z.toNat : Int), fun m => ⟨?_, ?_⟩⟩
          · have h3 : wr.cell? ⟨w.heap.size, k, none⟩ = some (.int .u8 (z.toNat : Int)) := by rw [ho.cellAt k (by omega), List.getElem?_map, hz]; rfl
            exact h3
          · have h3 : wr.frozen? ⟨w.heap.size, k, none⟩ = false := ho.frozenAt k
            exact h3
        obtain ⟨z, hcx⟩ := hcx
        have wT : IntKind.u8.wrap (T : Int) = (T : Int) := by rw [IntKind.wrap_u8]; omega
        have hnum2 : Calls Tryz.prog 93 #[.pointer (some ⟨b, 0, none⟩), .int .i64 ((A : Int) + 8 * (k : Int)), .int .i64 8] wr fun e w' => e = .returned (.int .u64 (T : Int)) ∧ ∃ m, w' = wr.drewN m := by
          have e1 : ((A + 8 * k : Nat) : Int) = (A : Int) + 8 * (k : Int) := by omega
          rw [e1] at hnum; exact hnum
        clear hnum hset hstep hTu ho hbl2 hc2 hT hbel hc1
        go_wp2_with fail
        refine hnum2.mono ?_
        rintro e w2 ⟨rfl, m, rfl⟩
        obtain ⟨hcz, hfz⟩ := hcx.out m
        clear hnum2
        go_wp2
        go_roundw
        case rel => exact ⟨k + 1, by omega, by go_num, HST.out _, HBL.out _⟩
        case measure => simp [intOf]; omega
      · obtain rfl : k = n := by omega
        rw [Nat.sub_self, List.replicate_zero, List.append_nil] at ho
        obtain ⟨r, hr⟩ : ∃ r, r = packL (nextB l A (8 * k)) := ⟨_, rfl⟩
        have hrl : r.length = k := by rw [hr, packL_length, nextB_length _ _ _ HA.out]; omega
        rw [← hr] at ho
        have ho2 : wr.ownsRow w.heap.size 5 1 (.slice (some ⟨w.heap.size, 0, none⟩) k k) r.length (r.map cellOf) := by rw [hrl]; exact ho
        obtain ⟨c, cc, hv, hs⟩ := Sees.of_own ho
        simp only [Value.slice.injEq] at hv
        rw [← hv.1, ← hv.2.2] at hs
        have HR : Hid (r = packL (nextB l A (8 * k))) := hr
        have HPL : Hid (r.length = k) := hrl
        clear hv ho ho2 hr hrl
        go_wp2
        go_ret
        exact ⟨_, r, HR, by rw [HPL.out]; rfl, hs, hbl2⟩
end Go.Proofs.YtaihjnaggmmiiaaGreatDoor
