/-
  The contract of row.number.
-/
import Derived.Test.YtoggjpkbbncbbaaBitsCut
namespace Go.Proofs.Ytoggjpkbbncbbaa
open Go.ChangeShapes Go.WideShapes Go.ChangeAt Go.RowKit

set_option maxHeartbeats 3200000 in
set_option maxRecDepth 20000 in
theorem number_ok (l : List UInt8) (w : World) (b : Nat) (d : Option Addr) (cd : Nat) (hc : w.cell? ⟨b, 1, none⟩ = some (.slice d l.length cd)) (hs : Sees w d cd l) (hl : l.length ≤ 140737488355328) (A V : Nat) (hV : V ≤ 64) (hat : A + V ≤ 8 * l.length) :
    Calls Try.prog 62 #[.pointer (some ⟨b, 0, none⟩), .int .i64 (A : Int), .int .i64 (V : Int)] w fun e w' => e = .returned (.int .u64 ((num (nextB l A V) : Nat) : Int)) ∧ ∃ m, w' = w.drewN m := by
  have HS : Hid (Sees w d cd l) := hs
  have HA : Hid (A + V ≤ 8 * l.length) := hat
  have hA : A ≤ 1125899906842624 := by omega
  clear hs hat
  go_enter Try.func62, Try.ntmps62
  go_wp2
  go_loopw [1, 2, 7, 8, 9] (fun a v n _ _ wr => ∃ k : Nat, k ≤ V ∧ a = .int .i64 ((A + k : Nat) : Int) ∧ v = .int .i64 ((V - k : Nat) : Int) ∧ n = .int .u64 ((num (nextB l A k) : Nat) : Int) ∧ ∃ m, wr = w.drewN m) (fun _ v _ _ _ _ => (intOf v).toNat)
  case atStart => exact ⟨0, Nat.zero_le _, rfl, rfl, by simp [nextB, num], 0, rfl⟩
  case round =>
    obtain ⟨k, hk, rfl, rfl, rfl, m, rfl⟩ := hrel
    by_cases hlt : k < V
    · obtain ⟨p, hp⟩ : ∃ p, p = A + k := ⟨_, rfl⟩
      obtain ⟨v, hv⟩ : ∃ v, v = V - k := ⟨_, rfl⟩
      obtain ⟨q, hq⟩ : ∃ q, q = p / 8 := ⟨_, rfl⟩
      obtain ⟨u, hu⟩ : ∃ u, u = p % 8 := ⟨_, rfl⟩
      obtain ⟨y, hy⟩ : ∃ y, y = 8 - u := ⟨_, rfl⟩
      obtain ⟨s, hs⟩ : ∃ s, s = min y v := ⟨_, rfl⟩
      obtain ⟨t, ht⟩ : ∃ t, t = 8 - s := ⟨_, rfl⟩
      have hql : q < l.length := by have := HA.out; omega
      obtain ⟨x, hx⟩ : ∃ x, l[q]? = some x := ⟨l[q], by simp [hql]⟩
      obtain ⟨b1, o1, rfl, hc1⟩ := HS.out.get hx
      obtain ⟨N, hN⟩ : ∃ N, N = num (nextB l A k) := ⟨_, rfl⟩
      obtain ⟨T, hT⟩ : ∃ T, T = num (nextB l p s) := ⟨_, rfl⟩
      rw [← hN, ← hp, ← hv]
      have hsv : s ≤ v := by omega
      have hs8 : s ≤ 8 := by omega
      have hs0 : 0 < s := by omega
      have hTb : T = (x.toNat * 2 ^ u % 256) / 2 ^ t := by rw [hT, hu, ht]; exact nextB_byte l p s x (by rw [← hq]; exact hx) (by omega)
      have hTl : T < 2 ^ s := by
        rw [hT]
        refine Nat.lt_of_lt_of_le (num_lt _) (Nat.pow_le_pow_right (by omega) (nextB_len l p s))
      have hps : p + s ≤ 8 * l.length := by have := HA.out; omega
      have hnext : num (nextB l A (k + s)) = N * 2 ^ s + T := by
        rw [nextB_add, num_app, nextB_length l (A + k) s (by rw [← hp]; exact hps), ← hN, ← hp, ← hT]
      have hNl : N * 2 ^ s + T < 18446744073709551616 := by
        rw [← hnext]
        have h1 := num_lt (nextB l A (k + s))
        have h2 : 2 ^ (nextB l A (k + s)).length ≤ 2 ^ 64 := Nat.pow_le_pow_right (by omega) (by have := nextB_len l A (k + s); omega)
        omega
      obtain ⟨M, hM⟩ : ∃ M, M = N * 2 ^ s := ⟨_, rfl⟩
      obtain ⟨N2, hN2⟩ : ∃ N2, N2 = M + T := ⟨_, rfl⟩
      have hM1 : (N : Int) * 2 ^ s = (M : Int) := by rw [hM]; simp
      have wN : IntKind.u64.wrap ((N : Int) * 2 ^ s) = (M : Int) := by rw [hM1, IntKind.wrap_u64]; omega
      obtain ⟨X, hX⟩ : ∃ X, X = x.toNat * 2 ^ u % 256 := ⟨_, rfl⟩
      have wX : IntKind.u8.wrap ((x.toNat : Int) * 2 ^ u) = (X : Int) := by
        have h1 : (x.toNat : Int) * 2 ^ u = ((x.toNat * 2 ^ u : Nat) : Int) := by simp
        rw [h1, IntKind.wrap_u8, hX]; omega
      have dT : (X : Int) / 2 ^ t = (T : Int) := by
        have h1 : (X : Int) / 2 ^ t = ((X / 2 ^ t : Nat) : Int) := by simp
        rw [h1, hX, ← hTb]
      have eor : bits .or .u64 (M : Int) (T : Int) = (N2 : Int) := by
        rw [u64_or_nat M T (by omega) (by omega), hN2, hM]
        congr 1
        have h2 := Nat.shiftLeft_add_eq_or_of_lt (a := N) (i := s) (b := T) hTl
        rw [Nat.shiftLeft_eq] at h2
        exact h2.symm
      have wT : IntKind.u64.wrap (T : Int) = (T : Int) := by rw [IntKind.wrap_u64]; omega
      have q1 : (p : Int) / 8 = (q : Int) := by omega
      have q2 : (p : Int).tdiv 8 = (q : Int) := by rw [Int.tdiv_eq_ediv_of_nonneg (by omega)]; exact q1
      have u1 : (p : Int) % 8 = (u : Int) := by omega
      have u2 : (p : Int).tmod 8 = (u : Int) := by rw [Int.tmod_eq_emod_of_nonneg (by omega)]; exact u1
      have y1 : 8 - (u : Int) = (y : Int) := by omega
      have y2 : IntKind.i64.wrap (8 - (u : Int)) = (y : Int) := by rw [IntKind.wrap_i64]; omega
      have t1 : 8 - (s : Int) = (t : Int) := by omega
      have t2 : IntKind.i64.wrap (8 - (s : Int)) = (t : Int) := by rw [IntKind.wrap_i64]; omega
      have hv64 : v ≤ 64 := by omega
      have hpm : p ≤ 1125899906842700 := by omega
      have hv0 : 0 < v := by omega
      have hu8 : u < 8 := by omega
      have m1 : min s 64 = s := by omega
      have m2 : min u 8 = u := by omega
      have m3 : min t 8 = t := by omega
      have gq0 : (0 : Int) ≤ (q : Int) := Int.natCast_nonneg _
      have gq1 : (q : Int) < (l.length : Int) := by omega
      have HNX : Hid (num (nextB l A (k + s)) = N2) := by rw [hnext, hN2, hM]; exact rfl
      have HP : Hid (p = A + k ∧ v = V - k) := ⟨hp, hv⟩
      have hsc : s = y ∧ y ≤ v ∨ s = v ∧ ¬ y ≤ v := by omega
      clear hp hv hq hu hy hs ht hx hN hT hTb hTl hps hnext hNl hM hN2 hX hM1 hk hlt
      rcases hsc with ⟨rfl, hyv⟩ | ⟨rfl, hyv⟩
      all_goals
        go_wp2
        go_quiet (fail)
        go_wp2
        go_roundw
        case rel =>
          have h1 := HP.out
          exact ⟨k + s, by omega, by first | go_num | (congr 1; omega), by first | go_num | (congr 1; omega), by rw [HNX.out], _, rfl⟩
        case measure => simp [intOf]; omega
    · obtain rfl : k = V := by omega
      have hz : k - k = 0 := by omega
      rw [hz]
      go_wp2
      go_ret
      exact ⟨rfl, _, rfl⟩
end Go.Proofs.Ytoggjpkbbncbbaa
