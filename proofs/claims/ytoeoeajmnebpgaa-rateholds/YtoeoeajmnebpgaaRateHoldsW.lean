/-
  The walk of RateHolds, out of the contracts.
-/
import Derived.Test.YtoeoeajmnebpgaaRateBeatsW
namespace Go.Proofs.Ytoeoeajmnebpgaa
open Go.ChangeShapes Go.WideShapes Go.ChangeAt Go.RowKit

set_option maxHeartbeats 3200000 in
set_option maxRecDepth 20000 in
theorem holds_walk (a : Option Addr) (ca : Nat) (l : List Int) (b : Option Addr) (cb : Nat) (m : List Int) (d : Int) (w : World) (hs : Nums .i8 w a ca l) (hs2 : Nums .i8 w b cb m) (hd : (Lit.int .u8 d).wf = true) :
    Calls Try.prog 4 #[.slice a l.length ca, .slice b m.length cb, .int .u8 d] w fun e w' => e = .returned (.bool true) ∧ Below w.heap.size w w' := by
  have gd := bounds_u8 hd
  have hlen := hs.len
  have hlen2 := hs2.len
  obtain ⟨k, hk⟩ : ∃ k, k = d % 50 := ⟨_, rfl⟩
  have h3 : 0 ≤ k ∧ k ≤ 49 := by omega
  have e1 : d.tmod 50 = k := by rw [hk]; exact Int.tmod_eq_emod_of_nonneg gd.1
  have E1 : d % 50 = k := hk.symm
  have w3 : IntKind.i64.wrap k = k := by rw [IntKind.wrap_i64]; omega
  have w4 : IntKind.u8.wrap k = k := by rw [IntKind.wrap_u8]; omega
  have HS : Hid (Nums .i8 w a ca l) := hs
  have HS2 : Hid (Nums .i8 w b cb m) := hs2
  have H7 : Hid (∀ a d, Calls Try.prog 7 #[.int .i64 a, .int .i64 d] w fun e w' => e = .returned (ansN a d (mostN a d)) ∧ w' = w) := most_ok w
  have H9' : Hid (∀ a d, Calls Try.prog 9 #[.int .i64 a, .int .i64 d] w fun e w' => e = .returned (ansN a d (leastN a d)) ∧ w' = w) := least_ok w
  have H11 : Hid (∀ a d, Calls Try.prog 11 #[.int .i64 a, .int .i64 d] w fun e w' => e = .returned (ansN a d (spreadN a d)) ∧ w' = w) := spread_ok w
  have H9 : Hid (∀ W, Calls Try.prog 15 #[] W fun e w' => e = .returned (.bool true) ∧ w' = W) := awake_ok
  clear hs hs2 hd hk gd
  go_enter Try.func4, Try.ntmps4
  go_wp2
  go_loopw [8, 9, 10] (fun u u2 v wr => ∃ j : Nat, j ≤ l.length ∧ j ≤ m.length ∧ j ≤ 1000 ∧ u = .int .i64 (goneN k (l.take j)) ∧ u2 = .int .i64 (goneN k (m.take j)) ∧ v = .int .i64 (j : Int) ∧ wr = w) (fun _ _ v _ => 1000 - (intOf v).toNat)
  case atStart => exact ⟨0, Nat.zero_le _, Nat.zero_le _, by omega, rfl, rfl, rfl, rfl⟩
  case round =>
    obtain ⟨j, hj, hj2, hj1, rfl, rfl, rfl, rfl⟩ := hrel
    have hsm := goneN_small k h3.1 h3.2 (l.take j) (by simp; omega)
    have hbd := goneN_bounds k h3.1 (l.take j)
    rw [show (l.take j).length = j by simp; omega] at hbd
    have hsm2 := goneN_small k h3.1 h3.2 (m.take j) (by simp; omega)
    have hbd2 := goneN_bounds k h3.1 (m.take j)
    rw [show (m.take j).length = j by simp; omega] at hbd2
    by_cases hlt : j < l.length ∧ j < m.length ∧ j < 1000
    · obtain ⟨x, hx⟩ : ∃ x, l[j]? = some x := ⟨l[j], by simp [hlt.1]⟩
      obtain ⟨b1, o1, rfl, hc1⟩ := HS.out.get hx
      have hwx := bounds_i8 (HS.out.wf x (List.mem_of_getElem? hx))
      have hnext : goneN k (l.take (j + 1)) = goneN k (l.take j) + beatN k x := by rw [take_snoc l j x hx, goneN_snoc]
      obtain ⟨A, hA⟩ : ∃ A, A = goneN k (l.take j) := ⟨_, rfl⟩
      obtain ⟨A2, hA2⟩ : ∃ A, A = goneN k (l.take (j + 1)) := ⟨_, rfl⟩
      have hbb := beatN_bounds k x h3.1
      obtain ⟨y1, hy1⟩ : ∃ y, y = if x < -k then -k else x := ⟨_, rfl⟩
      obtain ⟨y2, hy2⟩ : ∃ y, y = if k < y1 then k else y1 := ⟨_, rfl⟩
      have hbe : beatN k x = 100 + y2 := by rw [hy2, hy1]; rfl
      obtain ⟨t, ht⟩ : ∃ t, t = 100 + y2 := ⟨_, rfl⟩
      rw [← hA, ← hA2, hbe, ← ht] at hnext
      rw [← hA] at hsm ⊢
      rw [hbe, ← ht] at hbb
      have c1 : IntKind.i64.wrap x = x := by rw [IntKind.wrap_i64]; omega
      have c2 : IntKind.i64.wrap (-k) = -k := by rw [IntKind.wrap_i64]; omega
      have c3 : (if x < -k then -k else x) = y1 := hy1.symm
      have c4 : (if k < y1 then k else y1) = y2 := hy2.symm
      have c5 : IntKind.i64.wrap (100 + y2) = t := by rw [← ht, IntKind.wrap_i64]; omega
      have c6 : IntKind.i64.wrap (A + t) = A2 := by rw [← hnext, IntKind.wrap_i64]; omega
      have HA2 : Hid (A2 = goneN k (l.take (j + 1))) := hA2
      clear hx hwx hnext hA hA2 hbb hy1 hy2 hbe ht hsm hbd
      obtain ⟨z, hz⟩ : ∃ x, m[j]? = some x := ⟨m[j], by simp [hlt.2.1]⟩
      obtain ⟨b2, o2, rfl, hc2⟩ := HS2.out.get hz
      have hwz := bounds_i8 (HS2.out.wf z (List.mem_of_getElem? hz))
      have hnext : goneN k (m.take (j + 1)) = goneN k (m.take j) + beatN k z := by rw [take_snoc m j z hz, goneN_snoc]
      obtain ⟨B, hA⟩ : ∃ A, A = goneN k (m.take j) := ⟨_, rfl⟩
      obtain ⟨B2, hA2⟩ : ∃ A, A = goneN k (m.take (j + 1)) := ⟨_, rfl⟩
      have hbb := beatN_bounds k z h3.1
      obtain ⟨z1, hy1⟩ : ∃ y, y = if z < -k then -k else z := ⟨_, rfl⟩
      obtain ⟨z2, hy2⟩ : ∃ y, y = if k < z1 then k else z1 := ⟨_, rfl⟩
      have hbe : beatN k z = 100 + z2 := by rw [hy2, hy1]; rfl
      obtain ⟨s, ht⟩ : ∃ t, t = 100 + z2 := ⟨_, rfl⟩
      rw [← hA, ← hA2, hbe, ← ht] at hnext
      rw [← hA] at hsm2 ⊢
      rw [hbe, ← ht] at hbb
      have f1 : IntKind.i64.wrap z = z := by rw [IntKind.wrap_i64]; omega
      have f3 : (if z < -k then -k else z) = z1 := hy1.symm
      have f4 : (if k < z1 then k else z1) = z2 := hy2.symm
      have f5 : IntKind.i64.wrap (100 + z2) = s := by rw [← ht, IntKind.wrap_i64]; omega
      have f6 : IntKind.i64.wrap (B + s) = B2 := by rw [← hnext, IntKind.wrap_i64]; omega
      have HB2 : Hid (B2 = goneN k (m.take (j + 1))) := hA2
      clear hz hwz hnext hA hA2 hbb hy1 hy2 hbe ht hsm2 hbd2
      have g1 : (j : Int) < (l.length : Int) := by omega
      have g1' : (j : Int) < (m.length : Int) := by omega
      have g2 : (j : Int) < 1000 := by omega
      have g3 : (0 : Int) ≤ (j : Int) := Int.natCast_nonneg _
      have HJ : Hid (j < l.length ∧ j < m.length ∧ j < 1000) := hlt
      clear hlt
      go_wp2
      go_roundw
      case rel => exact ⟨j + 1, HJ.out.1, HJ.out.2.1, HJ.out.2.2, by rw [HA2.out], by rw [HB2.out], by first | go_num | (congr 1; omega), trivial⟩
      case measure => have := HJ.out; simp [intOf]; omega
    · have k1 := H7.out (goneN k (l.take j)) k
      have k2 := H9'.out (goneN k (l.take j)) k
      have k3 := H11.out (goneN k (l.take j)) k
      have hmy : mayB (goneN k (l.take j)) k = true := mayB_of h3.1 h3.2 hsm.1 (by omega)
      rw [show ∀ n, ansN (goneN k (l.take j)) k n = .tuple #[.int .i64 n, .int .i64 0] from fun n => if_pos hmy] at k1 k2 k3
      have hh := both_hold h3.1 h3.2 hbd.1 hbd.2 hbd2.1 hbd2.2
      have hp := spread_holds hh.1 hh.2
      obtain ⟨A, hA⟩ : ∃ A, A = goneN k (l.take j) := ⟨_, rfl⟩
      obtain ⟨B, hB⟩ : ∃ A, A = goneN k (m.take j) := ⟨_, rfl⟩
      rw [← hA] at k1 k2 k3 hh hp hsm ⊢
      rw [← hB] at hh hp hsm2 ⊢
      obtain ⟨x, hx⟩ : ∃ x, x = mostN A k := ⟨_, rfl⟩
      obtain ⟨y, hy⟩ : ∃ x, x = leastN A k := ⟨_, rfl⟩
      obtain ⟨z, hz⟩ : ∃ x, x = spreadN A k := ⟨_, rfl⟩
      rw [← hx] at k1 hh
      rw [← hy] at k2 hh
      rw [← hz] at k3 hp
      have c1 : IntKind.i64.wrap (B - A) = B - A := by rw [IntKind.wrap_i64]; omega
      have c2 : IntKind.i64.wrap (A - B) = A - B := by rw [IntKind.wrap_i64]; omega
      obtain ⟨p1, p2⟩ := hp
      obtain ⟨p3, p4⟩ := hh
      have hlt' : ¬ j < l.length ∨ j < l.length ∧ ¬ j < m.length ∨ j < l.length ∧ j < m.length ∧ ¬ j < 1000 := by omega
      clear hx hy hz hA hB hsm hsm2 hbd hbd2 hmy hlt H7 H9' H11
      rcases hlt' with g1 | ⟨g1, g2⟩ | ⟨g1, g2, g4⟩
      all_goals
        go_wp2_with fail
        refine k1.mono ?_
        rintro e w1 ⟨rfl, rfl⟩
        clear k1
        go_wp2_with fail
        refine k2.mono ?_
        rintro e w1 ⟨rfl, rfl⟩
        clear k2
        go_wp2_with fail
        refine k3.mono ?_
        rintro e w1 ⟨rfl, rfl⟩
        clear k3
        go_wp2_with fail
        refine (H9.out _).mono ?_
        rintro e w3 ⟨rfl, rfl⟩
        go_wp2
        go_ret
        exact ⟨rfl, Below.refl _ _⟩
end Go.Proofs.Ytoeoeajmnebpgaa
