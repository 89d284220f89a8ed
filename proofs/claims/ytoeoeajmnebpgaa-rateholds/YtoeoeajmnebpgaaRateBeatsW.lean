/-
  The walk of RateBeats, out of the contracts.
-/
import Derived.Test.YtoeoeajmnebpgaaRateCalls
import Derived.Test.YtoeoeajmnebpgaaNums
namespace Go.Proofs.Ytoeoeajmnebpgaa
open Go.ChangeShapes Go.WideShapes Go.ChangeAt Go.RowKit

/-- What a clock with drift k goes on by in a beat for which x is drawn. -/
def beatN (k x : Int) : Int := 100 + (if k < (if x < -k then -k else x) then k else if x < -k then -k else x)
/-- .. and in the beats of a list. -/
def goneN (k : Int) : List Int → Int
  | [] => 0
  | x :: l => beatN k x + goneN k l
theorem beatN_bounds (k x : Int) (h0 : 0 ≤ k) : 100 - k ≤ beatN k x ∧ beatN k x ≤ 100 + k := by
  unfold beatN; split <;> split <;> omega
theorem goneN_snoc (k : Int) : ∀ (l : List Int) (x : Int), goneN k (l ++ [x]) = goneN k l + beatN k x
  | [], x => by simp [goneN]
  | y :: l, x => by simp only [List.cons_append, goneN, goneN_snoc k l x]; omega
theorem goneN_bounds (k : Int) (h0 : 0 ≤ k) : ∀ l : List Int, (l.length : Int) * (100 - k) ≤ goneN k l ∧ goneN k l ≤ (l.length : Int) * (100 + k)
  | [] => by simp [goneN]
  | x :: l => by
    have h1 := beatN_bounds k x h0
    have h2 := goneN_bounds k h0 l
    simp only [goneN, List.length_cons]
    rw [show ((l.length + 1 : Nat) : Int) = (l.length : Int) + 1 by omega, Int.add_mul, Int.add_mul]
    omega
theorem goneN_small (k : Int) (h0 : 0 ≤ k) (h1 : k ≤ 49) (l : List Int) (hl : l.length ≤ 1000) : 0 ≤ goneN k l ∧ goneN k l ≤ 149000 := by
  have h2 := goneN_bounds k h0 l
  have h3 : 0 ≤ (l.length : Int) * (100 - k) := Int.mul_nonneg (by omega) (by omega)
  have h4 := Int.mul_le_mul (show (l.length : Int) ≤ 1000 by omega) (show 100 + k ≤ 149 by omega) (show 0 ≤ 100 + k by omega) (show (0 : Int) ≤ 1000 by omega)
  omega

set_option maxHeartbeats 3200000 in
set_option maxRecDepth 20000 in
theorem beats_walk (a : Option Addr) (ca : Nat) (l : List Int) (d : Int) (w : World) (hs : Nums .i8 w a ca l) (hd : (Lit.int .u8 d).wf = true) :
    Calls Try.prog 5 #[.slice a l.length ca, .int .u8 d] w fun e w' => e = .returned (.bool true) ∧ Below w.heap.size w w' := by
  have gd := bounds_u8 hd
  have hlen := hs.len
  obtain ⟨k, hk⟩ : ∃ k, k = d % 50 := ⟨_, rfl⟩
  have h3 : 0 ≤ k ∧ k ≤ 49 := by omega
  have e1 : d.tmod 50 = k := by rw [hk]; exact Int.tmod_eq_emod_of_nonneg gd.1
  have E1 : d % 50 = k := hk.symm
  have w3 : IntKind.i64.wrap k = k := by rw [IntKind.wrap_i64]; omega
  have w4 : IntKind.u8.wrap k = k := by rw [IntKind.wrap_u8]; omega
  have HS : Hid (Nums .i8 w a ca l) := hs
  have HB : Hid (∀ a d, Calls Try.prog 13 #[.int .i64 a, .int .i64 d] w fun e w' => e = .returned (beatsV a d) ∧ w' = w) := beats_ok w
  have H9 : Hid (∀ W, Calls Try.prog 15 #[] W fun e w' => e = .returned (.bool true) ∧ w' = W) := awake_ok
  clear hs hd hk gd
  go_enter Try.func5, Try.ntmps5
  go_wp2
  go_loopw [6, 7] (fun u v wr => ∃ j : Nat, j ≤ l.length ∧ j ≤ 1000 ∧ u = .int .i64 (goneN k (l.take j)) ∧ v = .int .i64 (j : Int) ∧ wr = w) (fun _ v _ => 1000 - (intOf v).toNat)
  case atStart => exact ⟨0, Nat.zero_le _, by omega, rfl, rfl, rfl⟩
  case round =>
    obtain ⟨j, hj, hj1, rfl, rfl, rfl⟩ := hrel
    have hsm := goneN_small k h3.1 h3.2 (l.take j) (by simp; omega)
    have hbd := goneN_bounds k h3.1 (l.take j)
    rw [show (l.take j).length = j by simp; omega] at hbd
    by_cases hlt : j < l.length ∧ j < 1000
    · obtain ⟨x, hx⟩ : ∃ x, l[j]? = some x := ⟨l[j], by simp [hlt.1]⟩
      obtain ⟨b1, o1, rfl, hc1⟩ := HS.out.get hx
      have hwx := bounds_i8 (HS.out.wf x (List.mem_of_getElem? hx))
      have hnext : goneN k (l.take (j + 1)) = goneN k (l.take j) + beatN k x := by rw [take_snoc l j x hx, goneN_snoc]
      obtain ⟨A, hA⟩ : ∃ A, A = goneN k (l.take j) := ⟨_, rfl⟩
      obtain ⟨A2, hA2⟩ : ∃ A, A = goneN k (l.take (j + 1)) := ⟨_, rfl⟩
      have hbb := beatN_bounds k x h3.1
      obtain ⟨y1, hy1⟩ : ∃ y, y = if x < -k then -k else x := ⟨_, rfl⟩
      obtain ⟨y2, hy2⟩ : ∃ y, y = if k < y1 then k else y1 := ⟨_, rfl⟩
      have hbe : beatN k x = 100 + y2 := by rw [hy2, hy1]; rfl
      obtain ⟨t, ht⟩ : ∃ t, t = 100 + y2 := ⟨_, rfl⟩
      rw [← hA, ← hA2, hbe, ← ht] at hnext
      rw [← hA] at hsm ⊢
      rw [hbe, ← ht] at hbb
      have c1 : IntKind.i64.wrap x = x := by rw [IntKind.wrap_i64]; omega
      have c2 : IntKind.i64.wrap (-k) = -k := by rw [IntKind.wrap_i64]; omega
      have c3 : (if x < -k then -k else x) = y1 := hy1.symm
      have c4 : (if k < y1 then k else y1) = y2 := hy2.symm
      have c5 : IntKind.i64.wrap (100 + y2) = t := by rw [← ht, IntKind.wrap_i64]; omega
      have c6 : IntKind.i64.wrap (A + t) = A2 := by rw [← hnext, IntKind.wrap_i64]; omega
      have HA2 : Hid (A2 = goneN k (l.take (j + 1))) := hA2
      have g1 : (j : Int) < (l.length : Int) := by omega
      have g2 : (j : Int) < 1000 := by omega
      have g3 : (0 : Int) ≤ (j : Int) := Int.natCast_nonneg _
      have HJ : Hid (j < l.length ∧ j < 1000) := hlt
      clear hx hwx hnext hA hA2 hbb hy1 hy2 hbe ht hsm hbd hlt
      go_wp2
      go_roundw
      case rel => exact ⟨j + 1, HJ.out.1, HJ.out.2, by rw [HA2.out], by first | go_num | (congr 1; omega), trivial⟩
      case measure => have := HJ.out; simp [intOf]; omega
    · have hx := (HB.out (goneN k (l.take j)) k)
      rw [show beatsV (goneN k (l.take j)) k = .tuple #[.int .i64 (upN (goneN k (l.take j)) (100 + k)), .int .i64 (goneN k (l.take j) / (100 - k)), .int .i64 0] from if_pos (mayB_of h3.1 h3.2 hsm.1 (by omega))] at hx
      have b1 : upN (goneN k (l.take j)) (100 + k) ≤ (j : Int) := (upN_le (by omega)).2 hbd.2
      have b2 : (j : Int) ≤ goneN k (l.take j) / (100 - k) := (Int.le_ediv_iff_mul_le (by omega)).2 hbd.1
      obtain ⟨x, hx'⟩ : ∃ x, x = upN (goneN k (l.take j)) (100 + k) := ⟨_, rfl⟩
      obtain ⟨y, hy'⟩ : ∃ y, y = goneN k (l.take j) / (100 - k) := ⟨_, rfl⟩
      obtain ⟨A, hA⟩ : ∃ A, A = goneN k (l.take j) := ⟨_, rfl⟩
      rw [← hx'] at hx b1
      rw [← hy'] at hx b2
      rw [← hA] at hx ⊢
      have hlt' : ¬ j < l.length ∨ j < l.length ∧ ¬ j < 1000 := by omega
      clear hx' hy' hA hsm hbd hlt HB
      rcases hlt' with g1 | ⟨g1, g2⟩
      all_goals
        go_wp2_with fail
        refine hx.mono ?_
        rintro e w1 ⟨rfl, rfl⟩
        clear hx
        go_wp2_with fail
        refine (H9.out _).mono ?_
        rintro e w3 ⟨rfl, rfl⟩
        go_wp2
        go_ret
        exact ⟨rfl, Below.refl _ _⟩
end Go.Proofs.Ytoeoeajmnebpgaa
