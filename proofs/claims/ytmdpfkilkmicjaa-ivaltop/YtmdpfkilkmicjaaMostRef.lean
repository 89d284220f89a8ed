/-
  The contracts of the document's count and Most.
-/
import Derived.Test.YtmdpfkilkmicjaaIvalCalls2
import Derived.Test.YtmdpfkilkmicjaaIvals
import Derived.Test.YtmdpfkilkmicjaaMostMath
namespace Go.Proofs.Ytmdpfkilkmicjaa
open Go.ChangeShapes Go.WideShapes Go.ChangeAt Go.RowKit

theorem cntN_snoc (L : List (Int × Int)) (j : Nat) (x : Int × Int) (hx : L[j]? = some x) (n : Int) : cntN (L.take (j + 1)) n = cntN (L.take j) n + (if holdsB x.1 x.2 n = true then 1 else 0) := by
  rw [List.take_add_one, hx, cntN_append]
  simp [cntN]

set_option maxHeartbeats 3200000 in
set_option maxRecDepth 20000 in
theorem count_ok (w : World) (a : Option Addr) (ca : Nat) (L : List (Int × Int)) (n : Int) (hs : Ivals w a ca L) :
    Calls Try.prog 36 #[.slice a L.length ca, .int .i64 n] w fun e w' => e = .returned (.int .i64 (cntN L n)) ∧ Below w.heap.size w w' := by
  have hlen := hs.len
  have HS : Hid (∀ W, Below w.heap.size w W → Ivals W a ca L) := fun W hb => hs.below hb
  have HH : Hid (∀ W x y, Calls Try.prog 22 #[.agg #[.int .i64 x, .int .i64 y], .int .i64 n] W fun e w' => e = .returned (.bool (holdsB x y n)) ∧ Below W.heap.size W w') := fun W x y => refholds_ok W x y n
  clear hs
  go_enter Try.func36, Try.ntmps36
  go_wp2
  go_loopw [5, 6] (fun u v wr => ∃ j : Nat, j ≤ L.length ∧ u = .int .i64 (cntN (L.take j) n) ∧ v = .int .i64 (j : Int) ∧ Below w.heap.size w wr) (fun _ v _ => L.length - (intOf v).toNat)
  case atStart => exact ⟨0, Nat.zero_le _, rfl, rfl, Below.refl _ _⟩
  case round =>
    obtain ⟨j, hj, rfl, rfl, hbel⟩ := hrel
    by_cases hlt : j < L.length
    · obtain ⟨x, hx⟩ : ∃ x, L[j]? = some x := ⟨L[j], by simp [hlt]⟩
      obtain ⟨b1, o1, ha, hc1, hc2⟩ := (HS.out _ hbel).get hx
      have hnext := cntN_snoc L j x hx n
      have hb0 := cntN_nonneg (L.take j) n
      have hb1 := cntN_le (L.take j) n
      have hbl : (L.take j).length ≤ j := by simp; omega
      obtain ⟨A, hA⟩ : ∃ A, A = cntN (L.take j) n := ⟨_, rfl⟩
      obtain ⟨A2, hA2⟩ : ∃ A, A = cntN (L.take (j + 1)) n := ⟨_, rfl⟩
      rw [← hA, ← hA2] at hnext
      rw [← hA] at hb0 hb1 ⊢
      subst ha
      have HX : Hid (∀ W, Calls Try.prog 22 #[.agg #[.int .i64 x.1, .int .i64 x.2], .int .i64 n] W fun e w' => e = .returned (.bool (holdsB x.1 x.2 n)) ∧ Below W.heap.size W w') := fun W => HH.out W _ _
      have HA2 : Hid (A2 = cntN (L.take (j + 1)) n) := hA2
      have g1 : (j : Int) < (L.length : Int) := by omega
      have g3 : (0 : Int) ≤ (j : Int) := Int.natCast_nonneg _
      have HJ : Hid (j < L.length) := hlt
      obtain ⟨x1, x2⟩ := x
      simp only [] at HX hc1 hc2 hnext
      cases hh : holdsB x1 x2 n
      · rw [hh] at HX hnext
        rw [if_neg (by simp)] at hnext
        have e0 : A2 = A := by omega
        clear hx hnext hA hA2 hb0 hb1 hbl hlt hh
        go_wp2_with fail
        refine (HX.out _).mono ?_
        rintro e w1 ⟨rfl, hb⟩
        have bel2 := hbel.trans (hb.mono hbel.size)
        clear HX hb hbel hc1 hc2
        go_wp2
        go_roundw
        case rel => exact ⟨j + 1, HJ.out, by rw [← HA2.out, e0], by first | go_num | (congr 1; omega), bel2⟩
        case measure => have := HJ.out; simp [intOf]; omega
      · rw [hh] at HX hnext
        rw [if_pos rfl] at hnext
        have c6 : IntKind.i64.wrap (A + 1) = A2 := by rw [← hnext, IntKind.wrap_i64]; omega
        clear hx hnext hA hA2 hb0 hb1 hbl hlt hh
        go_wp2_with fail
        refine (HX.out _).mono ?_
        rintro e w1 ⟨rfl, hb⟩
        have bel2 := hbel.trans (hb.mono hbel.size)
        clear HX hb hbel hc1 hc2
        go_wp2
        go_roundw
        case rel => exact ⟨j + 1, HJ.out, by rw [HA2.out], by first | go_num | (congr 1; omega), bel2⟩
        case measure => have := HJ.out; simp [intOf]; omega
    · have hjl : j = L.length := by omega
      have e1 : L.take j = L := by rw [hjl]; exact List.take_of_length_le (Nat.le_refl _)
      rw [e1]
      go_wp2
      go_ret
      exact ⟨rfl, hbel⟩
end Go.Proofs.Ytmdpfkilkmicjaa
