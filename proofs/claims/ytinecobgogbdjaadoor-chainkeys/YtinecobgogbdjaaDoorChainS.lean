/-
  The document's Follows.
-/
import Derived.Test.YtinecobgogbdjaaDoorChainR
namespace Go.Proofs.YtinecobgogbdjaaDoor
open Go.ChangeShapes Go.WideShapes Go.ChangeAt Go.RowKit

set_option maxHeartbeats 1600000 in
theorem rfol_any (w : World) (i : Int) (a : Option Addr) (ca : Nat) (known : List UInt8) (j : Int) (b : Option Addr) (cb : Nat) (key : List UInt8) (ha : Sees w a ca known) (hb : Sees w b cb key) :
    Calls Tryd.prog 17 #[.int .i64 i, .slice a known.length ca, .int .i64 j, .slice b key.length cb] w fun e w' => e = .returned (.int .i64 (folP i known j key : Int)) ∧ Below w.heap.size w w' := by
  have hkm : known.length ≤ 9223372036854775807 := by have := ha.fits; have := ha.room; unfold maxLen at this; omega
  have hym : key.length ≤ 9223372036854775807 := by have := hb.fits; have := hb.room; unfold maxLen at this; omega
  by_cases hg : 0 ≤ i ∧ i ≤ 256 ∧ 0 ≤ j ∧ j ≤ 256 ∧ known.length = 16 ∧ key.length = 16
  · have hP : folP i known j key = (if j < i then 10 else if backL (j - i).toNat key = known then 0 else 11) := by unfold folP; rw [if_pos hg]
    obtain ⟨h0, h1, h2, h3, h4, h5⟩ := hg
    have d1 : decide (i < 0) = false := decide_eq_false (by omega)
    have d2 : decide (256 < i) = false := decide_eq_false (by omega)
    have d3 : decide (j < 0) = false := decide_eq_false (by omega)
    have d4 : decide (256 < j) = false := decide_eq_false (by omega)
    by_cases hlt : j < i
    · rw [hP, if_pos hlt, h4, h5]
      clear hP h0 h1 h2 h3 h4 h5 ha hb hkm hym
      go_enter Tryd.func17, Tryd.ntmps17
      go_wp2
      go_ret
      exact ⟨rfl, Below.refl _ _⟩
    · obtain ⟨x, rfl⟩ : ∃ x : Nat, i = (x : Int) := ⟨i.toNat, by omega⟩
      obtain ⟨y, rfl⟩ : ∃ y : Nat, j = (y : Int) := ⟨j.toNat, by omega⟩
      have k5 := rback_any w b cb key (((y - x : Nat) : Int)) hb
      have hBP : backP key ((y - x : Nat) : Int) = (backL (y - x) key, 0) := by unfold backP; rw [if_pos ⟨h5, by omega, by omega⟩, Int.toNat_natCast]
      rw [hBP] at k5
      obtain ⟨z, hz⟩ : ∃ z, z = y - x := ⟨_, rfl⟩
      have hz1 : (y : Int) - (x : Int) = (z : Int) := by omega
      rw [hP, if_neg hlt, show ((y : Int) - (x : Int)).toNat = y - x by omega]
      obtain ⟨r, hr⟩ : ∃ r, r = backL (y - x) key := ⟨_, rfl⟩
      have hrl : r.length = 16 := by rw [hr]; exact backL_len _ _ h5
      rw [← hr] at k5 ⊢
      rw [← hz] at k5
      have HA : Hid (Sees w a ca known) := ha
      have HRL : Hid (r.length = 16) := hrl
      have HKL : Hid (known.length = 16) := h4
      have d0 : decide ((y : Int) < (x : Int)) = false := decide_eq_false hlt
      have d5 : decide (y < x) = false := decide_eq_false (by omega)
      have hzm : z ≤ 256 := by omega
      rw [h5] at k5
      rw [h4, h5]
      clear hP h0 h1 h2 h3 h4 h5 ha hb hkm hym hlt hr hrl hBP hz
      by_cases hrk : r = known
      · rw [if_pos hrk]
        go_enter Tryd.func17, Tryd.ntmps17
        go_wp2_with fail
        refine k5.mono ?_
        rintro e w5 ⟨d6, c6, rfl, hs5, hb5⟩
        have e1 := hs5.convert (P := Tryd.prog) 22 5 9 Tryd.underlying22 Tryd.underlying5 Tryd.underlying9
        have e2 := (HA.out.below hb5).convert (P := Tryd.prog) 22 5 9 Tryd.underlying22 Tryd.underlying5 Tryd.underlying9
        rw [HKL.out] at e2
        rw [← hrk] at e2
        rw [HRL.out] at e1 ⊢
        clear k5 hs5 hrk
        go_wp2
        go_ret
        exact ⟨rfl, hb5⟩
      · rw [if_neg hrk]
        go_enter Tryd.func17, Tryd.ntmps17
        go_wp2_with fail
        refine k5.mono ?_
        rintro e w5 ⟨d6, c6, rfl, hs5, hb5⟩
        have e1 := hs5.convert (P := Tryd.prog) 22 5 9 Tryd.underlying22 Tryd.underlying5 Tryd.underlying9
        have e2 := (HA.out.below hb5).convert (P := Tryd.prog) 22 5 9 Tryd.underlying22 Tryd.underlying5 Tryd.underlying9
        rw [HKL.out] at e2
        rw [HRL.out] at e1 ⊢
        have hne : (r == known) = false := by simpa using hrk
        clear k5 hs5 hrk
        go_wp2
        go_ret
        exact ⟨rfl, hb5⟩
  · have hP : folP i known j key = 1 := by unfold folP; rw [if_neg hg]
    rw [hP]
    clear hP
    by_cases h0 : i < 0
    · clear hg ha hb
      go_enter Tryd.func17, Tryd.ntmps17
      go_wp2
      go_ret
      exact ⟨rfl, Below.refl _ _⟩
    have d1 : decide (i < 0) = false := decide_eq_false h0
    by_cases h1 : 256 < i
    · clear hg ha hb h0
      go_enter Tryd.func17, Tryd.ntmps17
      go_wp2
      go_ret
      exact ⟨rfl, Below.refl _ _⟩
    have d2 : decide (256 < i) = false := decide_eq_false h1
    by_cases h2 : j < 0
    · clear hg ha hb h0 h1
      go_enter Tryd.func17, Tryd.ntmps17
      go_wp2
      go_ret
      exact ⟨rfl, Below.refl _ _⟩
    have d3 : decide (j < 0) = false := decide_eq_false h2
    by_cases h3 : 256 < j
    · clear hg ha hb h0 h1 h2
      go_enter Tryd.func17, Tryd.ntmps17
      go_wp2
      go_ret
      exact ⟨rfl, Below.refl _ _⟩
    have d4 : decide (256 < j) = false := decide_eq_false h3
    by_cases h4 : known.length = 16
    · have h5 : ((key.length : Int) != 16) = true := by simp; omega
      rw [h4]
      clear hg ha hb h0 h1 h2 h3 h4
      go_enter Tryd.func17, Tryd.ntmps17
      go_wp2
      go_ret
      exact ⟨rfl, Below.refl _ _⟩
    · have h5 : ((known.length : Int) != 16) = true := by simp; omega
      clear hg ha hb h0 h1 h2 h3 h4
      go_enter Tryd.func17, Tryd.ntmps17
      go_wp2
      go_ret
      exact ⟨rfl, Below.refl _ _⟩
end Go.Proofs.YtinecobgogbdjaaDoor
