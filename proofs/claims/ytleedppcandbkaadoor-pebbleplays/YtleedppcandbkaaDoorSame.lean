/-
  The contracts of word.Same and of what it gathers.
-/
import Derived.Test.YtleedppcandbkaaDoorRows
import Derived.Test.YtleedppcandbkaaDoorGround
import Derived.Deep.QuietTactic
import Derived.BigQuiet
namespace Go.Proofs.YtleedppcandbkaaDoor
open Go.ChangeShapes Go.WideShapes Go.ChangeAt Go.RowKit

set_option maxHeartbeats 400000 in
set_option maxRecDepth 20000 in
theorem gather_any (w : World) (a b : Option Addr) (ca cb : Nat) (xs ys : List UInt8) (ha : Sees w a ca xs) (hb : Sees w b cb ys) (hl : xs.length = ys.length) :
    Calls Tryd.prog 36 #[.slice a xs.length ca, .slice b ys.length cb] w fun e w' => e = .returned (.int .u8 (gath xs ys).toNat) ∧ w' = w := by
  have hm : xs.length ≤ 9223372036854775807 := by have := ha.fits; have := ha.room; unfold maxLen at this; omega
  have Hl : Hid (xs.length = ys.length) := hl
  have hle : xs.length ≤ ys.length := by omega
  clear hl
  go_enter Tryd.func36, Tryd.ntmps36
  go_wp2
  go_loop [5, 10] (fun d i => ∃ k : Nat, k ≤ xs.length ∧ i = .int .i64 k ∧ d = .int .u8 (gath (xs.take k) (ys.take k)).toNat) (fun _ i => xs.length - (intOf i).toNat)
  case atStart => exact ⟨0, Nat.zero_le _, rfl, rfl⟩
  case round =>
    obtain ⟨k, hk, rfl, rfl⟩ := hrel
    by_cases hlt : k < xs.length
    · obtain ⟨x, hx⟩ : ∃ x, xs[k]? = some x := ⟨xs[k], by simp [hlt]⟩
      obtain ⟨y, hy⟩ : ∃ y, ys[k]? = some y := ⟨ys[k]'(by omega), by simp [show k < ys.length by omega]⟩
      obtain ⟨b1, o1, rfl, hc1⟩ := ha.get hx
      obtain ⟨b2, o2, rfl, hc2⟩ := hb.get hy
      have hlt2 : k < ys.length := by omega
      obtain ⟨z, hz⟩ : ∃ z, z = x ^^^ y := ⟨_, rfl⟩
      obtain ⟨g, hg⟩ : ∃ g, g = gath (xs.take (k + 1)) (ys.take (k + 1)) := ⟨_, rfl⟩
      have e1 : bits .xor .u8 (x.toNat : Int) (y.toNat : Int) = (z.toNat : Int) := by rw [hz]; exact bxor x y
      have e2 : bits .or .u8 ((gath (xs.take k) (ys.take k)).toNat : Int) (z.toNat : Int) = (g.toNat : Int) := by
        have hll := Hl.out
        rw [hg, take_snoc xs k x hx, take_snoc ys k y hy, gath_snoc _ _ x y (by simp [hll]), hz]
        exact bor _ _
      have HG : Hid (g = gath (xs.take (k + 1)) (ys.take (k + 1))) := hg
      clear hx hy hz hg
      go_wp2
      go_round
      case rel => exact ⟨k + 1, by omega, by go_num, by rw [HG.out]⟩
      case measure => simp [intOf]; omega
    · obtain rfl : k = xs.length := by omega
      have h1 : xs.take xs.length = xs := List.take_length
      have h2 : ys.take xs.length = ys := by rw [Hl.out]; exact List.take_length
      rw [h1, h2]
      go_wp2
      go_ret
      exact ⟨rfl, rfl⟩

theorem gath_bool (xs ys : List UInt8) (h : xs.length = ys.length) : (((gath xs ys).toNat : Int) == 0) = decide (xs = ys) := by
  have := gath_zero xs ys h
  rw [Bool.eq_iff_iff]
  simp only [beq_iff_eq, decide_eq_true_eq]
  rw [← this]
  constructor
  · intro hh; exact UInt8.toNat_inj.1 (by simp; omega)
  · intro hh; rw [hh]; rfl

set_option maxHeartbeats 400000 in
set_option maxRecDepth 20000 in
theorem same_any (w : World) (a b : Option Addr) (ca cb : Nat) (xs ys : List UInt8) (ha : Sees w a ca xs) (hb : Sees w b cb ys) :
    Calls Tryd.prog 28 #[.slice a xs.length ca, .slice b ys.length cb] w fun e w' => e = .returned (.bool (decide (xs = ys))) ∧ w' = w := by
  by_cases hl : xs.length = ys.length
  · have hg := gath_bool xs ys hl
    have H : Hid (xs.length = ys.length) := hl
    have h1 : ((xs.length : Int) == (ys.length : Int)) = true := by simp; omega
    clear hl
    go_enter Tryd.func28, Tryd.ntmps28
    go_wp2_with (go_at_call 36; refine (gather_any w a b ca cb xs ys ha hb H.out).mono ?_; rintro e w' ⟨rfl, rfl⟩)
    go_ret
    exact ⟨rfl, rfl⟩
  · have hne : decide (xs = ys) = false := by simp; rintro rfl; exact hl rfl
    have h1 : ((xs.length : Int) == (ys.length : Int)) = false := by simp; omega
    go_enter Tryd.func28, Tryd.ntmps28
    go_wp2
    go_ret
    exact ⟨by rw [hne]; rfl, rfl⟩

end Go.Proofs.YtleedppcandbkaaDoor
