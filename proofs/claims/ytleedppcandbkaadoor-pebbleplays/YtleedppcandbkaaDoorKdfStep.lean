/-
  The contracts of kdf.Step, of the program and of the document.
-/
import Derived.Test.YtleedppcandbkaaDoorKdfB
namespace Go.Proofs.YtleedppcandbkaaDoor
open Go.ChangeShapes Go.WideShapes Go.ChangeAt Go.RowKit

set_option maxHeartbeats 800000 in
set_option maxRecDepth 20000 in
theorem step_any (HKY : KkeyOk) (w : World) (a : Option Addr) (ca : Nat) (key : List UInt8) (hF : FTab w) (hT : KTab w) (ha : Sees w a ca key) : Calls Tryd.prog 42 #[.slice a key.length ca] w fun e w' => Says w w' e (stepP key) := by
  have hd : Calls Tryd.prog 48 #[.slice a key.length ca, .string { data := #[99, 104, 97, 105, 110] }] w fun e w' => Says w w' e (stepP key) := derive_any HKY w a ca key chainN (by simp [chainN]) hF hT ha
  obtain ⟨PP, hPP⟩ : ∃ P, P = stepP key := ⟨_, rfl⟩
  rw [← hPP] at hd ⊢
  clear hPP ha hF hT
  go_enter Tryd.func42, Tryd.ntmps42
  go_wp2_with fail
  refine hd.mono ?_
  rintro e w5 ⟨d5, c5, r5, hr5, rfl, hs5, hb5⟩
  clear hd
  go_wp2
  go_ret2
  exact ⟨d5, c5, r5, hr5, rfl, hs5, hb5⟩

set_option maxHeartbeats 800000 in
set_option maxRecDepth 20000 in
theorem rstep_any (w : World) (a : Option Addr) (ca : Nat) (key : List UInt8) (ha : Sees w a ca key) : Calls Tryd.prog 23 #[.slice a key.length ca] w fun e w' => Says w w' e (stepP key) := by
  have hkm : key.length ≤ 9223372036854775807 := by have := ha.fits; have := ha.room; unfold maxLen at this; omega
  by_cases h : key.length = 16
  · have hE : stepP key = keyP key chainN [] := by unfold stepP; rw [if_pos h]
    rw [hE]
    have hk : Calls Tryd.prog 22 #[.slice a key.length ca, .string { data := #[99, 104, 97, 105, 110] }, .slice none 0 0] w _ := rkey_any w a ca key chainN (by simp [chainN]) none 0 [] ha (Longs.none' w)
    have dd : ((key.length : Int) != 16) = false := by simp; omega
    clear hE h ha
    go_enter Tryd.func23, Tryd.ntmps23
    go_wp2_with fail
    refine hk.mono ?_
    rintro e w5 ⟨d5, c5, r5, hr5, rfl, hs5, hb5⟩
    clear hk
    go_wp2
    go_ret2
    exact ⟨d5, c5, r5, hr5, rfl, hs5, hb5⟩
  · have hE : stepP key = ([], 1) := by unfold stepP; rw [if_neg h]
    rw [hE]
    have dd : ((key.length : Int) != 16) = true := by simp; omega
    clear hE h ha
    go_enter Tryd.func23, Tryd.ntmps23
    go_wp2
    go_ret2
    exact Says.nothing 1 (Below.refl _ _)
end Go.Proofs.YtleedppcandbkaaDoor
