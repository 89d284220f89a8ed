/-
  The walk of ShaDigests.
-/
import Derived.Test.YtonfjldfalnalaaDoorRefOf
namespace Go.Proofs.YtonfjldfalnalaaDoor
open Go.ChangeShapes Go.WideShapes Go.ChangeAt Go.RowKit

set_option maxHeartbeats 1600000 in
theorem digests_walk (a : Option Addr) (ca : Nat) (bs : List UInt8) (w : World) (hTab : FTab w ∧ KTab w) (ha : Sees w a ca bs) (_ : ca ≤ 140737488351232) :
    Calls Tryd.prog 3 #[.slice a bs.length ca] w fun e w' => e = .returned (.bool true) ∧ Below w.heap.size w w' := by
  have HF : Hid (FTab w) := hTab.1
  have HK : Hid (KTab w) := hTab.2
  have haw := awake_any w hTab.1 hTab.2
  have HA : Hid (Sees w a ca bs) := ha
  have l1 : bs.length ≤ 9223372036854775807 := by have := ha.fits; have := ha.room; unfold maxLen at this; omega
  clear hTab ha
  by_cases h1 : 5000 < bs.length
  · by_cases h2 : bs.length ≤ 1048576
    · go_enter Tryd.func3, Tryd.ntmps3
      go_wp2_with fail
      refine haw.mono ?_
      rintro e w' ⟨rfl, hbl⟩
      go_wp2
      go_ret
      exact ⟨rfl, hbl⟩
    · have d2 : decide ((bs.length : Int) ≤ 1048576) = false := by simp; omega
      have hof := of_long w a bs.length ca HF.out (by omega)
      clear haw
      go_enter Tryd.func3, Tryd.ntmps3
      go_wp2_with fail
      refine hof.mono ?_
      rintro e w1 ⟨rfl, hb1⟩
      have hro := rof_long w1 a bs.length ca (by omega)
      clear hof
      go_wp2_with fail
      refine hro.mono ?_
      rintro e w2 ⟨rfl, hw2⟩
      rw [hw2]
      have e1 := (Sees.nil' w1).convert (P := Tryd.prog) 22 5 9 Tryd.underlying22 Tryd.underlying5 Tryd.underlying9
      have haw := awake_any w1 (HF.out.below hb1) (HK.out.below hb1)
      simp only [List.length_nil] at e1
      clear hro hw2 w2
      go_wp2_with fail
      refine haw.mono ?_
      rintro e w3 ⟨rfl, hb3⟩
      go_wp2
      go_ret
      exact ⟨rfl, hb1.trans (hb3.mono hb1.size)⟩
  · have d1 : decide ((5000 : Int) < (bs.length : Int)) = false := by simp; omega
    have hof := of_ok w a ca bs HA.out HF.out HK.out (by omega)
    clear haw
    go_enter Tryd.func3, Tryd.ntmps3
    go_wp2_with fail
    refine hof.mono ?_
    rintro e w1 ⟨d4, c4, r4, hr4, rfl, hs4, hb1⟩
    have hro := rof_ok w1 a ca bs (HA.out.below hb1) (by omega)
    clear hof
    go_wp2_with fail
    refine hro.mono ?_
    rintro e w2 ⟨d8, c8, r8, hr8, rfl, hs8, hb2⟩
    have hb2w := hb1.trans (hb2.mono hb1.size)
    have hs48 := hs4.below hb2
    have hrr : r8 = r4 := by rw [hr8.out, hr4.out]
    subst hrr
    have e1 := hs48.convert (P := Tryd.prog) 22 5 9 Tryd.underlying22 Tryd.underlying5 Tryd.underlying9
    have e2 := hs8.convert (P := Tryd.prog) 22 5 9 Tryd.underlying22 Tryd.underlying5 Tryd.underlying9
    have haw := awake_any w2 (HF.out.below hb2w) (HK.out.below hb2w)
    clear hro
    go_wp2_with fail
    refine haw.mono ?_
    rintro e w3 ⟨rfl, hb3⟩
    go_wp2
    go_ret
    exact ⟨rfl, hb2w.trans (hb3.mono hb2w.size)⟩
end Go.Proofs.YtonfjldfalnalaaDoor
