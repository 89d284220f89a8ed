/-
  The walks of CrcFixes and CrcGood, out of what package crc must say.
-/
import Derived.Test.YtkmeccimldpllaaCrcLaws
namespace Go.Proofs.Ytkmeccimldpllaa
open Go.ChangeShapes Go.WideShapes Go.ChangeAt Go.RowKit

set_option maxHeartbeats 4000000 in
set_option maxRecDepth 20000 in
theorem fixes_walk' (HFI : CfixOk) (HGO : CgoodOk) (HBU : CburstOk) (HAW : CawakeOk) (a : Option Addr) (ca : Nat) (l : List UInt8) (n k z : Int) (w : World) (ha : Sees w a ca l) (hca : ca ≤ 140737488351232) (_ : (Lit.int .i64 n).wf = true) (_ : (Lit.int .i64 k).wf = true) (wz : (Lit.int .u32 z).wf = true) :
    Calls Try.prog 4 #[.slice a l.length ca, .int .i64 n, .int .i64 k, .int .u32 z] w fun e w' => e = .returned (.bool true) ∧ Below w.heap.size w w' := by
  obtain ⟨B, rfl, hB⟩ : ∃ n : Nat, z = n ∧ n < 4294967296 := ⟨z.toNat, by have := bounds_u32 wz; omega, by have := bounds_u32 wz; omega⟩
  have hll : l.length ≤ 140737488351232 := Nat.le_trans ha.fits hca
  have HA : Hid (Sees w a ca l) := ha
  obtain ⟨F, hF⟩ : ∃ F, F = fixL l := ⟨_, rfl⟩
  obtain ⟨G, hG⟩ : ∃ G, G = goodL l := ⟨_, rfl⟩
  have H15 : Hid (∀ W, Below w.heap.size w W → Calls Try.prog 15 #[.slice a l.length ca] W fun e w' => ∃ d cd, e = .returned (.slice d F.length cd) ∧ Sees w' d cd F ∧ Below w.heap.size w w') := fun W hW => by
    refine (HFI W a ca l (HA.out.below hW) (by omega)).mono ?_
    rintro e w' ⟨d, cd, r, hr, he, hs, hb, _⟩
    have : r = F := by rw [hF]; exact hr.out
    subst this
    exact ⟨d, cd, he, hs, hW.trans (hb.mono hW.size)⟩
  have H16 : Hid (∀ W, Below w.heap.size w W → Calls Try.prog 16 #[.slice a l.length ca] W fun e w' => ∃ d cd, e = .returned (.slice d F.length cd) ∧ Sees w' d cd F ∧ Below w.heap.size w w' ∧ Below W.heap.size W w') := fun W hW => by
    refine (rfix_any W a ca l (HA.out.below hW) (by omega)).mono ?_
    rintro e w' ⟨d, cd, r, hr, he, hs, hb, _⟩
    have : r = F := by rw [hF]; exact hr.out
    subst this
    exact ⟨d, cd, he, hs, hW.trans (hb.mono hW.size), hb⟩
  have H17 : Hid (∀ W, Below w.heap.size w W → Calls Try.prog 17 #[.slice a l.length ca] W fun e w' => e = .returned (.bool G) ∧ Below w.heap.size w w') := fun W hW => by
    rw [hG]; exact (HGO W a ca l (HA.out.below hW) (by omega)).mono fun _ _ ⟨h, hb⟩ => ⟨h, hW.trans (hb.mono hW.size)⟩
  have H18 : Hid (∀ W, Below w.heap.size w W → Calls Try.prog 18 #[.slice a l.length ca] W fun e w' => e = .returned (.bool G) ∧ Below w.heap.size w w') := fun W hW => by
    rw [hG]; exact (rgood_any W a ca l (HA.out.below hW) (by omega)).mono fun _ _ ⟨h, hb⟩ => ⟨h, hW.trans (hb.mono hW.size)⟩
  have H19 : Hid (∀ W, Below w.heap.size w W → Calls Try.prog 19 #[.int .i64 n, .int .i64 k, .int .u32 (B : Int)] W fun e w' => ∃ d cd r, Hid (burstIs n k B r) ∧ e = .returned (.slice d r.length cd) ∧ Sees w' d cd r ∧ Below w.heap.size w w') := fun W hW => by
    refine (HBU W n k B hB).mono ?_
    rintro e w' ⟨d, cd, r, hr, he, hs, hb, _⟩
    exact ⟨d, cd, r, hr, he, hs, hW.trans (hb.mono hW.size)⟩
  have H20 : Hid (∀ W r, Hid (burstIs n k B r) → Below w.heap.size w W → Calls Try.prog 20 #[.int .i64 n, .int .i64 k, .int .u32 (B : Int)] W fun e w' => ∃ d cd, e = .returned (.slice d r.length cd) ∧ Sees w' d cd r ∧ Below w.heap.size w w' ∧ Below W.heap.size W w') := fun W r hr hW => by
    refine (rburst_any W n k B hB).mono ?_
    rintro e w' ⟨d, cd, s, hs', he, hs, hb, _⟩
    have : s = r := burstIs_one hs'.out hr.out
    subst this
    exact ⟨d, cd, he, hs, hW.trans (hb.mono hW.size), hb⟩
  have H14 : Hid (∀ W, Below w.heap.size w W → Calls Try.prog 14 #[] W fun e w' => e = .returned (.bool true) ∧ Below w.heap.size w w') := fun W hW => (HAW W).mono fun _ _ ⟨h, hb⟩ => ⟨h, hW.trans (hb.mono hW.size)⟩
  clear ha wz hF hG
  go_enter Try.func4, Try.ntmps4
  go_wp2
  refine wp_region_noPanic ?_
  go_region_held (fun _ => True)
    (exact trivial)
    (first
      | (go_at_call 15; refine (H15.out _ ?_).mono ?_; (focus (first | with_reducible exact (Below.refl _ _).drew | exact Below.refl _ _)); rintro e w15 ⟨d15, c15, rfl, hs15, hb15⟩; (have e15 := hs15.convert (P := Try.prog) 22 5 9 Try.underlying22 Try.underlying5 Try.underlying9))
      | (go_at_call 16; refine (H16.out _ ?_).mono ?_; (focus (with_reducible exact hb15)); rintro e w16 ⟨d16, c16, rfl, hs16, hb16, hx16⟩; (have e15' := (hs15.below hx16).convert (P := Try.prog) 22 5 9 Try.underlying22 Try.underlying5 Try.underlying9); (have e16 := hs16.convert (P := Try.prog) 22 5 9 Try.underlying22 Try.underlying5 Try.underlying9))
      | (go_at_call 17; refine (H17.out _ ?_).mono ?_; (focus (with_reducible exact hb16)); rintro e w17 ⟨rfl, hb17⟩)
      | (go_at_call 18; refine (H18.out _ ?_).mono ?_; (focus (with_reducible exact hb17)); rintro e w18 ⟨rfl, hb18⟩)
      | (go_at_call 19; refine (H19.out _ ?_).mono ?_; (focus (with_reducible exact hb18)); rintro e w19 ⟨d19, c19, r19, hr19, rfl, hs19, hb19⟩; (have e19 := hs19.convert (P := Try.prog) 22 5 9 Try.underlying22 Try.underlying5 Try.underlying9))
      | (go_at_call 20; refine (H20.out _ r19 hr19 ?_).mono ?_; (focus (with_reducible exact hb19)); rintro e w20 ⟨d20, c20, rfl, hs20, hb20, hx20⟩; (have e19' := (hs19.below hx20).convert (P := Try.prog) 22 5 9 Try.underlying22 Try.underlying5 Try.underlying9); (have e20 := hs20.convert (P := Try.prog) 22 5 9 Try.underlying22 Try.underlying5 Try.underlying9))
      | (go_at_call 14; refine (H14.out _ ?_).mono ?_; (focus (with_reducible exact hb20)); rintro e w14 ⟨rfl, hb14⟩))
  all_goals
    refine NoPanic.normal ?_
    go_wp2
    go_ret
    exact ⟨rfl, hb14⟩
end Go.Proofs.Ytkmeccimldpllaa
