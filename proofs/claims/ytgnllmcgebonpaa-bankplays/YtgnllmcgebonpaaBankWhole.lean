/-
  The contract of whole; Read as the banks want it.
-/
import Derived.Test.YtgnllmcgebonpaaBankRow
namespace Go.Proofs.Ytgnllmcgebonpaa
open Go.ChangeShapes Go.WideShapes Go.ChangeAt Go.RowKit

theorem wf_i64 (z : Int) (h1 : -9223372036854775808 ≤ z) (h2 : z ≤ 9223372036854775807) : (Lit.int .i64 z).wf = true := by
  have m1 : IntKind.i64.min = -9223372036854775808 := by decide
  have m2 : IntKind.i64.max = 9223372036854775807 := by decide
  show (decide (IntKind.i64.min ≤ z) && decide (z ≤ IntKind.i64.max)) = true
  rw [m1, m2]
  simp [h1, h2]

theorem bwhole_ok (w : World) (d cd m : Nat) (l : List UInt8) (h : RowAt w d cd l) (hl : l.length = m + 1) (hm : 7 ≤ m) (hm2 : m ≤ 1000) : Calls Try.prog 47 #[.slice (some ⟨d, 0, none⟩) (m + 1) cd] w fun e w' => e = .returned (.bool (wholeB l)) ∧ Below w.heap.size w w' := by
  have h1 := signed_ok w d cd m l h hl
  have hT : (l.drop 1).length = m := by rw [List.length_drop]; omega
  have h2 := good_ok w _ (cd - 1) (l.drop 1) (Sees.drop h.sees 1 (by omega)) (by omega)
  rw [hT] at h2
  have hc : m + 1 ≤ cd := by have := h.sees.fits; omega
  have hr : cd ≤ 9223372036854775807 := by have := h.sees.room; unfold maxLen at this; omega
  obtain ⟨z, hz⟩ : ∃ z, z = numL l := ⟨_, rfl⟩
  have H3 : Hid (∀ W, Below w.heap.size w W → Calls Try.prog 36 #[.slice (some ⟨d, 0, none⟩) (m + 1) cd] W fun e w' => e = .returned (.int .u32 (z : Int)) ∧ w' = W) := fun W hb => number_ok W d cd l (m + 1) (h.below hb) hl (by omega) z hz
  have e0 : m + 1 - 1 = m := by omega
  have e1 : wholeB l = (signB l && goodL (l.drop 1) && (z != 4294967295)) := by rw [wholeB, ← hz]
  cases hs : signB l
  · rw [e1, hs]
    rw [hs] at h1
    clear h hl h2 e1 hz H3 hT hs
    go_enter Try.func47, Try.ntmps47
    go_wp2_with fail
    refine h1.mono ?_
    rintro e w1 ⟨rfl, rfl⟩
    go_wp2
    go_ret
    exact ⟨rfl, Below.refl _ _⟩
  · cases hg : goodL (l.drop 1)
    · rw [e1, hs, hg]
      rw [hs] at h1
      rw [hg] at h2
      clear h hl e1 hz H3 hT hs hg
      go_enter Try.func47, Try.ntmps47
      go_wp2_with fail
      refine h1.mono ?_
      rintro e w1 ⟨rfl, rfl⟩
      clear h1
      go_wp2_with fail
      refine h2.mono ?_
      rintro e w2 ⟨rfl, hb⟩
      clear h2
      go_wp2
      go_ret
      exact ⟨rfl, hb⟩
    · rw [e1, hs, hg]
      rw [hs] at h1
      rw [hg] at h2
      have e2 : (z != 4294967295) = ((z : Int) != 4294967295) := by
        by_cases hh : z = 4294967295
        · subst hh; rfl
        · rw [bne_iff_ne.2 hh, bne_iff_ne.2 (by omega : (z : Int) ≠ 4294967295)]
      rw [e2]
      clear h hl e1 hz hT hs hg e2
      go_enter Try.func47, Try.ntmps47
      go_wp2_with fail
      refine h1.mono ?_
      rintro e w1 ⟨rfl, rfl⟩
      clear h1
      go_wp2_with fail
      refine h2.mono ?_
      rintro e w2 ⟨rfl, hb⟩
      clear h2
      have h3 := H3.out w2 hb
      go_wp2_with fail
      refine h3.mono ?_
      rintro e w3 ⟨rfl, rfl⟩
      clear h3
      go_wp2
      go_ret
      exact ⟨by simp, hb⟩

/-- Read of a flash that is not dead, within its bytes. -/
theorem read_row (w : World) (g : Nat) (s : PS) (F : Nat → Prop) (h : PF w g s F) (hd : s.dead = false) (A N : Nat) (hAN : A + N ≤ s.b.length) (r : List UInt8) (hr : r = (s.b.drop A).take N) :
    Calls Try.prog 30 #[.pointer (some ⟨g, 0, none⟩), .int .i64 (A : Int), .int .i64 (N : Int)] w fun e w' => ∃ d cd, e = .returned (.tuple #[.slice (some ⟨d, 0, none⟩) N cd, .int .i64 0]) ∧ RowAt w' d cd r ∧ Below w.heap.size w w' := by
  obtain ⟨q, cap, cur, h, hF, hq, hl⟩ := h
  have hsm := h.small
  have hck := check_ok w g s q cap cur h A N (wf_i64 _ (by omega) (by omega))
  have hc : checkE s A N = 0 := by unfold checkE; rw [hd, if_neg (by simp), if_neg (by omega)]
  rw [hc] at hck
  have hpt := part_ok w g s q cap cur h A N hAN
  have hrl : r.length = N := by rw [hr]; simp; omega
  have hse : Sees w (some ⟨q, if N = 0 then 0 else A, none⟩) N r := by
    refine ⟨by omega, by have := h.room; have := h.fits; omega, by simp, fun hne => ?_⟩
    have hN : N ≠ 0 := by rintro rfl; exact hne (List.eq_nil_of_length_eq_zero hrl)
    rw [if_neg hN]
    refine ⟨q, A, rfl, fun i x hx => ?_⟩
    rw [hr, List.getElem?_take] at hx
    split at hx
    · rw [List.getElem?_drop] at hx
      obtain ⟨b1, o1, he, hcl⟩ := h.sees.get hx
      simp only [Option.some.injEq, Addr.mk.injEq, and_true] at he
      obtain ⟨rfl, rfl⟩ := he
      rw [Nat.zero_add] at hcl; exact hcl
    · simp at hx
  have hcl := clone_own w _ N r hse (by omega)
  have ep : partV q A N = .slice (some ⟨q, if N = 0 then 0 else A, none⟩) r.length N := by unfold partV; rw [hrl]
  rw [← ep] at hcl
  rw [show ((0 : Nat) : Int) = 0 from rfl] at hck
  have HR : Hid (r.length = N) := hrl
  clear h hl hF hq hc hAN hr hrl hse ep hsm
  go_enter Try.func30, Try.ntmps30
  go_wp2_with fail
  refine hck.mono ?_
  rintro e w1 ⟨rfl, rfl⟩
  clear hck
  go_wp2_with fail
  refine hpt.mono ?_
  rintro e w2 ⟨rfl, rfl⟩
  clear hpt
  go_wp2_with fail
  refine hcl.mono ?_
  rintro e w3 ⟨d, cd, cur3, rfl, h1, h2, h3, h4, h5, h6, h7⟩
  have hs3 : Hid (RowAt w3 d cd r) := ⟨cur3, h1, h2, h3, h5⟩
  have HB : Hid (Below w2.heap.size w2 w3) := h7
  clear hcl h1 h2 h3 h4 h5 h6 h7
  go_wp2
  go_ret2
  exact ⟨d, cd, by rw [HR.out]; rfl, hs3.out, HB.out⟩
end Go.Proofs.Ytgnllmcgebonpaa
