/-
  A bank's bytes in memory; the contracts of what looks at them, and of the place where they begin.

  The contract of whole; Read as the banks want it.
-/
import Derived.Test.YtjmbioedpghopaaBankA
import Derived.Test.YtjmbioedpghopaaFlashB
import Derived.Test.YtjmbioedpghopaaCrcB
import Derived.Test.YtjmbioedpghopaaWord
namespace Go.Proofs.Ytjmbioedpghopaa
open Go.ChangeShapes Go.WideShapes Go.ChangeAt Go.RowKit

/-- Bytes at the head of a block of bytes. -/
def RowAt (w : World) (d cd : Nat) (l : List UInt8) : Prop := ∃ cur, w.heap[d]? = some (.cells cur 5 (0, 0)) ∧ l.length ≤ cd ∧ cd ≤ maxLen ∧ cur.toList.take l.length = l.map cellOf
theorem RowAt.sees {w : World} {d cd : Nat} {l : List UInt8} (h : RowAt w d cd l) : Sees w (some ⟨d, 0, none⟩) cd l := by
  obtain ⟨cur, h1, h2, h3, h4⟩ := h
  exact row_sees h1 h2 h3 h4
theorem RowAt.lt {w : World} {d cd : Nat} {l : List UInt8} (h : RowAt w d cd l) : d < w.heap.size := by
  obtain ⟨cur, h1, _⟩ := h
  exact (Array.getElem?_eq_some_iff.1 h1).1
theorem RowAt.keep {w w' : World} {d cd : Nat} {l : List UInt8} (h : RowAt w d cd l) (hk : w'.heap[d]? = w.heap[d]?) : RowAt w' d cd l := by
  obtain ⟨cur, h1, h2⟩ := h
  exact ⟨cur, hk.trans h1, h2⟩
theorem RowAt.below {w w' : World} {d cd : Nat} {l : List UInt8} (h : RowAt w d cd l) (hb : Below w.heap.size w w') : RowAt w' d cd l := h.keep (hb.block d h.lt)
/-- An append to a list of contents leaves them. -/
theorem RowAt.grown {w w' : World} {d cd : Nat} {l : List UInt8} (h : RowAt w d cd l) {base n : Nat} {v : Value} {xs : List Value} (ho : w.ownsRow base 121 2 v n xs) (hg : w.grownBy w' v.ownBlock) : RowAt w' d cd l := by
  refine h.keep (hg.block d h.lt fun he => ?_)
  obtain ⟨cur, h1, _⟩ := h
  rcases ho.2 with ⟨rfl, _⟩ | ⟨g, cap, c2, rfl, _, h2, _⟩
  · simp [Value.ownBlock] at he
  · simp only [Value.ownBlock, Option.some.injEq] at he
    subst he
    rw [h1] at h2
    simp at h2

/-- A bank of the program's: its flash, where it begins, how many bytes a record has. -/
def BA (w : World) (b g A N : Nat) : Prop := w.heap[b]? = some (.cells #[.pointer (some ⟨g, 0, none⟩), .int .i64 (A : Int), .int .i64 (N : Int)] 95 (0, 0))
theorem BA.c0 {w : World} {b g A N : Nat} (h : BA w b g A N) : w.cell? ⟨b, 0, none⟩ = some (.pointer (some ⟨g, 0, none⟩)) := cell_of_row _ _ 0 _ _ _ h
theorem BA.c1 {w : World} {b g A N : Nat} (h : BA w b g A N) : w.cell? ⟨b, 1, none⟩ = some (.int .i64 (A : Int)) := cell_of_row _ _ 1 _ _ _ h
theorem BA.c2 {w : World} {b g A N : Nat} (h : BA w b g A N) : w.cell? ⟨b, 2, none⟩ = some (.int .i64 (N : Int)) := cell_of_row _ _ 2 _ _ _ h
theorem BA.lt {w : World} {b g A N : Nat} (h : BA w b g A N) : b < w.heap.size := (Array.getElem?_eq_some_iff.1 h).1
theorem BA.below {w w' : World} {b g A N : Nat} (h : BA w b g A N) (hb : Below w.heap.size w w') : BA w' b g A N := by
  show w'.heap[b]? = _
  rw [hb.block b h.lt]; exact h

theorem bstands_ok (w : World) (b g A N : Nat) (h : BA w b g A N) : Calls Try.prog 56 #[.pointer (some ⟨b, 0, none⟩)] w fun e w' => e = .returned (.bool true) ∧ w' = w := by
  have c0 := h.c0
  clear h
  go_enter Try.func56, Try.ntmps56
  go_wp2
  go_ret
  exact ⟨rfl, rfl⟩
theorem size_ok (w : World) (b g A N : Nat) (h : BA w b g A N) : Calls Try.prog 42 #[.pointer (some ⟨b, 0, none⟩)] w fun e w' => e = .returned (.int .i64 (N : Int)) ∧ w' = w := by
  have hs := bstands_ok w b g A N h
  have c2 := h.c2
  clear h
  go_enter Try.func42, Try.ntmps42
  go_wp2_with fail
  refine hs.mono ?_
  rintro e w1 ⟨rfl, rfl⟩
  go_wp2
  go_ret
  exact ⟨rfl, rfl⟩
theorem place_ok (w : World) (b g A N k P : Nat) (h : BA w b g A N) (hA : A ≤ 4096) (hN : N ≤ 64) (hk : k ≤ 1) (hP : P = A + k * (N + 8)) :
    Calls Try.prog 78 #[.pointer (some ⟨b, 0, none⟩), .int .i64 (k : Int)] w fun e w' => e = .returned (.int .i64 (P : Int)) ∧ Below w.heap.size w w' := by
  have c1 := h.c1
  have c2 := h.c2
  obtain ⟨M, hM⟩ : ∃ M : Nat, M = N + 8 := ⟨_, rfl⟩
  obtain ⟨Q, hQ⟩ : ∃ Q : Nat, Q = k * M := ⟨_, rfl⟩
  have hQl : Q ≤ 72 := by rw [hQ]; exact Nat.le_trans (Nat.mul_le_mul hk (by omega : M ≤ 72)) (by omega)
  have e1 : (N : Int) + 8 = (M : Int) := by omega
  have e2 : (k : Int) * (M : Int) = (Q : Int) := by rw [hQ]; simp
  have e3 : (A : Int) + (Q : Int) = (P : Int) := by rw [hP, hQ, hM]; simp
  have l1 : M ≤ 72 := by omega
  have l2 : P ≤ 5000 := by omega
  have d1 : IntKind.i64.wrap ((k : Int) * (M : Int)) = (Q : Int) := by rw [e2, IntKind.wrap_i64]; omega
  have d2 : IntKind.i64.wrap ((A : Int) + (Q : Int)) = (P : Int) := by rw [e3, IntKind.wrap_i64]; omega
  have d3 : IntKind.i64.wrap ((N : Int) + 8) = (M : Int) := by rw [e1, IntKind.wrap_i64]; omega
  clear h hM hQ hP
  go_enter Try.func78, Try.ntmps78
  go_wp2
  go_quiet (fail)
  go_wp2
  go_ret
  exact ⟨rfl, below_drewN (Below.refl _ _) _⟩

/-- The sign, the number, and is it whole. -/
def signB (l : List UInt8) : Bool := l[0]? == some 90
def numL (l : List UInt8) : Nat := be ((l.drop 1).take 4)
def wholeB (l : List UInt8) : Bool := signB l && goodL (l.drop 1) && (numL l != 4294967295)
theorem numL_lt (l : List UInt8) (h : 5 ≤ l.length) : numL l < 4294967296 := by
  have := be_lt ((l.drop 1).take 4)
  rw [show ((l.drop 1).take 4).length = 4 by simp; omega] at this
  exact this

theorem signed_ok (w : World) (d cd m : Nat) (l : List UInt8) (h : RowAt w d cd l) (hl : l.length = m + 1) : Calls Try.prog 72 #[.slice (some ⟨d, 0, none⟩) (m + 1) cd] w fun e w' => e = .returned (.bool (signB l)) ∧ w' = w := by
  obtain ⟨x, hx⟩ : ∃ x, l[0]? = some x := ⟨l[0]'(by omega), by simp⟩
  obtain ⟨b, o, he, hc⟩ := h.sees.get hx
  cases he
  have e1 : ((x.toNat : Int) == 90) = signB l := by
    rw [signB, hx]
    have : (x = 90) ↔ ((x.toNat : Int) = 90) := by
      constructor
      · rintro rfl; rfl
      · intro h; exact UInt8.toNat_inj.1 (by rw [show (90 : UInt8).toNat = 90 from rfl]; omega)
    by_cases hh : x = 90
    · subst hh; rfl
    · have h2 : ¬ ((x.toNat : Int) = 90) := fun q => hh (this.2 q)
      rw [beq_eq_false_iff_ne.2 h2, beq_eq_false_iff_ne.2 (fun q => hh (Option.some.inj q))]
  have hm : (0 : Int) < (m : Int) + 1 := by omega
  have hcd : m + 1 ≤ cd := by have := h.sees.fits; omega
  rw [← e1]
  clear h hl e1 hx
  go_enter Try.func72, Try.ntmps72
  go_wp2
  go_ret
  exact ⟨rfl, rfl⟩
theorem number_ok (w : World) (d cd : Nat) (l : List UInt8) (m : Nat) (h : RowAt w d cd l) (hl : l.length = m) (h5 : 5 ≤ m) (z : Nat) (hz : z = numL l) : Calls Try.prog 67 #[.slice (some ⟨d, 0, none⟩) m cd] w fun e w' => e = .returned (.int .u32 (z : Int)) ∧ w' = w := by
  have h1 := Load32_yes w _ cd l 1 h.sees (by omega)
  rw [hl, show be ((l.drop 1).take 4) = z from hz.symm] at h1
  clear h hl hz
  go_enter Try.func67, Try.ntmps67
  go_wp2_with fail
  refine h1.mono ?_
  rintro e w1 ⟨rfl, rfl⟩
  clear h1
  go_wp2
  go_ret
  exact ⟨rfl, rfl⟩
theorem record_ok (w : World) (d cd N : Nat) (l : List UInt8) (h : RowAt w d cd l) (hl : l.length = N + 8) (hN : N ≤ 64) : Calls Try.prog 70 #[.slice (some ⟨d, 0, none⟩) (N + 8) cd] w fun e w' => e = .returned (.slice (some ⟨d, 5, none⟩) N (cd - 5)) ∧ w' = w := by
  have hc : N + 8 ≤ cd := by have := h.sees.fits; omega
  have hr : cd ≤ 9223372036854775807 := by have := h.sees.room; unfold maxLen at this; omega
  have e1 : (N : Int) + 8 - 3 = (N : Int) + 5 := by omega
  have e2 : IntKind.i64.wrap ((N : Int) + 5) = (N : Int) + 5 := by rw [IntKind.wrap_i64]; omega
  have e3 : ((N : Int) + 5).toNat - 5 = N := by omega
  have e4 : N + 5 - 5 = N := by omega
  clear h hl
  go_enter Try.func70, Try.ntmps70
  go_wp2
  go_ret
  exact ⟨rfl, rfl⟩
theorem RowAt.record {w : World} {d cd N : Nat} {l : List UInt8} (h : RowAt w d cd l) (hl : l.length = N + 8) : Sees w (some ⟨d, 5, none⟩) (cd - 5) ((l.drop 5).take N) := by
  have h1 := (Sees.drop h.sees 5 (by omega)).take N
  simpa using h1
end Go.Proofs.Ytjmbioedpghopaa

namespace Go.Proofs.Ytjmbioedpghopaa
open Go.ChangeShapes Go.WideShapes Go.ChangeAt Go.RowKit

theorem wf_i64 (z : Int) (h1 : -9223372036854775808 ≤ z) (h2 : z ≤ 9223372036854775807) : (Lit.int .i64 z).wf = true := by
  have m1 : IntKind.i64.min = -9223372036854775808 := by decide
  have m2 : IntKind.i64.max = 9223372036854775807 := by decide
  show (decide (IntKind.i64.min ≤ z) && decide (z ≤ IntKind.i64.max)) = true
  rw [m1, m2]
  simp [h1, h2]

theorem bwhole_ok (w : World) (d cd m : Nat) (l : List UInt8) (h : RowAt w d cd l) (hl : l.length = m + 1) (hm : 7 ≤ m) (hm2 : m ≤ 1000) : Calls Try.prog 74 #[.slice (some ⟨d, 0, none⟩) (m + 1) cd] w fun e w' => e = .returned (.bool (wholeB l)) ∧ Below w.heap.size w w' := by
  have h1 := signed_ok w d cd m l h hl
  have hT : (l.drop 1).length = m := by rw [List.length_drop]; omega
  have h2 := good_ok w _ (cd - 1) (l.drop 1) (Sees.drop h.sees 1 (by omega)) (by omega)
  rw [hT] at h2
  have hc : m + 1 ≤ cd := by have := h.sees.fits; omega
  have hr : cd ≤ 9223372036854775807 := by have := h.sees.room; unfold maxLen at this; omega
  obtain ⟨z, hz⟩ : ∃ z, z = numL l := ⟨_, rfl⟩
  have H3 : Hid (∀ W, Below w.heap.size w W → Calls Try.prog 67 #[.slice (some ⟨d, 0, none⟩) (m + 1) cd] W fun e w' => e = .returned (.int .u32 (z : Int)) ∧ w' = W) := fun W hb => number_ok W d cd l (m + 1) (h.below hb) hl (by omega) z hz
  have e0 : m + 1 - 1 = m := by omega
  have e1 : wholeB l = (signB l && goodL (l.drop 1) && (z != 4294967295)) := by rw [wholeB, ← hz]
  cases hs : signB l
  · rw [e1, hs]
    rw [hs] at h1
    clear h hl h2 e1 hz H3 hT hs
    go_enter Try.func74, Try.ntmps74
    go_wp2_with fail
    refine h1.mono ?_
    rintro e w1 ⟨rfl, rfl⟩
    go_wp2
    go_ret
    exact ⟨rfl, Below.refl _ _⟩
  · cases hg : goodL (l.drop 1)
    · rw [e1, hs, hg]
      rw [hs] at h1
      rw [hg] at h2
      clear h hl e1 hz H3 hT hs hg
      go_enter Try.func74, Try.ntmps74
      go_wp2_with fail
      refine h1.mono ?_
      rintro e w1 ⟨rfl, rfl⟩
      clear h1
      go_wp2_with fail
      refine h2.mono ?_
      rintro e w2 ⟨rfl, hb⟩
      clear h2
      go_wp2
      go_ret
      exact ⟨rfl, hb⟩
    · rw [e1, hs, hg]
      rw [hs] at h1
      rw [hg] at h2
      have e2 : (z != 4294967295) = ((z : Int) != 4294967295) := by
        by_cases hh : z = 4294967295
        · subst hh; rfl
        · rw [bne_iff_ne.2 hh, bne_iff_ne.2 (by omega : (z : Int) ≠ 4294967295)]
      rw [e2]
      clear h hl e1 hz hT hs hg e2
      go_enter Try.func74, Try.ntmps74
      go_wp2_with fail
      refine h1.mono ?_
      rintro e w1 ⟨rfl, rfl⟩
      clear h1
      go_wp2_with fail
      refine h2.mono ?_
      rintro e w2 ⟨rfl, hb⟩
      clear h2
      have h3 := H3.out w2 hb
      go_wp2_with fail
      refine h3.mono ?_
      rintro e w3 ⟨rfl, rfl⟩
      clear h3
      go_wp2
      go_ret
      exact ⟨by simp, hb⟩

/-- Read of a flash that is not dead, within its bytes. -/
theorem read_row (w : World) (g : Nat) (s : PS) (F : Nat → Prop) (h : PF w g s F) (hd : s.dead = false) (A N : Nat) (hAN : A + N ≤ s.b.length) (r : List UInt8) (hr : r = (s.b.drop A).take N) :
    Calls Try.prog 45 #[.pointer (some ⟨g, 0, none⟩), .int .i64 (A : Int), .int .i64 (N : Int)] w fun e w' => ∃ d cd, e = .returned (.tuple #[.slice (some ⟨d, 0, none⟩) N cd, .int .i64 0]) ∧ RowAt w' d cd r ∧ Below w.heap.size w w' := by
  obtain ⟨q, cap, cur, h, hF, hq, hl⟩ := h
  have hsm := h.small
  have hck := check_ok w g s q cap cur h A N (wf_i64 _ (by omega) (by omega))
  have hc : checkE s A N = 0 := by unfold checkE; rw [hd, if_neg (by simp), if_neg (by omega)]
  rw [hc] at hck
  have hpt := part_ok w g s q cap cur h A N hAN
  have hrl : r.length = N := by rw [hr]; simp; omega
  have hse : Sees w (some ⟨q, if N = 0 then 0 else A, none⟩) N r := by
    refine ⟨by omega, by have := h.room; have := h.fits; omega, by simp, fun hne => ?_⟩
    have hN : N ≠ 0 := by rintro rfl; exact hne (List.eq_nil_of_length_eq_zero hrl)
    rw [if_neg hN]
    refine ⟨q, A, rfl, fun i x hx => ?_⟩
    rw [hr, List.getElem?_take] at hx
    split at hx
    · rw [List.getElem?_drop] at hx
      obtain ⟨b1, o1, he, hcl⟩ := h.sees.get hx
      simp only [Option.some.injEq, Addr.mk.injEq, and_true] at he
      obtain ⟨rfl, rfl⟩ := he
      rw [Nat.zero_add] at hcl; exact hcl
    · simp at hx
  have hcl := clone_own w _ N r hse (by omega)
  have ep : partV q A N = .slice (some ⟨q, if N = 0 then 0 else A, none⟩) r.length N := by unfold partV; rw [hrl]
  rw [← ep] at hcl
  rw [show ((0 : Nat) : Int) = 0 from rfl] at hck
  have HR : Hid (r.length = N) := hrl
  clear h hl hF hq hc hAN hr hrl hse ep hsm
  go_enter Try.func45, Try.ntmps45
  go_wp2_with fail
  refine hck.mono ?_
  rintro e w1 ⟨rfl, rfl⟩
  clear hck
  go_wp2_with fail
  refine hpt.mono ?_
  rintro e w2 ⟨rfl, rfl⟩
  clear hpt
  go_wp2_with fail
  refine hcl.mono ?_
  rintro e w3 ⟨d, cd, cur3, rfl, h1, h2, h3, h4, h5, h6, h7⟩
  have hs3 : Hid (RowAt w3 d cd r) := ⟨cur3, h1, h2, h3, h5⟩
  have HB : Hid (Below w2.heap.size w2 w3) := h7
  clear hcl h1 h2 h3 h4 h5 h6 h7
  go_wp2
  go_ret2
  exact ⟨d, cd, by rw [HR.out]; rfl, hs3.out, HB.out⟩
end Go.Proofs.Ytjmbioedpghopaa
