/-
  A copy of a frame with one bit of its tag turned; what becomes of what is sealed.
-/
import Derived.Test.YtaihjnaggmmiiaaGreatDoorSealOpen
namespace Go.Proofs.YtaihjnaggmmiiaaGreatDoor
open Go.ChangeShapes Go.WideShapes Go.ChangeAt Go.RowKit

theorem xor_bit_ne (x : UInt8) (j : Nat) (hj : j < 8) : x ^^^ UInt8.ofNat (2 ^ j) ≠ x := by
  intro h
  have h1 : x ^^^ (x ^^^ UInt8.ofNat (2 ^ j)) = x ^^^ x := by rw [h]
  rw [← UInt8.xor_assoc, UInt8.xor_self, UInt8.zero_xor] at h1
  have hc : j = 0 ∨ j = 1 ∨ j = 2 ∨ j = 3 ∨ j = 4 ∨ j = 5 ∨ j = 6 ∨ j = 7 := by omega
  rcases hc with rfl | rfl | rfl | rfl | rfl | rfl | rfl | rfl <;> exact absurd h1 (by decide)

theorem Sees.stored {w : World} {g off cap : Nat} {l : List UInt8} (h : Sees w (some ⟨g, off, none⟩) cap l) (i : Nat) (z : UInt8) : Sees (w.setCell ⟨g, off + i, none⟩ (.int .u8 (z.toNat : Int))).drew (some ⟨g, off, none⟩) cap (l.set i z) := by
  refine ⟨by rw [List.length_set]; exact h.fits, h.room, by simp, fun hne => ⟨g, off, rfl, fun j y hy => ?_⟩⟩
  have hlj : j < l.length := by have := (List.getElem?_eq_some_iff.1 hy).1; simpa using this
  obtain ⟨b, o, hh, hc⟩ := h.at' (by intro h0; rw [h0] at hlj; simp at hlj)
  cases hh
  have hcj := hc j l[j] (by simp [hlj])
  by_cases hij : i = j
  · subst hij
    rw [List.getElem?_set_self hlj] at hy
    cases hy
    exact World.cell?_setCell_same w _ _ hcj
  · rw [List.getElem?_set_ne hij] at hy
    have h1 := hc j y hy
    rw [← World.cell?_setCell_other w ⟨g, off + i, none⟩ ⟨g, off + j, none⟩ (.int .u8 (z.toNat : Int)) (by intro h; simp at h <;> omega)] at h1
    exact h1

/-- What is sealed is opened. -/
theorem holds_seal (key : List UInt8) (F : Fr) (hb : tagB key F = true) : holdsB key (sealF key F) = true := by
  unfold holdsB
  rw [show tagB key (sealF key F) = tagB key F from rfl, hb]
  simp [sealF, tagL_other]
theorem seal_opens (key : List UInt8) (F : Fr) (hn : F.n < 18446744073709551616) (hb : tagB key F = true) : openE (putL (sealF key F)) key = 0 ∧ openF (putL (sealF key F)) key = sealF key F := by
  have hg := get_put (sealF key F) hn (seal_right key F hb)
  have he : openE (putL (sealF key F)) key = 0 := by
    unfold openE; rw [if_pos hg.1, hg.2, if_pos (holds_seal key F hb)]
  exact ⟨he, by unfold openF; rw [if_pos he, hg.2]⟩
theorem set_ne (l : List UInt8) (i : Nat) (x u : UInt8) (hx : l[i]? = some x) (hu : u ≠ x) : ¬ l = l.set i u := by
  intro h
  have hi := (List.getElem?_eq_some_iff.1 hx).1
  rw [h, List.getElem?_set_self hi] at hx
  exact hu (Option.some.inj hx)
/-- With another tag it is not. -/
theorem turned_no (key : List UInt8) (F : Fr) (hn : F.n < 18446744073709551616) (hb : tagB key F = true) (t : List UInt8) (hl : t.length = 8) (ht : ¬ tagL key F = t) :
    rightB { F with tag := t } = true ∧ holdsB key { F with tag := t } = false ∧ openE (putL { F with tag := t }) key = 13 ∧ openF (putL { F with tag := t }) key = Fr.zero := by
  have h := ((tagB_iff key F).1 hb).2
  have hr : rightB { F with tag := t } = true := by
    unfold rightB
    rw [show coreB { F with tag := t } = coreB F from rfl, h]
    simp [hl]
  have hh : holdsB key { F with tag := t } = false := by
    unfold holdsB
    rw [tagL_other]
    simp [ht]
  have hg := get_put { F with tag := t } hn hr
  have he : openE (putL { F with tag := t }) key = 13 := by
    unfold openE; rw [if_pos hg.1, hg.2, if_neg (by rw [hh]; decide)]
  exact ⟨hr, hh, he, by unfold openF; rw [he]; rfl⟩

/-- A copy of the frame, its tag in new memory. -/
theorem back_y (W : World) (G : Fr) (A2 : At) (g9 : Nat) (hs : Seen W G A2) (h9 : FrAt W g9 G A2) (ht : G.tag.length = 8) :
    ∃ W6 W7 W8 t cd, (Instr.storeAt 25 (.pointer (some ⟨W.heap.size, 0, none⟩)) (.agg (frC G A2))).run Tryz.prog (W.alloc (.cells (frC Fr.zero At.zero) 25)) = .ok () W6 ∧
      (W6.alloc (.cells #[] 5)).cell? ⟨g9, 12, none⟩ = some (.slice A2.ta 8 A2.tc) ∧
      (Builtin.append_ #[23, 23] 23 #[.slice (some ⟨W6.heap.size, 0, none⟩) 0 0, .slice A2.ta 8 A2.tc]).run Tryz.prog (W6.alloc (.cells #[] 5)) = .ok (.slice (some ⟨t, 0, none⟩) 8 cd) W7 ∧
      W7.cell? ⟨W.heap.size, 12, none⟩ = some (.slice A2.ta 8 A2.tc) ∧ W7.frozen? ⟨W.heap.size, 12, none⟩ = false ∧
      W8 = W7.setCell ⟨W.heap.size, 12, none⟩ (.slice (some ⟨t, 0, none⟩) 8 cd) ∧
      FrAt W8 W.heap.size G { A2 with ta := some ⟨t, 0, none⟩, tc := cd } ∧ Sees W8 (some ⟨t, 0, none⟩) cd G.tag ∧ (∀ i, W8.frozen? ⟨t, i, none⟩ = false) ∧ W.heap.size < t ∧ Below W.heap.size W W8 := by
  obtain ⟨W6, hst, f6, s6, b6⟩ := fr_laid hs
  have h96 := h9.below b6
  have hb0 : Below W6.heap.size W6 (W6.alloc (.cells #[] 5)) := Go.Joins.below_alloc1 _ _
  obtain ⟨v, W7, hrun, ho, hk⟩ := append_own_any _ W6.heap.size _ [] (own_empty W6) A2.ta A2.tc G.tag (s6.tag.below hb0) (by simp [ht]) (by simp)
  rw [List.nil_append] at ho
  have hb7 : Below W6.heap.size W6 W7 := hk _ _ hb0 (Nat.le_refl _)
  obtain ⟨d, cd, rfl, hsee⟩ := Sees.of_own ho
  rcases ho.2 with ⟨_, h2⟩ | ⟨t, cap, cur, hv, hlow, hg, _⟩
  · rw [ht] at h2; cases h2
  · simp only [Value.slice.injEq] at hv
    obtain ⟨rfl, _, rfl⟩ := hv
    have f7 := f6.below hb7
    have c12 := f7.c12
    have c12b := (h96.below hb0).c12
    rw [ht] at hrun c12 c12b
    have hlt : W.heap.size < t := Nat.lt_of_lt_of_le f6.lt hlow
    have f8 : FrAt (W7.setCell ⟨W.heap.size, 12, none⟩ (.slice (some ⟨t, 0, none⟩) 8 cd)) W.heap.size G { A2 with ta := some ⟨t, 0, none⟩, tc := cd } := f7.put 12 _ (by rw [← ht]; rfl)
    refine ⟨W6, W7, _, t, cd, hst, c12b, hrun, c12, f7.fz 12, rfl, f8, sees_put f7 12 _ hsee, fun i => ?_, hlt, ?_⟩
    · exact frozen_of_row _ _ i _ _ ((heap_setCell_other _ _ _ _ (by simp; omega)).trans hg)
    · exact (b6.trans (hb7.mono b6.size)).setCell (p := ⟨W.heap.size, 12, none⟩) (Nat.le_refl _) _
/-- One byte of it is stored. -/
theorem back_turned (W W8 : World) (G : Fr) (A2 : At) (t cd i : Nat) (u : UInt8) (hs : Seen W G A2) (h8 : FrAt W8 W.heap.size G { A2 with ta := some ⟨t, 0, none⟩, tc := cd }) (hsee : Sees W8 (some ⟨t, 0, none⟩) cd G.tag) (hlt : W.heap.size < t) (hb : Below W.heap.size W W8) :
    FrAt (W8.setCell ⟨t, 0 + i, none⟩ (.int .u8 (u.toNat : Int))).drew W.heap.size { G with tag := G.tag.set i u } { A2 with ta := some ⟨t, 0, none⟩, tc := cd } ∧
      Seen (W8.setCell ⟨t, 0 + i, none⟩ (.int .u8 (u.toNat : Int))).drew { G with tag := G.tag.set i u } { A2 with ta := some ⟨t, 0, none⟩, tc := cd } ∧ Below W.heap.size W (W8.setCell ⟨t, 0 + i, none⟩ (.int .u8 (u.toNat : Int))).drew := by
  have hbb : Below W.heap.size W (W8.setCell ⟨t, 0 + i, none⟩ (.int .u8 (u.toNat : Int))).drew := (hb.setCell (p := ⟨t, 0 + i, none⟩) (Nat.le_of_lt hlt) _).drew
  refine ⟨?_, ⟨hs.key.below hbb, hs.body.below hbb, hsee.stored i u⟩, hbb⟩
  have h1 : FrAt (W8.setCell ⟨t, 0 + i, none⟩ (.int .u8 (u.toNat : Int))).drew W.heap.size G { A2 with ta := some ⟨t, 0, none⟩, tc := cd } := h8.keep (heap_setCell_other _ _ _ _ (by simp; omega))
  unfold FrAt at h1 ⊢
  rw [h1]
  simp [frC, frL]
end Go.Proofs.YtaihjnaggmmiiaaGreatDoor
