/-
  The contract of the document's Write: one that is torn, not all of it coming to stand.
-/
import Derived.Test.YtgnllmcgebonpaaFlashRefW
namespace Go.Proofs.Ytgnllmcgebonpaa
open Go.ChangeShapes Go.WideShapes Go.ChangeAt Go.RowKit

set_option maxHeartbeats 3200000 in
set_option maxRecDepth 20000 in
theorem rwrite_short (w : World) (r : Nat) (t : RS) (G : Nat → Prop) (h : RF w r t G) (hd : t.dead = false) (hn : t.n ≤ 1000000) (A : Nat) (x : Option Addr) (cx : Nat) (l : List UInt8) (hx : Sees w x cx l) (hxn : ∀ b off, x = some ⟨b, off, none⟩ → l ≠ [] → ¬ G b) (hAl : A + l.length ≤ t.b.length) (hsk : t.skip = 0) (T : Nat) (hT : t.torn = (T : Int)) (hTl : T < l.length) :
    Calls Try.prog 10 #[.pointer (some ⟨r, 0, none⟩), .int .i64 (A : Int), .slice x l.length cx] w fun e w' => e = .returned (.int .i64 5) ∧ Left RF w G r { t with b := putAt t.b A T l, skip := max (t.skip - 1) (-1), dead := true, n := t.n + 1 } w' := by
  obtain ⟨v, h, hG, hv, hl⟩ := h
  have hmx : max (t.skip - 1) (-1) = -1 := by rw [hsk]; rfl
  rw [hmx]
  have hs1 := h.s1
  have hs2 := h.s2
  have h1 := h.set 4 (.int .i64 ((t.n : Int) + 1)) { t with n := t.n + 1 } rfl h.s1 h.s2 h.t1 h.t2 (by simp)
  have h2 := h1.set 3 (.bool true) { t with n := t.n + 1, dead := true } rfl h.s1 h.s2 h.t1 h.t2 rfl
  have h3 := h2.set 1 (.int .i64 (-1)) { t with skip := -1, dead := true, n := t.n + 1 } rfl (by simp only []; omega) (by simp only []; omega) h.t1 h.t2 rfl
  have dsk : (t.skip == 0) = true := by simp [hsk]
  have ap3 : Apart G w (((w.setCell ⟨r, 4, none⟩ (.int .i64 ((t.n : Int) + 1))).setCell ⟨r, 3, none⟩ (.bool true)).setCell ⟨r, 1, none⟩ (.int .i64 (-1))) := apart_set (apart_set (apart_set (Apart.refl _ _) hG _ _) hG _ _) hG _ _
  obtain ⟨W3, hW3⟩ : ∃ W3, W3 = ((w.setCell ⟨r, 4, none⟩ (.int .i64 ((t.n : Int) + 1))).setCell ⟨r, 3, none⟩ (.bool true)).setCell ⟨r, 1, none⟩ (.int .i64 (-1)) := ⟨_, rfl⟩
  have HW3 : Hid (W3 = ((w.setCell ⟨r, 4, none⟩ (.int .i64 ((t.n : Int) + 1))).setCell ⟨r, 3, none⟩ (.bool true)).setCell ⟨r, 1, none⟩ (.int .i64 (-1))) := hW3
  rw [← hW3] at h3 ap3
  have hx3 : Sees W3 x cx l := ap3.sees hx hxn
  have hcl : T ≤ l.length := by omega
  have hAC : A + T ≤ t.b.length := by omega
  have hsm : t.b.length ≤ 4096 := h.small
  have hll : l.length ≤ 9223372036854775807 := by omega
  have hlc : l.length ≤ cx := hx.fits
  have hcx : cx ≤ 9223372036854775807 := by have := hx.room; unfold maxLen at this; omega
  have hPL : (putAt t.b A T l).length = t.b.length := putAt_len _ _ _ _ hAC hcl
  have c0 := h.c0
  have c1 := h.c1
  have c2 := h.c2
  have c3 := h.c3
  have c4 := h.c4
  rw [hT] at c2
  have f1 := h.lax 1
  have f3 := h.lax 3
  have f4 := h.lax 4
  rw [hd] at c3
  have y0 := h3.c0
  have y0a : (W3.alloc (.cells #[] 5)).cell? ⟨r, 0, none⟩ = some v := by
    have hb : Below W3.heap.size W3 (W3.alloc (.cells #[] 5)) := (Below.refl _ _).alloc (Nat.le_refl _) _
    rw [hb.cell (p := ⟨r, 0, none⟩) (World.block_lt_of_cell? W3 _ y0)]; exact y0
  have hv3 := h3.sees
  have hval := h3.val
  have d0 : decide ((A : Int) < 0) = false := by simp
  have d2 : decide (t.b.length < A) = false := by simp; omega
  have d2' : ¬ (t.b.length < A) := by omega
  have d3 : decide ((t.b.length : Int) - (A : Int) < (l.length : Int)) = false := by simp; omega
  have e1 : A ≤ t.b.length := by omega
  have q1 : T ≤ cx := by omega
  have hwp : IntKind.i64.wrap ((A : Int) + (T : Nat)) = ((A + T : Nat) : Int) := by rw [IntKind.wrap_i64]; omega
  have HL : Hid (∀ w6 d3 e3, w6.ownsRow W3.heap.size 5 1 (.slice d3 t.b.length e3) t.b.length ((putAt t.b A T l).map cellOf) → Below W3.heap.size W3 w6 →
      Left RF w G r { t with b := putAt t.b A T l, skip := (-1), dead := true, n := t.n + 1 } (w6.setCell ⟨r, 0, none⟩ (.slice d3 t.b.length e3))) := fun w6 d3 e3 ho hb =>
    rput_left w W3 w6 r { t with skip := (-1), dead := true, n := t.n + 1 } v G h3 hG ap3 d3 e3 _ hPL ho hb
  have HY : Hid (∀ w6, Below W3.heap.size W3 w6 → w6.cell? ⟨r, 0, none⟩ = some v ∧ w6.cell? ⟨r, 3, none⟩ = some (.bool true) ∧ w6.frozen? ⟨r, 0, none⟩ = false) := fun w6 hb => by
    have hrow := (hb.block r (Array.getElem?_eq_some_iff.1 h3.row).1).trans h3.row
    exact ⟨cell_of_row _ _ 0 _ _ _ hrow, cell_of_row _ _ 3 _ _ _ hrow, frozen_of_row _ _ 0 _ _ hrow⟩
  have HMV : Hid ((if wrap64 (t.skip - 1) < -1 then -1 else wrap64 (t.skip - 1)) = (-1)) := by
    have e : wrap64 (t.skip - 1) = t.skip - 1 := by unfold wrap64; omega
    show (if wrap64 (t.skip - 1) < -1 then -1 else wrap64 (t.skip - 1)) = (-1)
    rw [e]
    split <;> omega
  have RUN := fun X1 C1 s1 X3 C3 s3 => rput_run W3 t.b A T x cx l hx3 hAC hcl hsm X1 C1 s1 X3 C3 s3
  have HRUN : Hid (∀ (X1 : Option Addr) (C1 : Nat) (_ : Sees W3 X1 C1 (t.b.take A)) (X3 : Option Addr) (C3 : Nat) (_ : Sees W3 X3 C3 (t.b.drop (A + T))), _) := RUN
  obtain ⟨av, cv, hav, hsv⟩ := hv3
  have hsv : Sees W3 av cv t.b := hsv
  have hav : v = .slice av t.b.length cv := hav
  subst hav
  have HSV : Hid (Sees W3 av cv t.b) := hsv
  have Y0A : Hid ((W3.alloc (.cells #[] 5)).cell? ⟨r, 0, none⟩ = some (.slice av t.b.length cv)) := y0a
  have HVAL : Hid ((Value.slice av t.b.length cv = .slice none 0 0 ∧ t.b = []) ∨ ∃ q cap, Value.slice av t.b.length cv = .slice (some ⟨q, 0, none⟩) t.b.length cap ∧ t.b.length ≤ cap ∧ cap ≤ 9223372036854775807 ∧ q ≠ r) := hval
  clear h3 ap3 hx3 hx hxn hW3 hPL hv hl h hs1 hs2 hmx RUN hsv hval y0 y0a hT
  go_enter Try.func10, Try.ntmps10
  go_upto_region 11 with fail
  (try rw [HMV.out])
  rw [← HW3.out]
  clear c0 c1 c2 c3 c4 f1 f3 f4 HW3 HMV
  rcases HVAL.out with ⟨he, hb⟩ | ⟨q, cap, he, hfc, hcm, _⟩
  · exfalso
    rw [hb] at hAl; simp only [List.length_nil] at hAl; omega
  · simp only [Value.slice.injEq, true_and] at he
    obtain ⟨rfl, rfl⟩ := he
    have hct := HSV.out.cut (A + T) hAC
    have e2 : A ≤ cv := by omega
    have e5 : A + T ≤ cv := by omega
    by_cases hcA : cv = A + T
    · exfalso; omega
    · rw [if_neg hcA] at hct
      obtain ⟨d1, e1', w4, d2', e2', w5, d3', e3', w6, hr1, hr2, hr3, ho, hB5, hB6⟩ := HRUN.out (some ⟨q, 0, none⟩) cv (HSV.out.take A) (some ⟨q, A + T, none⟩) (cv - (A + T)) hct
      have HLE := HL.out w6 d3' e3' ho hB6
      obtain ⟨z0, _, _⟩ := HY.out w5 hB5
      obtain ⟨u0, u3, uf⟩ := HY.out w6 hB6
      have HR1 : Hid (_ = _) := hr1
      have HR2 : Hid (_ = _) := hr2
      have HR3 : Hid (_ = _) := hr3
      have HE : Hid (Left RF w G r _ (w6.setCell ⟨r, 0, none⟩ _)) := HLE
      have y0a := Y0A.out
      clear hr1 hr2 hr3 ho hB5 hB6 HLE HL HY HRUN HVAL HSV Y0A
      go_upto_region 12 with (at_builtin; refine wpList_append_run rfl _ _ 22 rfl _ _ _ rfl rfl HR1.out ?_)
      clear HR1 y0a
      go_upto_region 13 with (at_builtin; refine wpList_append_run rfl _ _ 22 rfl _ _ _ rfl rfl HR2.out ?_)
      clear HR2
      go_upto_region 14 with (at_builtin; refine wpList_append_run rfl _ _ 22 rfl _ _ _ rfl rfl HR3.out ?_)
      clear HR3
      go_wp2
      go_ret
      exact ⟨rfl, HE.out⟩
end Go.Proofs.Ytgnllmcgebonpaa
