/-
  The contract of the document's Write.

  The contract of the document's Write: a write that is not torn.

  The contract of the document's Write: one that is torn, not all of it coming to stand.

  The contract of the document's Write: one that is torn, all of it coming to stand.

  The program's flash and the document's, act by act; two of them side by side in memory.
-/
import Derived.Test.YtjmbioedpghopaaFlashC
import Derived.Deep.Cut
import Derived.IntWalk
namespace Go.Proofs.Ytjmbioedpghopaa
open Go.ChangeShapes Go.WideShapes Go.ChangeAt Go.RowKit

/-- Three appends, one behind the other. -/
theorem rput_run (w : World) (b : List UInt8) (A c : Nat) (x : Option Addr) (cx : Nat) (l : List UInt8) (hx : Sees w x cx l) (hA : A + c ≤ b.length) (hc : c ≤ l.length) (hs : b.length ≤ 4096)
    (X1 : Option Addr) (C1 : Nat) (s1 : Sees w X1 C1 (b.take A)) (X3 : Option Addr) (C3 : Nat) (s3 : Sees w X3 C3 (b.drop (A + c))) :
    ∃ d1 e1 w4 d2 e2 w5 d3 e3 w6,
      (Builtin.append_ #[22, 22] 22 #[.slice (some ⟨w.heap.size, 0, none⟩) 0 0, .slice X1 A C1]).run Try.prog (w.alloc (.cells #[] 5)) = .ok (.slice d1 A e1) w4 ∧
      (Builtin.append_ #[22, 22] 22 #[.slice d1 A e1, .slice x c cx]).run Try.prog w4 = .ok (.slice d2 (A + c) e2) w5 ∧
      (Builtin.append_ #[22, 22] 22 #[.slice d2 (A + c) e2, .slice X3 (b.length - (A + c)) C3]).run Try.prog w5 = .ok (.slice d3 b.length e3) w6 ∧
      w6.ownsRow w.heap.size 5 1 (.slice d3 b.length e3) b.length ((putAt b A c l).map cellOf) ∧ Below w.heap.size w w5 ∧ Below w.heap.size w w6 := by
  have l1 : (b.take A).length = A := by rw [List.length_take]; omega
  have l2 : (l.take c).length = c := by rw [List.length_take]; omega
  have l3 : (b.drop (A + c)).length = b.length - (A + c) := List.length_drop
  obtain ⟨v1, w4, hr1, ho1, hb4⟩ := append_fresh w X1 C1 (b.take A) s1 (by omega)
  obtain ⟨d1, e1, rfl, _⟩ := Sees.of_own ho1
  obtain ⟨v2, w5, hr2, ho2, hb5⟩ := append_own_any w4 w.heap.size _ (b.take A) ho1 x cx (l.take c) ((hx.below hb4).take c) (by omega) hb4.size
  have hB5 := hb5 _ _ hb4 (Nat.le_refl _)
  obtain ⟨d2, e2, rfl, _⟩ := Sees.of_own ho2
  obtain ⟨v3, w6, hr3, ho3, hb6⟩ := append_own_any w5 w.heap.size _ (b.take A ++ l.take c) ho2 X3 C3 (b.drop (A + c)) (s3.below hB5) (by rw [List.length_append]; omega) hB5.size
  have hB6 := hb6 _ _ hB5 (Nat.le_refl _)
  have lp : (b.take A ++ l.take c ++ b.drop (A + c)).length = b.length := putAt_len b A c l hA hc
  obtain ⟨d3, e3, rfl, _⟩ := Sees.of_own ho3
  have l12 : (b.take A ++ l.take c).length = A + c := by rw [List.length_append, l1, l2]
  rw [l1] at hr1 hr2
  rw [l2] at hr2
  rw [l12] at hr2 hr3
  rw [l3, lp] at hr3
  rw [lp] at ho3
  exact ⟨d1, e1, w4, d2, e2, w5, d3, e3, w6, hr1, hr2, hr3, ho3, hB5, hB6⟩

/-- What the store of them leaves. -/
theorem rput_left (w w3 w6 : World) (r : Nat) (t : RS) (v : Value) (G : Nat → Prop) (h : RA w3 r t v) (hG : G r) (ap : Apart G w w3) (d3 : Option Addr) (e3 : Nat) (B : List UInt8) (hB : B.length = t.b.length)
    (ho : w6.ownsRow w3.heap.size 5 1 (.slice d3 t.b.length e3) t.b.length (B.map cellOf)) (hb : Below w3.heap.size w3 w6) :
    Left RF w G r { t with b := B } (w6.setCell ⟨r, 0, none⟩ (.slice d3 t.b.length e3)) := by
  have hr3 : r < w3.heap.size := (Array.getElem?_eq_some_iff.1 h.row).1
  have hr6 := (hb.block r hr3).trans h.row
  have hown : ∀ k, (Value.slice d3 t.b.length e3).ownBlock = some k → w3.heap.size ≤ k ∧ k < w6.heap.size := by
    intro k hk
    rcases ho.2 with ⟨h0, _⟩ | ⟨q, cap, cur, h0, hlow, hq, _⟩
    · rw [h0] at hk; simp [Value.ownBlock] at hk
    · rw [h0] at hk
      obtain rfl : q = k := by simpa [Value.ownBlock] using hk
      exact ⟨hlow, (Array.getElem?_eq_some_iff.1 hq).1⟩
  have ap6 : Apart G w w6 := ⟨hb.os.trans ap.os, hb.tape.trans ap.tape, hb.output.trans ap.output, Nat.le_trans ap.size hb.size, fun k hk hn => (hb.block k (Nat.lt_of_lt_of_le hk ap.size)).trans (ap.block k hk hn)⟩
  refine ⟨fun k => k = r ∨ (Value.slice d3 t.b.length e3).ownBlock = some k, ⟨.slice d3 t.b.length e3, ⟨?_, ?_, by rw [hB]; exact h.small, h.s1, h.s2, h.t1, h.t2⟩, .inl rfl, fun k hk => .inr hk, ?_⟩, ap6.setCell (.inl hG) 0 _, ?_⟩
  · rw [heap_setCell_same _ _ _ _ _ _ hr6]; rfl
  · have ho' : w6.ownsRow 0 5 1 (.slice d3 t.b.length e3) B.length (B.map cellOf) := by
      rw [hB]
      refine ⟨ho.1, ?_⟩
      rcases ho.2 with h0 | ⟨q, cap, cur, h0, hlow, h7⟩
      · exact .inl h0
      · exact .inr ⟨q, cap, cur, h0, Nat.zero_le _, h7⟩
    exact own_keep ho' (fun k hk => heap_setCell_other _ _ _ _ (by rintro rfl; have := (hown k hk).1; omega))
  · rintro k (rfl | hk)
    · have := hb.size; simp; omega
    · simpa using (hown k hk).2
  · rintro k (rfl | hk)
    · exact .inl hG
    · exact .inr (Nat.le_trans ap.size (hown k hk).1)

def rwriteE (t : RS) (a : Int) (l : List UInt8) : Nat := if chk t.dead t.b.length a l.length ≠ 0 then chk t.dead t.b.length a l.length else if t.skip = 0 then 5 else 0
def rcut (t : RS) (L : Nat) : Nat := if t.skip = 0 then min L t.torn.toNat else L
def rwriteT (t : RS) (a : Int) (l : List UInt8) : RS :=
  if chk t.dead t.b.length a l.length ≠ 0 then t else { t with b := putAt t.b a.toNat (rcut t l.length) l, skip := max (t.skip - 1) (-1), dead := decide (t.skip = 0), n := t.n + 1 }

set_option maxHeartbeats 1600000 in
set_option maxRecDepth 20000 in
theorem rwrite_refused (w : World) (r : Nat) (t : RS) (G : Nat → Prop) (h : RF w r t G) (a : Int) (x : Option Addr) (cx : Nat) (l : List UInt8) (hll : l.length ≤ 9223372036854775807) (E : Nat) (hE : E = chk t.dead t.b.length a l.length) (hc : E ≠ 0) :
    Calls Try.prog 10 #[.pointer (some ⟨r, 0, none⟩), .int .i64 a, .slice x l.length cx] w fun e w' => e = .returned (.int .i64 (E : Int)) ∧ w' = w := by
  obtain ⟨v, h, _, _, _⟩ := h
  have c0 := h.c0
  have c3 := h.c3
  have hsm := h.small
  cases hd : t.dead
  · have hE2 : E = 1 ∧ (a < 0 ∨ (l.length : Int) < 0 ∨ (t.b.length : Int) - a < l.length) := by
      unfold chk at hE
      rw [hd, if_neg (by simp)] at hE
      split at hE
      · rename_i hh; exact ⟨hE, hh⟩
      · exact absurd hE hc
    obtain ⟨rfl, hbad⟩ := hE2
    rw [hd] at c3
    obtain ⟨av, cv, rfl, _⟩ := h.sees
    clear h hE hc
    by_cases h0 : a < 0
    · have d0 : decide (a < 0) = true := by simp [h0]
      clear hbad
      go_enter Try.func10, Try.ntmps10
      go_wp2
      go_ret
      exact ⟨rfl, rfl⟩
    have d0 : decide (a < 0) = false := by simp; omega
    by_cases h2 : (t.b.length : Int) < a
    · have d2 : decide ((t.b.length : Int) < a) = true := by simp [h2]
      clear hbad
      go_enter Try.func10, Try.ntmps10
      go_wp2
      go_ret
      exact ⟨rfl, rfl⟩
    have d2 : decide ((t.b.length : Int) < a) = false := by simp; omega
    have d3 : decide ((t.b.length : Int) - a < (l.length : Int)) = true := by simp; omega
    clear hbad
    go_enter Try.func10, Try.ntmps10
    go_wp2
    go_ret
    exact ⟨rfl, rfl⟩
  · obtain rfl : E = 5 := by unfold chk at hE; rw [hd] at hE; exact hE
    rw [hd] at c3
    clear h hE hc
    go_enter Try.func10, Try.ntmps10
    go_wp2
    go_ret
    exact ⟨rfl, rfl⟩
end Go.Proofs.Ytjmbioedpghopaa

namespace Go.Proofs.Ytjmbioedpghopaa
open Go.ChangeShapes Go.WideShapes Go.ChangeAt Go.RowKit

set_option maxHeartbeats 3200000 in
set_option maxRecDepth 20000 in
theorem rwrite_plain (w : World) (r : Nat) (t : RS) (G : Nat → Prop) (h : RF w r t G) (hd : t.dead = false) (hn : t.n ≤ 1000000) (A : Nat) (x : Option Addr) (cx : Nat) (l : List UInt8) (hx : Sees w x cx l) (hxn : ∀ b off, x = some ⟨b, off, none⟩ → l ≠ [] → ¬ G b) (hAl : A + l.length ≤ t.b.length) (hsk : t.skip ≠ 0) :
    Calls Try.prog 10 #[.pointer (some ⟨r, 0, none⟩), .int .i64 (A : Int), .slice x l.length cx] w fun e w' => e = .returned (.int .i64 0) ∧ Left RF w G r { t with b := putAt t.b A l.length l, skip := max (t.skip - 1) (-1), dead := false, n := t.n + 1 } w' := by
  obtain ⟨v, h, hG, hv, hl⟩ := h
  obtain ⟨mx, hmx⟩ : ∃ mx, mx = max (t.skip - 1) (-1) := ⟨_, rfl⟩
  rw [← hmx]
  have hs1 := h.s1
  have hs2 := h.s2
  have h1 := h.set 4 (.int .i64 ((t.n : Int) + 1)) { t with n := t.n + 1 } rfl h.s1 h.s2 h.t1 h.t2 (by simp)
  have h3 := h1.set 1 (.int .i64 mx) { t with n := t.n + 1, skip := mx } rfl (by simp only []; omega) (by simp only []; omega) h.t1 h.t2 rfl
  have ef : ({ t with n := t.n + 1, skip := mx } : RS) = { t with skip := mx, dead := false, n := t.n + 1 } := by rw [← hd]
  rw [ef] at h3
  have dsk : (t.skip == 0) = false := by simp [hsk]
  have ap3 : Apart G w ((w.setCell ⟨r, 4, none⟩ (.int .i64 ((t.n : Int) + 1))).setCell ⟨r, 1, none⟩ (.int .i64 mx)) := apart_set (apart_set (Apart.refl _ _) hG _ _) hG _ _
  obtain ⟨W3, hW3⟩ : ∃ W3, W3 = (w.setCell ⟨r, 4, none⟩ (.int .i64 ((t.n : Int) + 1))).setCell ⟨r, 1, none⟩ (.int .i64 mx) := ⟨_, rfl⟩
  have HW3 : Hid (W3 = (w.setCell ⟨r, 4, none⟩ (.int .i64 ((t.n : Int) + 1))).setCell ⟨r, 1, none⟩ (.int .i64 mx)) := hW3
  rw [← hW3] at h3 ap3
  have hx3 : Sees W3 x cx l := ap3.sees hx hxn
  have hcl : l.length ≤ l.length := by omega
  have hAC : A + l.length ≤ t.b.length := by omega
  have hsm : t.b.length ≤ 4096 := h.small
  have hll : l.length ≤ 9223372036854775807 := by omega
  have hlc : l.length ≤ cx := hx.fits
  have hcx : cx ≤ 9223372036854775807 := by have := hx.room; unfold maxLen at this; omega
  have hPL : (putAt t.b A l.length l).length = t.b.length := putAt_len _ _ _ _ hAC hcl
  have c0 := h.c0
  have c1 := h.c1
  have c2 := h.c2
  have c3 := h.c3
  have c4 := h.c4
  have f1 := h.lax 1
  have f3 := h.lax 3
  have f4 := h.lax 4
  rw [hd] at c3
  have y0 := h3.c0
  have y0a : (W3.alloc (.cells #[] 5)).cell? ⟨r, 0, none⟩ = some v := by
    have hb : Below W3.heap.size W3 (W3.alloc (.cells #[] 5)) := (Below.refl _ _).alloc (Nat.le_refl _) _
    rw [hb.cell (p := ⟨r, 0, none⟩) (World.block_lt_of_cell? W3 _ y0)]; exact y0
  have hv3 := h3.sees
  have hval := h3.val
  have d0 : decide ((A : Int) < 0) = false := by simp
  have d2 : decide (t.b.length < A) = false := by simp; omega
  have d2' : ¬ (t.b.length < A) := by omega
  have d3 : decide ((t.b.length : Int) - (A : Int) < (l.length : Int)) = false := by simp; omega
  have e1 : A ≤ t.b.length := by omega
  have q1 : l.length ≤ cx := by omega
  have hwp : IntKind.i64.wrap ((A : Int) + (l.length : Nat)) = ((A + l.length : Nat) : Int) := by rw [IntKind.wrap_i64]; omega
  have HL : Hid (∀ w6 d3 e3, w6.ownsRow W3.heap.size 5 1 (.slice d3 t.b.length e3) t.b.length ((putAt t.b A l.length l).map cellOf) → Below W3.heap.size W3 w6 →
      Left RF w G r { t with b := putAt t.b A l.length l, skip := mx, dead := false, n := t.n + 1 } (w6.setCell ⟨r, 0, none⟩ (.slice d3 t.b.length e3))) := fun w6 d3 e3 ho hb =>
    rput_left w W3 w6 r { t with skip := mx, dead := false, n := t.n + 1 } v G h3 hG ap3 d3 e3 _ hPL ho hb
  have HY : Hid (∀ w6, Below W3.heap.size W3 w6 → w6.cell? ⟨r, 0, none⟩ = some v ∧ w6.cell? ⟨r, 3, none⟩ = some (.bool false) ∧ w6.frozen? ⟨r, 0, none⟩ = false) := fun w6 hb => by
    have hrow := (hb.block r (Array.getElem?_eq_some_iff.1 h3.row).1).trans h3.row
    exact ⟨cell_of_row _ _ 0 _ _ _ hrow, cell_of_row _ _ 3 _ _ _ hrow, frozen_of_row _ _ 0 _ _ hrow⟩
  have HMV : Hid ((if wrap64 (t.skip - 1) < -1 then -1 else wrap64 (t.skip - 1)) = mx) := by
    have e : wrap64 (t.skip - 1) = t.skip - 1 := by unfold wrap64; omega
    show (if wrap64 (t.skip - 1) < -1 then -1 else wrap64 (t.skip - 1)) = mx
    rw [e]
    split <;> omega
  have RUN := fun X1 C1 s1 X3 C3 s3 => rput_run W3 t.b A l.length x cx l hx3 hAC hcl hsm X1 C1 s1 X3 C3 s3
  have HRUN : Hid (∀ (X1 : Option Addr) (C1 : Nat) (_ : Sees W3 X1 C1 (t.b.take A)) (X3 : Option Addr) (C3 : Nat) (_ : Sees W3 X3 C3 (t.b.drop (A + l.length))), _) := RUN
  obtain ⟨av, cv, hav, hsv⟩ := hv3
  have hsv : Sees W3 av cv t.b := hsv
  have hav : v = .slice av t.b.length cv := hav
  subst hav
  have HSV : Hid (Sees W3 av cv t.b) := hsv
  have Y0A : Hid ((W3.alloc (.cells #[] 5)).cell? ⟨r, 0, none⟩ = some (.slice av t.b.length cv)) := y0a
  have HVAL : Hid ((Value.slice av t.b.length cv = .slice none 0 0 ∧ t.b = []) ∨ ∃ q cap, Value.slice av t.b.length cv = .slice (some ⟨q, 0, none⟩) t.b.length cap ∧ t.b.length ≤ cap ∧ cap ≤ 9223372036854775807 ∧ q ≠ r) := hval
  clear h3 ap3 hx3 hx hxn hW3 hPL hv hl h hs1 hs2 hmx RUN hsv hval y0 y0a
  go_enter Try.func10, Try.ntmps10
  go_upto_region 11 with fail
  (try rw [HMV.out])
  rw [← HW3.out]
  clear c0 c1 c2 c3 c4 f1 f3 f4 HW3 HMV
  rcases HVAL.out with ⟨he, hb⟩ | ⟨q, cap, he, hfc, hcm, _⟩
  · obtain rfl : A = 0 := by rw [hb] at hAl; simp at hAl; omega
    obtain rfl : l = [] := by rw [hb] at hAl; simp at hAl; exact hAl
    obtain ⟨tb, sk, to, de, tn⟩ := t
    simp only at hb
    subst hb
    simp only [Value.slice.injEq] at he
    obtain ⟨rfl, _, rfl⟩ := he
    obtain ⟨d1, e1', w4, d2', e2', w5, d3', e3', w6, hr1, hr2, hr3, ho, hB5, hB6⟩ := HRUN.out none 0 (by simpa using Sees.nil' W3) none 0 (by simpa using Sees.nil' W3)
    have HLE := HL.out w6 d3' e3' ho hB6
    obtain ⟨z0, _, _⟩ := HY.out w5 hB5
    obtain ⟨u0, u3, uf⟩ := HY.out w6 hB6
    have HR1 : Hid (_ = _) := hr1
    have HR2 : Hid (_ = _) := hr2
    have HR3 : Hid (_ = _) := hr3
    have HE : Hid (Left RF w G r _ (w6.setCell ⟨r, 0, none⟩ _)) := HLE
    have y0a := Y0A.out
    clear hr1 hr2 hr3 ho hB5 hB6 HLE HL HY HRUN HVAL HSV Y0A
    go_upto_region 12 with (at_builtin; refine wpList_append_run rfl _ _ 22 rfl _ _ _ rfl rfl HR1.out ?_)
    clear HR1 y0a
    go_upto_region 13 with (at_builtin; refine wpList_append_run rfl _ _ 22 rfl _ _ _ rfl rfl HR2.out ?_)
    clear HR2
    go_upto_region 14 with (at_builtin; refine wpList_append_run rfl _ _ 22 rfl _ _ _ rfl rfl HR3.out ?_)
    clear HR3
    go_wp2
    go_ret
    exact ⟨rfl, HE.out⟩
  · simp only [Value.slice.injEq, true_and] at he
    obtain ⟨rfl, rfl⟩ := he
    have hct := HSV.out.cut (A + l.length) hAC
    have e2 : A ≤ cv := by omega
    have e5 : A + l.length ≤ cv := by omega
    by_cases hcA : cv = A + l.length
    · rw [if_pos hcA] at hct
      obtain ⟨d1, e1', w4, d2', e2', w5, d3', e3', w6, hr1, hr2, hr3, ho, hB5, hB6⟩ := HRUN.out (some ⟨q, 0, none⟩) cv (HSV.out.take A) (some ⟨q, 0, none⟩) (cv - (A + l.length)) hct
      have HLE := HL.out w6 d3' e3' ho hB6
      obtain ⟨z0, _, _⟩ := HY.out w5 hB5
      obtain ⟨u0, u3, uf⟩ := HY.out w6 hB6
      have HR1 : Hid (_ = _) := hr1
      have HR2 : Hid (_ = _) := hr2
      have HR3 : Hid (_ = _) := hr3
      have HE : Hid (Left RF w G r _ (w6.setCell ⟨r, 0, none⟩ _)) := HLE
      have y0a := Y0A.out
      clear hr1 hr2 hr3 ho hB5 hB6 HLE HL HY HRUN HVAL HSV Y0A
      go_upto_region 12 with (at_builtin; refine wpList_append_run rfl _ _ 22 rfl _ _ _ rfl rfl HR1.out ?_)
      clear HR1 y0a
      go_upto_region 13 with (at_builtin; refine wpList_append_run rfl _ _ 22 rfl _ _ _ rfl rfl HR2.out ?_)
      clear HR2
      go_upto_region 14 with (at_builtin; refine wpList_append_run rfl _ _ 22 rfl _ _ _ rfl rfl HR3.out ?_)
      clear HR3
      go_wp2
      go_ret
      exact ⟨rfl, HE.out⟩
    · rw [if_neg hcA] at hct
      obtain ⟨d1, e1', w4, d2', e2', w5, d3', e3', w6, hr1, hr2, hr3, ho, hB5, hB6⟩ := HRUN.out (some ⟨q, 0, none⟩) cv (HSV.out.take A) (some ⟨q, A + l.length, none⟩) (cv - (A + l.length)) hct
      have HLE := HL.out w6 d3' e3' ho hB6
      obtain ⟨z0, _, _⟩ := HY.out w5 hB5
      obtain ⟨u0, u3, uf⟩ := HY.out w6 hB6
      have HR1 : Hid (_ = _) := hr1
      have HR2 : Hid (_ = _) := hr2
      have HR3 : Hid (_ = _) := hr3
      have HE : Hid (Left RF w G r _ (w6.setCell ⟨r, 0, none⟩ _)) := HLE
      have y0a := Y0A.out
      clear hr1 hr2 hr3 ho hB5 hB6 HLE HL HY HRUN HVAL HSV Y0A
      go_upto_region 12 with (at_builtin; refine wpList_append_run rfl _ _ 22 rfl _ _ _ rfl rfl HR1.out ?_)
      clear HR1 y0a
      go_upto_region 13 with (at_builtin; refine wpList_append_run rfl _ _ 22 rfl _ _ _ rfl rfl HR2.out ?_)
      clear HR2
      go_upto_region 14 with (at_builtin; refine wpList_append_run rfl _ _ 22 rfl _ _ _ rfl rfl HR3.out ?_)
      clear HR3
      go_wp2
      go_ret
      exact ⟨rfl, HE.out⟩
end Go.Proofs.Ytjmbioedpghopaa

namespace Go.Proofs.Ytjmbioedpghopaa
open Go.ChangeShapes Go.WideShapes Go.ChangeAt Go.RowKit

set_option maxHeartbeats 3200000 in
set_option maxRecDepth 20000 in
theorem rwrite_short (w : World) (r : Nat) (t : RS) (G : Nat → Prop) (h : RF w r t G) (hd : t.dead = false) (hn : t.n ≤ 1000000) (A : Nat) (x : Option Addr) (cx : Nat) (l : List UInt8) (hx : Sees w x cx l) (hxn : ∀ b off, x = some ⟨b, off, none⟩ → l ≠ [] → ¬ G b) (hAl : A + l.length ≤ t.b.length) (hsk : t.skip = 0) (T : Nat) (hT : t.torn = (T : Int)) (hTl : T < l.length) :
    Calls Try.prog 10 #[.pointer (some ⟨r, 0, none⟩), .int .i64 (A : Int), .slice x l.length cx] w fun e w' => e = .returned (.int .i64 5) ∧ Left RF w G r { t with b := putAt t.b A T l, skip := max (t.skip - 1) (-1), dead := true, n := t.n + 1 } w' := by
  obtain ⟨v, h, hG, hv, hl⟩ := h
  have hmx : max (t.skip - 1) (-1) = -1 := by rw [hsk]; rfl
  rw [hmx]
  have hs1 := h.s1
  have hs2 := h.s2
  have h1 := h.set 4 (.int .i64 ((t.n : Int) + 1)) { t with n := t.n + 1 } rfl h.s1 h.s2 h.t1 h.t2 (by simp)
  have h2 := h1.set 3 (.bool true) { t with n := t.n + 1, dead := true } rfl h.s1 h.s2 h.t1 h.t2 rfl
  have h3 := h2.set 1 (.int .i64 (-1)) { t with skip := -1, dead := true, n := t.n + 1 } rfl (by simp only []; omega) (by simp only []; omega) h.t1 h.t2 rfl
  have dsk : (t.skip == 0) = true := by simp [hsk]
  have ap3 : Apart G w (((w.setCell ⟨r, 4, none⟩ (.int .i64 ((t.n : Int) + 1))).setCell ⟨r, 3, none⟩ (.bool true)).setCell ⟨r, 1, none⟩ (.int .i64 (-1))) := apart_set (apart_set (apart_set (Apart.refl _ _) hG _ _) hG _ _) hG _ _
  obtain ⟨W3, hW3⟩ : ∃ W3, W3 = ((w.setCell ⟨r, 4, none⟩ (.int .i64 ((t.n : Int) + 1))).setCell ⟨r, 3, none⟩ (.bool true)).setCell ⟨r, 1, none⟩ (.int .i64 (-1)) := ⟨_, rfl⟩
  have HW3 : Hid (W3 = ((w.setCell ⟨r, 4, none⟩ (.int .i64 ((t.n : Int) + 1))).setCell ⟨r, 3, none⟩ (.bool true)).setCell ⟨r, 1, none⟩ (.int .i64 (-1))) := hW3
  rw [← hW3] at h3 ap3
  have hx3 : Sees W3 x cx l := ap3.sees hx hxn
  have hcl : T ≤ l.length := by omega
  have hAC : A + T ≤ t.b.length := by omega
  have hsm : t.b.length ≤ 4096 := h.small
  have hll : l.length ≤ 9223372036854775807 := by omega
  have hlc : l.length ≤ cx := hx.fits
  have hcx : cx ≤ 9223372036854775807 := by have := hx.room; unfold maxLen at this; omega
  have hPL : (putAt t.b A T l).length = t.b.length := putAt_len _ _ _ _ hAC hcl
  have c0 := h.c0
  have c1 := h.c1
  have c2 := h.c2
  have c3 := h.c3
  have c4 := h.c4
  rw [hT] at c2
  have f1 := h.lax 1
  have f3 := h.lax 3
  have f4 := h.lax 4
  rw [hd] at c3
  have y0 := h3.c0
  have y0a : (W3.alloc (.cells #[] 5)).cell? ⟨r, 0, none⟩ = some v := by
    have hb : Below W3.heap.size W3 (W3.alloc (.cells #[] 5)) := (Below.refl _ _).alloc (Nat.le_refl _) _
    rw [hb.cell (p := ⟨r, 0, none⟩) (World.block_lt_of_cell? W3 _ y0)]; exact y0
  have hv3 := h3.sees
  have hval := h3.val
  have d0 : decide ((A : Int) < 0) = false := by simp
  have d2 : decide (t.b.length < A) = false := by simp; omega
  have d2' : ¬ (t.b.length < A) := by omega
  have d3 : decide ((t.b.length : Int) - (A : Int) < (l.length : Int)) = false := by simp; omega
  have e1 : A ≤ t.b.length := by omega
  have q1 : T ≤ cx := by omega
  have hwp : IntKind.i64.wrap ((A : Int) + (T : Nat)) = ((A + T : Nat) : Int) := by rw [IntKind.wrap_i64]; omega
  have HL : Hid (∀ w6 d3 e3, w6.ownsRow W3.heap.size 5 1 (.slice d3 t.b.length e3) t.b.length ((putAt t.b A T l).map cellOf) → Below W3.heap.size W3 w6 →
      Left RF w G r { t with b := putAt t.b A T l, skip := (-1), dead := true, n := t.n + 1 } (w6.setCell ⟨r, 0, none⟩ (.slice d3 t.b.length e3))) := fun w6 d3 e3 ho hb =>
    rput_left w W3 w6 r { t with skip := (-1), dead := true, n := t.n + 1 } v G h3 hG ap3 d3 e3 _ hPL ho hb
  have HY : Hid (∀ w6, Below W3.heap.size W3 w6 → w6.cell? ⟨r, 0, none⟩ = some v ∧ w6.cell? ⟨r, 3, none⟩ = some (.bool true) ∧ w6.frozen? ⟨r, 0, none⟩ = false) := fun w6 hb => by
    have hrow := (hb.block r (Array.getElem?_eq_some_iff.1 h3.row).1).trans h3.row
    exact ⟨cell_of_row _ _ 0 _ _ _ hrow, cell_of_row _ _ 3 _ _ _ hrow, frozen_of_row _ _ 0 _ _ hrow⟩
  have HMV : Hid ((if wrap64 (t.skip - 1) < -1 then -1 else wrap64 (t.skip - 1)) = (-1)) := by
    have e : wrap64 (t.skip - 1) = t.skip - 1 := by unfold wrap64; omega
    show (if wrap64 (t.skip - 1) < -1 then -1 else wrap64 (t.skip - 1)) = (-1)
    rw [e]
    split <;> omega
  have RUN := fun X1 C1 s1 X3 C3 s3 => rput_run W3 t.b A T x cx l hx3 hAC hcl hsm X1 C1 s1 X3 C3 s3
  have HRUN : Hid (∀ (X1 : Option Addr) (C1 : Nat) (_ : Sees W3 X1 C1 (t.b.take A)) (X3 : Option Addr) (C3 : Nat) (_ : Sees W3 X3 C3 (t.b.drop (A + T))), _) := RUN
  obtain ⟨av, cv, hav, hsv⟩ := hv3
  have hsv : Sees W3 av cv t.b := hsv
  have hav : v = .slice av t.b.length cv := hav
  subst hav
  have HSV : Hid (Sees W3 av cv t.b) := hsv
  have Y0A : Hid ((W3.alloc (.cells #[] 5)).cell? ⟨r, 0, none⟩ = some (.slice av t.b.length cv)) := y0a
  have HVAL : Hid ((Value.slice av t.b.length cv = .slice none 0 0 ∧ t.b = []) ∨ ∃ q cap, Value.slice av t.b.length cv = .slice (some ⟨q, 0, none⟩) t.b.length cap ∧ t.b.length ≤ cap ∧ cap ≤ 9223372036854775807 ∧ q ≠ r) := hval
  clear h3 ap3 hx3 hx hxn hW3 hPL hv hl h hs1 hs2 hmx RUN hsv hval y0 y0a hT
  go_enter Try.func10, Try.ntmps10
  go_upto_region 11 with fail
  (try rw [HMV.out])
  rw [← HW3.out]
  clear c0 c1 c2 c3 c4 f1 f3 f4 HW3 HMV
  rcases HVAL.out with ⟨he, hb⟩ | ⟨q, cap, he, hfc, hcm, _⟩
  · exfalso
    rw [hb] at hAl; simp only [List.length_nil] at hAl; omega
  · simp only [Value.slice.injEq, true_and] at he
    obtain ⟨rfl, rfl⟩ := he
    have hct := HSV.out.cut (A + T) hAC
    have e2 : A ≤ cv := by omega
    have e5 : A + T ≤ cv := by omega
    by_cases hcA : cv = A + T
    · exfalso; omega
    · rw [if_neg hcA] at hct
      obtain ⟨d1, e1', w4, d2', e2', w5, d3', e3', w6, hr1, hr2, hr3, ho, hB5, hB6⟩ := HRUN.out (some ⟨q, 0, none⟩) cv (HSV.out.take A) (some ⟨q, A + T, none⟩) (cv - (A + T)) hct
      have HLE := HL.out w6 d3' e3' ho hB6
      obtain ⟨z0, _, _⟩ := HY.out w5 hB5
      obtain ⟨u0, u3, uf⟩ := HY.out w6 hB6
      have HR1 : Hid (_ = _) := hr1
      have HR2 : Hid (_ = _) := hr2
      have HR3 : Hid (_ = _) := hr3
      have HE : Hid (Left RF w G r _ (w6.setCell ⟨r, 0, none⟩ _)) := HLE
      have y0a := Y0A.out
      clear hr1 hr2 hr3 ho hB5 hB6 HLE HL HY HRUN HVAL HSV Y0A
      go_upto_region 12 with (at_builtin; refine wpList_append_run rfl _ _ 22 rfl _ _ _ rfl rfl HR1.out ?_)
      clear HR1 y0a
      go_upto_region 13 with (at_builtin; refine wpList_append_run rfl _ _ 22 rfl _ _ _ rfl rfl HR2.out ?_)
      clear HR2
      go_upto_region 14 with (at_builtin; refine wpList_append_run rfl _ _ 22 rfl _ _ _ rfl rfl HR3.out ?_)
      clear HR3
      go_wp2
      go_ret
      exact ⟨rfl, HE.out⟩
end Go.Proofs.Ytjmbioedpghopaa

namespace Go.Proofs.Ytjmbioedpghopaa
open Go.ChangeShapes Go.WideShapes Go.ChangeAt Go.RowKit

set_option maxHeartbeats 3200000 in
set_option maxRecDepth 20000 in
theorem rwrite_long (w : World) (r : Nat) (t : RS) (G : Nat → Prop) (h : RF w r t G) (hd : t.dead = false) (hn : t.n ≤ 1000000) (A : Nat) (x : Option Addr) (cx : Nat) (l : List UInt8) (hx : Sees w x cx l) (hxn : ∀ b off, x = some ⟨b, off, none⟩ → l ≠ [] → ¬ G b) (hAl : A + l.length ≤ t.b.length) (hsk : t.skip = 0) (T : Nat) (hT : t.torn = (T : Int)) (hTl : l.length ≤ T) :
    Calls Try.prog 10 #[.pointer (some ⟨r, 0, none⟩), .int .i64 (A : Int), .slice x l.length cx] w fun e w' => e = .returned (.int .i64 5) ∧ Left RF w G r { t with b := putAt t.b A l.length l, skip := max (t.skip - 1) (-1), dead := true, n := t.n + 1 } w' := by
  obtain ⟨v, h, hG, hv, hl⟩ := h
  have hmx : max (t.skip - 1) (-1) = -1 := by rw [hsk]; rfl
  rw [hmx]
  have hs1 := h.s1
  have hs2 := h.s2
  have h1 := h.set 4 (.int .i64 ((t.n : Int) + 1)) { t with n := t.n + 1 } rfl h.s1 h.s2 h.t1 h.t2 (by simp)
  have h2 := h1.set 3 (.bool true) { t with n := t.n + 1, dead := true } rfl h.s1 h.s2 h.t1 h.t2 rfl
  have h3 := h2.set 1 (.int .i64 (-1)) { t with skip := -1, dead := true, n := t.n + 1 } rfl (by simp only []; omega) (by simp only []; omega) h.t1 h.t2 rfl
  have dsk : (t.skip == 0) = true := by simp [hsk]
  have ap3 : Apart G w (((w.setCell ⟨r, 4, none⟩ (.int .i64 ((t.n : Int) + 1))).setCell ⟨r, 3, none⟩ (.bool true)).setCell ⟨r, 1, none⟩ (.int .i64 (-1))) := apart_set (apart_set (apart_set (Apart.refl _ _) hG _ _) hG _ _) hG _ _
  obtain ⟨W3, hW3⟩ : ∃ W3, W3 = ((w.setCell ⟨r, 4, none⟩ (.int .i64 ((t.n : Int) + 1))).setCell ⟨r, 3, none⟩ (.bool true)).setCell ⟨r, 1, none⟩ (.int .i64 (-1)) := ⟨_, rfl⟩
  have HW3 : Hid (W3 = ((w.setCell ⟨r, 4, none⟩ (.int .i64 ((t.n : Int) + 1))).setCell ⟨r, 3, none⟩ (.bool true)).setCell ⟨r, 1, none⟩ (.int .i64 (-1))) := hW3
  rw [← hW3] at h3 ap3
  have hx3 : Sees W3 x cx l := ap3.sees hx hxn
  have hcl : l.length ≤ l.length := by omega
  have hAC : A + l.length ≤ t.b.length := by omega
  have hsm : t.b.length ≤ 4096 := h.small
  have hll : l.length ≤ 9223372036854775807 := by omega
  have hlc : l.length ≤ cx := hx.fits
  have hcx : cx ≤ 9223372036854775807 := by have := hx.room; unfold maxLen at this; omega
  have hPL : (putAt t.b A l.length l).length = t.b.length := putAt_len _ _ _ _ hAC hcl
  have c0 := h.c0
  have c1 := h.c1
  have c2 := h.c2
  have c3 := h.c3
  have c4 := h.c4
  rw [hT] at c2
  have f1 := h.lax 1
  have f3 := h.lax 3
  have f4 := h.lax 4
  rw [hd] at c3
  have y0 := h3.c0
  have y0a : (W3.alloc (.cells #[] 5)).cell? ⟨r, 0, none⟩ = some v := by
    have hb : Below W3.heap.size W3 (W3.alloc (.cells #[] 5)) := (Below.refl _ _).alloc (Nat.le_refl _) _
    rw [hb.cell (p := ⟨r, 0, none⟩) (World.block_lt_of_cell? W3 _ y0)]; exact y0
  have hv3 := h3.sees
  have hval := h3.val
  have d0 : decide ((A : Int) < 0) = false := by simp
  have d2 : decide (t.b.length < A) = false := by simp; omega
  have d2' : ¬ (t.b.length < A) := by omega
  have d3 : decide ((t.b.length : Int) - (A : Int) < (l.length : Int)) = false := by simp; omega
  have e1 : A ≤ t.b.length := by omega
  have q1 : l.length ≤ cx := by omega
  have hwp : IntKind.i64.wrap ((A : Int) + (l.length : Nat)) = ((A + l.length : Nat) : Int) := by rw [IntKind.wrap_i64]; omega
  have HL : Hid (∀ w6 d3 e3, w6.ownsRow W3.heap.size 5 1 (.slice d3 t.b.length e3) t.b.length ((putAt t.b A l.length l).map cellOf) → Below W3.heap.size W3 w6 →
      Left RF w G r { t with b := putAt t.b A l.length l, skip := (-1), dead := true, n := t.n + 1 } (w6.setCell ⟨r, 0, none⟩ (.slice d3 t.b.length e3))) := fun w6 d3 e3 ho hb =>
    rput_left w W3 w6 r { t with skip := (-1), dead := true, n := t.n + 1 } v G h3 hG ap3 d3 e3 _ hPL ho hb
  have HY : Hid (∀ w6, Below W3.heap.size W3 w6 → w6.cell? ⟨r, 0, none⟩ = some v ∧ w6.cell? ⟨r, 3, none⟩ = some (.bool true) ∧ w6.frozen? ⟨r, 0, none⟩ = false) := fun w6 hb => by
    have hrow := (hb.block r (Array.getElem?_eq_some_iff.1 h3.row).1).trans h3.row
    exact ⟨cell_of_row _ _ 0 _ _ _ hrow, cell_of_row _ _ 3 _ _ _ hrow, frozen_of_row _ _ 0 _ _ hrow⟩
  have HMV : Hid ((if wrap64 (t.skip - 1) < -1 then -1 else wrap64 (t.skip - 1)) = (-1)) := by
    have e : wrap64 (t.skip - 1) = t.skip - 1 := by unfold wrap64; omega
    show (if wrap64 (t.skip - 1) < -1 then -1 else wrap64 (t.skip - 1)) = (-1)
    rw [e]
    split <;> omega
  have RUN := fun X1 C1 s1 X3 C3 s3 => rput_run W3 t.b A l.length x cx l hx3 hAC hcl hsm X1 C1 s1 X3 C3 s3
  have HRUN : Hid (∀ (X1 : Option Addr) (C1 : Nat) (_ : Sees W3 X1 C1 (t.b.take A)) (X3 : Option Addr) (C3 : Nat) (_ : Sees W3 X3 C3 (t.b.drop (A + l.length))), _) := RUN
  obtain ⟨av, cv, hav, hsv⟩ := hv3
  have hsv : Sees W3 av cv t.b := hsv
  have hav : v = .slice av t.b.length cv := hav
  subst hav
  have HSV : Hid (Sees W3 av cv t.b) := hsv
  have Y0A : Hid ((W3.alloc (.cells #[] 5)).cell? ⟨r, 0, none⟩ = some (.slice av t.b.length cv)) := y0a
  have HVAL : Hid ((Value.slice av t.b.length cv = .slice none 0 0 ∧ t.b = []) ∨ ∃ q cap, Value.slice av t.b.length cv = .slice (some ⟨q, 0, none⟩) t.b.length cap ∧ t.b.length ≤ cap ∧ cap ≤ 9223372036854775807 ∧ q ≠ r) := hval
  clear h3 ap3 hx3 hx hxn hW3 hPL hv hl h hs1 hs2 hmx RUN hsv hval y0 y0a hT
  go_enter Try.func10, Try.ntmps10
  go_upto_region 11 with fail
  (try rw [HMV.out])
  rw [← HW3.out]
  clear c0 c1 c2 c3 c4 f1 f3 f4 HW3 HMV
  rcases HVAL.out with ⟨he, hb⟩ | ⟨q, cap, he, hfc, hcm, _⟩
  · obtain rfl : A = 0 := by rw [hb] at hAl; simp at hAl; omega
    obtain rfl : l = [] := by rw [hb] at hAl; simp at hAl; exact hAl
    obtain ⟨tb, sk, to, de, tn⟩ := t
    simp only at hb
    subst hb
    simp only [Value.slice.injEq] at he
    obtain ⟨rfl, _, rfl⟩ := he
    obtain ⟨d1, e1', w4, d2', e2', w5, d3', e3', w6, hr1, hr2, hr3, ho, hB5, hB6⟩ := HRUN.out none 0 (by simpa using Sees.nil' W3) none 0 (by simpa using Sees.nil' W3)
    have HLE := HL.out w6 d3' e3' ho hB6
    obtain ⟨z0, _, _⟩ := HY.out w5 hB5
    obtain ⟨u0, u3, uf⟩ := HY.out w6 hB6
    have HR1 : Hid (_ = _) := hr1
    have HR2 : Hid (_ = _) := hr2
    have HR3 : Hid (_ = _) := hr3
    have HE : Hid (Left RF w G r _ (w6.setCell ⟨r, 0, none⟩ _)) := HLE
    have y0a := Y0A.out
    clear hr1 hr2 hr3 ho hB5 hB6 HLE HL HY HRUN HVAL HSV Y0A
    go_upto_region 12 with (at_builtin; refine wpList_append_run rfl _ _ 22 rfl _ _ _ rfl rfl HR1.out ?_)
    clear HR1 y0a
    go_upto_region 13 with (at_builtin; refine wpList_append_run rfl _ _ 22 rfl _ _ _ rfl rfl HR2.out ?_)
    clear HR2
    go_upto_region 14 with (at_builtin; refine wpList_append_run rfl _ _ 22 rfl _ _ _ rfl rfl HR3.out ?_)
    clear HR3
    go_wp2
    go_ret
    exact ⟨rfl, HE.out⟩
  · simp only [Value.slice.injEq, true_and] at he
    obtain ⟨rfl, rfl⟩ := he
    have hct := HSV.out.cut (A + l.length) hAC
    have e2 : A ≤ cv := by omega
    have e5 : A + l.length ≤ cv := by omega
    by_cases hcA : cv = A + l.length
    · rw [if_pos hcA] at hct
      obtain ⟨d1, e1', w4, d2', e2', w5, d3', e3', w6, hr1, hr2, hr3, ho, hB5, hB6⟩ := HRUN.out (some ⟨q, 0, none⟩) cv (HSV.out.take A) (some ⟨q, 0, none⟩) (cv - (A + l.length)) hct
      have HLE := HL.out w6 d3' e3' ho hB6
      obtain ⟨z0, _, _⟩ := HY.out w5 hB5
      obtain ⟨u0, u3, uf⟩ := HY.out w6 hB6
      have HR1 : Hid (_ = _) := hr1
      have HR2 : Hid (_ = _) := hr2
      have HR3 : Hid (_ = _) := hr3
      have HE : Hid (Left RF w G r _ (w6.setCell ⟨r, 0, none⟩ _)) := HLE
      have y0a := Y0A.out
      clear hr1 hr2 hr3 ho hB5 hB6 HLE HL HY HRUN HVAL HSV Y0A
      go_upto_region 12 with (at_builtin; refine wpList_append_run rfl _ _ 22 rfl _ _ _ rfl rfl HR1.out ?_)
      clear HR1 y0a
      go_upto_region 13 with (at_builtin; refine wpList_append_run rfl _ _ 22 rfl _ _ _ rfl rfl HR2.out ?_)
      clear HR2
      go_upto_region 14 with (at_builtin; refine wpList_append_run rfl _ _ 22 rfl _ _ _ rfl rfl HR3.out ?_)
      clear HR3
      go_wp2
      go_ret
      exact ⟨rfl, HE.out⟩
    · rw [if_neg hcA] at hct
      obtain ⟨d1, e1', w4, d2', e2', w5, d3', e3', w6, hr1, hr2, hr3, ho, hB5, hB6⟩ := HRUN.out (some ⟨q, 0, none⟩) cv (HSV.out.take A) (some ⟨q, A + l.length, none⟩) (cv - (A + l.length)) hct
      have HLE := HL.out w6 d3' e3' ho hB6
      obtain ⟨z0, _, _⟩ := HY.out w5 hB5
      obtain ⟨u0, u3, uf⟩ := HY.out w6 hB6
      have HR1 : Hid (_ = _) := hr1
      have HR2 : Hid (_ = _) := hr2
      have HR3 : Hid (_ = _) := hr3
      have HE : Hid (Left RF w G r _ (w6.setCell ⟨r, 0, none⟩ _)) := HLE
      have y0a := Y0A.out
      clear hr1 hr2 hr3 ho hB5 hB6 HLE HL HY HRUN HVAL HSV Y0A
      go_upto_region 12 with (at_builtin; refine wpList_append_run rfl _ _ 22 rfl _ _ _ rfl rfl HR1.out ?_)
      clear HR1 y0a
      go_upto_region 13 with (at_builtin; refine wpList_append_run rfl _ _ 22 rfl _ _ _ rfl rfl HR2.out ?_)
      clear HR2
      go_upto_region 14 with (at_builtin; refine wpList_append_run rfl _ _ 22 rfl _ _ _ rfl rfl HR3.out ?_)
      clear HR3
      go_wp2
      go_ret
      exact ⟨rfl, HE.out⟩
end Go.Proofs.Ytjmbioedpghopaa

namespace Go.Proofs.Ytjmbioedpghopaa
open Go.ChangeShapes Go.WideShapes Go.ChangeAt Go.RowKit

theorem rwrite_ok (w : World) (r : Nat) (t : RS) (G : Nat → Prop) (h : RF w r t G) (hn : t.n ≤ 1000000) (a : Int) (x : Option Addr) (cx : Nat) (l : List UInt8) (hx : Sees w x cx l) (hxn : ∀ b off, x = some ⟨b, off, none⟩ → l ≠ [] → ¬ G b) :
    Calls Try.prog 10 #[.pointer (some ⟨r, 0, none⟩), .int .i64 a, .slice x l.length cx] w fun e w' => e = .returned (.int .i64 (rwriteE t a l : Int)) ∧ Left RF w G r (rwriteT t a l) w' := by
  have hll : l.length ≤ 9223372036854775807 := by have := hx.fits; have := hx.room; unfold maxLen at this; omega
  by_cases hc : chk t.dead t.b.length a l.length = 0
  · obtain ⟨hd, ha0, _, hal⟩ := chk_zero hc
    obtain ⟨A, rfl⟩ : ∃ A : Nat, a = (A : Int) := ⟨a.toNat, by omega⟩
    have eT : rwriteT t (A : Int) l = { t with b := putAt t.b A (rcut t l.length) l, skip := max (t.skip - 1) (-1), dead := decide (t.skip = 0), n := t.n + 1 } := by unfold rwriteT; rw [if_neg (by simp [hc])]; rfl
    have eE : rwriteE t (A : Int) l = if t.skip = 0 then 5 else 0 := by unfold rwriteE; rw [if_neg (by simp [hc])]
    rw [eT, eE]
    by_cases hs : t.skip = 0
    · obtain ⟨T, hT⟩ : ∃ T : Nat, t.torn = (T : Int) := ⟨t.torn.toNat, by obtain ⟨v, h1, _⟩ := h; have := h1.t1; omega⟩
      have eD : decide (t.skip = 0) = true := by simp [hs]
      rw [if_pos hs, eD]
      by_cases hTl : T < l.length
      · have eC : rcut t l.length = T := by unfold rcut; rw [if_pos hs, hT]; simp; omega
        rw [eC]
        exact rwrite_short w r t G h hd hn A x cx l hx hxn (by omega) hs T hT hTl
      · have eC : rcut t l.length = l.length := by unfold rcut; rw [if_pos hs, hT]; simp; omega
        rw [eC]
        exact rwrite_long w r t G h hd hn A x cx l hx hxn (by omega) hs T hT (by omega)
    · have eD : decide (t.skip = 0) = false := by simp [hs]
      have eC : rcut t l.length = l.length := by unfold rcut; rw [if_neg hs]
      rw [if_neg hs, eD, eC]
      exact rwrite_plain w r t G h hd hn A x cx l hx hxn (by omega) hs
  · have eT : rwriteT t a l = t := by unfold rwriteT; rw [if_pos hc]
    have eE : rwriteE t a l = chk t.dead t.b.length a l.length := by unfold rwriteE; rw [if_pos hc]
    rw [eT, eE]
    refine (rwrite_refused w r t G h a x cx l hll _ rfl hc).mono ?_
    rintro e w' ⟨rfl, rfl⟩
    exact ⟨rfl, G, h, Apart.refl _ _, fun _ h => .inl h⟩

/-- The two hold the same; a dead one's tear does not matter. -/
structure Sim (s : PS) (t : RS) : Prop where
  b : s.b = t.b
  n : s.n = t.n
  dead : s.dead = t.dead
  tear : s.dead = false → (s.due = true ∧ t.skip = (s.k : Int) ∧ t.torn = (s.m : Int)) ∨ (s.due = false ∧ t.skip = -1)

theorem Sim.chk {s : PS} {t : RS} (h : Sim s t) (a n : Int) : checkE s a n = chk t.dead t.b.length a n := by unfold checkE; rw [h.b, h.dead]; rfl
theorem sim_new (n : Nat) : Sim (newS n) (rnewT n) := ⟨rfl, rfl, rfl, fun _ => .inr ⟨rfl, rfl⟩⟩
theorem Sim.wake {s : PS} {t : RS} (h : Sim s t) : Sim (wakeS s) (rwakeT t) := ⟨h.b, h.n, rfl, fun _ => .inr ⟨rfl, rfl⟩⟩
theorem Sim.torn {s : PS} {t : RS} (h : Sim s t) (k n : Int) : Sim (tearS s k n) (rtearT t k n) := by
  unfold tearS rtearT
  by_cases h0 : 0 ≤ k ∧ 0 ≤ n
  · rw [if_pos h0, if_pos h0]
    exact ⟨h.b, h.n, h.dead, fun _ => .inl ⟨rfl, by simp only []; omega, by simp only []; omega⟩⟩
  · rw [if_neg h0, if_neg h0]
    exact ⟨h.b, h.n, h.dead, fun _ => .inr ⟨rfl, rfl⟩⟩
theorem sim_write {s : PS} {t : RS} (h : Sim s t) (a : Int) (l : List UInt8) : writeE s a l = rwriteE t a l ∧ Sim (writeS s a l) (rwriteT t a l) := by
  have hc := h.chk a l.length
  by_cases h0 : checkE s a l.length = 0
  · have h0' : chk t.dead t.b.length a l.length = 0 := by rw [← hc]; exact h0
    have eE : writeE s a l = if tornB s then 5 else 0 := by unfold writeE; rw [if_neg (by simp [h0])]
    have eS : writeS s a l = { nextS s with b := putAt s.b a.toNat (cutN s l.length) l, n := s.n + 1, dead := s.dead || tornB s } := by unfold writeS; rw [if_neg (by simp [h0])]
    have rE : rwriteE t a l = if t.skip = 0 then 5 else 0 := by unfold rwriteE; rw [if_neg (by simp [h0'])]
    have rT : rwriteT t a l = { t with b := putAt t.b a.toNat (rcut t l.length) l, skip := max (t.skip - 1) (-1), dead := decide (t.skip = 0), n := t.n + 1 } := by unfold rwriteT; rw [if_neg (by simp [h0'])]
    rw [eE, eS, rE, rT]
    have hd := (check_zero h0).1
    rcases h.tear hd with ⟨h1, h2, h3⟩ | ⟨h1, h2⟩
    · by_cases hk : s.k = 0
      · have e1 : tornB s = true := by simp [tornB, h1, hk]
        have e2 : t.skip = 0 := by omega
        have e3 : cutN s l.length = rcut t l.length := by unfold cutN rcut; rw [e1, if_pos rfl, if_pos e2, h3]; simp
        rw [e1, if_pos rfl, if_pos e2, e3, h.b]
        exact ⟨rfl, rfl, by simp only [h.n], by simp [e2], fun hx => by simp at hx⟩
      · have e1 : tornB s = false := by simp [tornB, hk]
        have e2 : ¬ (t.skip = 0) := by omega
        have e3 : cutN s l.length = rcut t l.length := by unfold cutN rcut; rw [e1, if_neg e2]; simp
        rw [e1, if_neg (by simp), if_neg e2, e3, h.b]
        refine ⟨rfl, rfl, by simp only [h.n], by simp [e2, hd], fun _ => .inl ⟨h1, ?_, h3⟩⟩
        simp only [nextS, h1, if_true]
        omega
    · have e1 : tornB s = false := by simp [tornB, h1]
      have e2 : ¬ (t.skip = 0) := by omega
      have e3 : cutN s l.length = rcut t l.length := by unfold cutN rcut; rw [e1, if_neg e2]; simp
      rw [e1, if_neg (by simp), if_neg e2, e3, h.b]
      refine ⟨rfl, rfl, by simp only [h.n], by simp [e2, hd], fun _ => .inr ⟨h1, ?_⟩⟩
      show max (t.skip - 1) (-1) = -1
      omega
  · have h0' : ¬ chk t.dead t.b.length a l.length = 0 := by rw [← hc]; exact h0
    have eE : writeE s a l = checkE s a l.length := by unfold writeE; rw [if_pos h0]
    have eS : writeS s a l = s := by unfold writeS; rw [if_pos h0]
    have rE : rwriteE t a l = chk t.dead t.b.length a l.length := by unfold rwriteE; rw [if_pos h0']
    have rT : rwriteT t a l = t := by unfold rwriteT; rw [if_pos h0']
    rw [eE, eS, rE, rT]
    exact ⟨hc, h⟩
theorem Sim.read {s : PS} {t : RS} (h : Sim s t) (a n : Int) : readL s a n = rreadL t a n := by
  unfold readL rreadL; rw [h.chk a n, h.b]
theorem write_n (s : PS) (a : Int) (l : List UInt8) : (writeS s a l).n ≤ s.n + 1 := by
  unfold writeS; split <;> simp
theorem tear_n (s : PS) (k n : Int) : (tearS s k n).n = s.n := by unfold tearS; split <;> rfl
theorem wake_n (s : PS) : (wakeS s).n = s.n := rfl

/-- Both in memory that w0 has not, apart from each other; w0's own is as it was. -/
def Duo (w0 w : World) (g : Nat) (s : PS) (r : Nat) (t : RS) : Prop := Both PF RF w0.heap.size w g s r t ∧ Below w0.heap.size w0 w
theorem Duo.next {w0 w w' : World} {g : Nat} {s : PS} {r : Nat} {t : RS} (h : Duo w0 w g s r t) (hb : Below w.heap.size w w') : Duo w0 w' g s r t :=
  ⟨h.1.below pf_kept rf_kept hb, h.2.trans (hb.mono h.2.size)⟩
theorem Duo.drew {w0 w : World} {g : Nat} {s : PS} {r : Nat} {t : RS} (h : Duo w0 w g s r t) : Duo w0 w.drew g s r t := h.next (Below.refl _ _).drew

theorem pwrite_duo {w0 w : World} {g : Nat} {s : PS} {r : Nat} {t : RS} (h : Duo w0 w g s r t) (hn : s.n ≤ 1000000) (a : Int) (ha : (Lit.int .i64 a).wf = true) (x : Option Addr) (cx : Nat) (l : List UInt8) (hx : Sees w0 x cx l) :
    Calls Try.prog 9 #[.pointer (some ⟨g, 0, none⟩), .int .i64 a, .slice x l.length cx] w fun e w' => e = .returned (.int .i64 (writeE s a l : Int)) ∧ Duo w0 w' g (writeS s a l) r t := by
  obtain ⟨⟨F, G, h1, h2, h3, h4, h5⟩, hb⟩ := h
  refine (write_ok w g s F h1 hn a ha x cx l (hx.below hb) (fun bb off he hne hf => ?_)).mono ?_
  · have := h4 bb hf; have := sees_lt hx bb off he hne; omega
  · rintro e w' ⟨rfl, hl⟩
    exact ⟨rfl, Both.first rf_kept h2 h3 h4 h5 hb.size hl, hl.below hb h4 hb.size⟩
theorem rwrite_duo {w0 w : World} {g : Nat} {s : PS} {r : Nat} {t : RS} (h : Duo w0 w g s r t) (hn : t.n ≤ 1000000) (a : Int) (x : Option Addr) (cx : Nat) (l : List UInt8) (hx : Sees w0 x cx l) :
    Calls Try.prog 10 #[.pointer (some ⟨r, 0, none⟩), .int .i64 a, .slice x l.length cx] w fun e w' => e = .returned (.int .i64 (rwriteE t a l : Int)) ∧ Duo w0 w' g s r (rwriteT t a l) := by
  obtain ⟨⟨F, G, h1, h2, h3, h4, h5⟩, hb⟩ := h
  refine (rwrite_ok w r t G h2 hn a x cx l (hx.below hb) (fun bb off he hne hf => ?_)).mono ?_
  · have := h5 bb hf; have := sees_lt hx bb off he hne; omega
  · rintro e w' ⟨rfl, hl⟩
    exact ⟨rfl, Both.second pf_kept h1 h3 h4 h5 hb.size hl, hl.below hb h5 hb.size⟩
theorem ptear_duo {w0 w : World} {g : Nat} {s : PS} {r : Nat} {t : RS} (h : Duo w0 w g s r t) (k n : Int) (hk : (Lit.int .i64 k).wf = true) (hn : (Lit.int .i64 n).wf = true) :
    Calls Try.prog 14 #[.pointer (some ⟨g, 0, none⟩), .int .i64 k, .int .i64 n] w fun e w' => (∃ v, e = .returned v) ∧ Duo w0 w' g (tearS s k n) r t := by
  obtain ⟨⟨F, G, h1, h2, h3, h4, h5⟩, hb⟩ := h
  refine (tear_ok w g s F h1 k n hk hn).mono ?_
  rintro e w' ⟨he, hl⟩
  exact ⟨he, Both.first rf_kept h2 h3 h4 h5 hb.size hl, hl.below hb h4 hb.size⟩
theorem rtear_duo {w0 w : World} {g : Nat} {s : PS} {r : Nat} {t : RS} (h : Duo w0 w g s r t) (k n : Int) (hk : (Lit.int .i64 k).wf = true) (hn : (Lit.int .i64 n).wf = true) :
    Calls Try.prog 15 #[.pointer (some ⟨r, 0, none⟩), .int .i64 k, .int .i64 n] w fun e w' => (∃ v, e = .returned v) ∧ Duo w0 w' g s r (rtearT t k n) := by
  obtain ⟨⟨F, G, h1, h2, h3, h4, h5⟩, hb⟩ := h
  refine (rtear_ok w r t G h2 k n hk hn).mono ?_
  rintro e w' ⟨he, hl⟩
  exact ⟨he, Both.second pf_kept h1 h3 h4 h5 hb.size hl, hl.below hb h5 hb.size⟩
theorem pwake_duo {w0 w : World} {g : Nat} {s : PS} {r : Nat} {t : RS} (h : Duo w0 w g s r t) :
    Calls Try.prog 20 #[.pointer (some ⟨g, 0, none⟩)] w fun e w' => (∃ v, e = .returned v) ∧ Duo w0 w' g (wakeS s) r t := by
  obtain ⟨⟨F, G, h1, h2, h3, h4, h5⟩, hb⟩ := h
  refine (wake_ok w g s F h1).mono ?_
  rintro e w' ⟨he, hl⟩
  exact ⟨he, Both.first rf_kept h2 h3 h4 h5 hb.size hl, hl.below hb h4 hb.size⟩
theorem rwake_duo {w0 w : World} {g : Nat} {s : PS} {r : Nat} {t : RS} (h : Duo w0 w g s r t) :
    Calls Try.prog 21 #[.pointer (some ⟨r, 0, none⟩)] w fun e w' => (∃ v, e = .returned v) ∧ Duo w0 w' g s r (rwakeT t) := by
  obtain ⟨⟨F, G, h1, h2, h3, h4, h5⟩, hb⟩ := h
  refine (rwake_ok w r t G h2).mono ?_
  rintro e w' ⟨he, hl⟩
  exact ⟨he, Both.second pf_kept h1 h3 h4 h5 hb.size hl, hl.below hb h5 hb.size⟩
theorem pread_duo {w0 w : World} {g : Nat} {s : PS} {r : Nat} {t : RS} (h : Duo w0 w g s r t) (a n : Int) (ha : (Lit.int .i64 a).wf = true) (R : List UInt8) (E : Nat) (hR : R = readL s a n) (hE : E = checkE s a n) :
    Calls Try.prog 45 #[.pointer (some ⟨g, 0, none⟩), .int .i64 a, .int .i64 n] w fun e w' => ∃ d cd, e = .returned (.tuple #[.slice d R.length cd, .int .i64 (E : Int)]) ∧ Sees w' d cd R ∧ Below w.heap.size w w' := by
  obtain ⟨⟨F, G, h1, _⟩, _⟩ := h
  refine (read_ok w g s F h1 a n ha).mono ?_
  rintro e w' ⟨d, cd, r', E', hr', hE', rfl, hs, hb⟩
  have e1 : r' = R := by rw [hr'.out, hR]
  have e2 : E' = E := by rw [hE'.out, hE]
  subst e1 e2
  exact ⟨d, cd, rfl, hs, hb⟩
theorem rread_duo {w0 w : World} {g : Nat} {s : PS} {r : Nat} {t : RS} (h : Duo w0 w g s r t) (a n : Int) (R : List UInt8) (E : Nat) (hR : R = rreadL t a n) (hE : E = chk t.dead t.b.length a n) :
    Calls Try.prog 47 #[.pointer (some ⟨r, 0, none⟩), .int .i64 a, .int .i64 n] w fun e w' => ∃ d cd, e = .returned (.tuple #[.slice d R.length cd, .int .i64 (E : Int)]) ∧ Sees w' d cd R ∧ Below w.heap.size w w' := by
  obtain ⟨⟨F, G, _, h2, _⟩, _⟩ := h
  exact rread_ok w r t G h2 a n R E hR hE
theorem len_duo {w0 w : World} {g : Nat} {s : PS} {r : Nat} {t : RS} (h : Duo w0 w g s r t) : Calls Try.prog 46 #[.pointer (some ⟨g, 0, none⟩)] w fun e w' => e = .returned (.int .i64 (s.b.length : Int)) ∧ w' = w := by
  obtain ⟨⟨F, G, ⟨q, cap, cur, h1, _⟩, _⟩, _⟩ := h; exact len_ok w g s q cap cur h1
theorem new_duo (w : World) (n : Nat) (hn : n ≤ 4096) : Calls Try.prog 7 #[.int .i64 (n : Int)] w fun e w' => ∃ g, e = .returned (.tuple #[.pointer (some ⟨g, 0, none⟩), .int .i64 0]) ∧ Held w w' g (newS n) := new_held w n hn
theorem rnew_duo {w0 w : World} {g : Nat} {s : PS} (h : Held w0 w g s) (n : Nat) (hn : n ≤ 4096) : Calls Try.prog 8 #[.int .i64 (n : Int)] w fun e w' => ∃ r, e = .returned (.tuple #[.pointer (some ⟨r, 0, none⟩), .int .i64 0]) ∧ Duo w0 w' g s r (rnewT n) := by
  obtain ⟨F, h1, h2, h3⟩ := h
  refine (rnew_ok w n hn).mono ?_
  rintro e w' ⟨r, G, rfl, k1, k2, k3⟩
  have hsz := h3.size
  refine ⟨r, rfl, ⟨F, G, pf_kept.below h1 k3, k1, fun k hk hg => ?_, h2, fun k hk => Nat.le_trans hsz (k2 k hk)⟩, h3.trans (k3.mono hsz)⟩
  have := k2 k hg; have := pf_kept.lt h1 k hk; omega
/-- The document's fields, and its bytes. -/
theorem Duo.ref {w0 w : World} {g : Nat} {s : PS} {r : Nat} {t : RS} (h : Duo w0 w g s r t) :
    ∃ a cap, w.cell? ⟨r, 0, none⟩ = some (.slice a t.b.length cap) ∧ Sees w a cap t.b ∧ w.cell? ⟨r, 3, none⟩ = some (.bool t.dead) ∧ w.cell? ⟨r, 4, none⟩ = some (.int .i64 (t.n : Int)) ∧ t.b.length ≤ 4096 := by
  obtain ⟨⟨F, G, _, ⟨v, h2, _⟩, _⟩, _⟩ := h
  obtain ⟨a, cap, rfl, hs⟩ := h2.sees
  exact ⟨a, cap, h2.c0, hs, h2.c3, h2.c4, h2.small⟩
end Go.Proofs.Ytjmbioedpghopaa
