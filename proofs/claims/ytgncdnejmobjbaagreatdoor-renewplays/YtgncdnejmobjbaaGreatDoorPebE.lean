/-
  The contract of Next.
-/
import Derived.Test.YtgncdnejmobjbaaGreatDoorPebD
namespace Go.Proofs.YtgncdnejmobjbaaGreatDoor
open Go.ChangeShapes Go.WideShapes Go.ChangeAt Go.RowKit

theorem Peb.setSteps {Q : Nest} {o : Nat} {w : World} {g b cap : Nat} {v0 : Value} {key : List UInt8} {n told steps : Nat} {T : List Stone} (h : Peb Q o w g b cap v0 key n told steps T) (s : Nat) : Peb Q o (w.setCell ⟨g, o + 2, none⟩ (.int .i64 (s : Int))) g b cap v0 key n told s T :=
  ⟨by rw [set_at _ h.obj, (Nest.set h.off _ _ _ _ _).2.2.1], h.off, h.nob, h.ne, h.stack.keep (heap_setCell_other _ _ _ _ h.ne), fun x hx => (h.keys x hx).slot h.obj h.noObj.u8 (o + 2) _, h.good, h.len, h.most⟩
theorem Peb.setCommit {Q : Nest} {o : Nat} {w : World} {g b cap : Nat} {v0 : Value} {key : List UInt8} {n told steps : Nat} {T : List Stone} (h : Peb Q o w g b cap v0 key n told steps T) (v : Value) (hv : ∀ k y, v ≠ .int k y) : Peb Q o (w.setCell ⟨g, o, none⟩ v) g b cap v key n told steps T :=
  ⟨by rw [set_at _ h.obj, (Nest.set h.off _ _ _ _ _).1], h.off, hv, h.ne, h.stack.keep (heap_setCell_other _ _ _ _ h.ne), fun x hx => (h.keys x hx).slot h.obj h.noObj.u8 o _, h.good, h.len, h.most⟩
theorem Peb.pop {Q : Nest} {o : Nat} {w : World} {g b cap : Nat} {v0 : Value} {key : List UInt8} {n told steps : Nat} {l : Loc} {R : List Stone} (h : Peb Q o w g b cap v0 key n told steps ((told + 1, l) :: R)) :
    Peb Q o ((w.setCell ⟨g, o + 3, none⟩ (.slice (some ⟨b, 0, none⟩) R.length R.length)).setCell ⟨g, o + 1, none⟩ (.int .i64 ((told + 1 : Nat) : Int))) g b R.length v0 key n (told + 1) steps R := by
  have ho := set_at (i := o + 3) (.slice (some ⟨b, 0, none⟩) R.length R.length) h.obj
  rw [(Nest.set h.off _ _ _ _ _).2.2.2] at ho
  have h1 : NoByte (Q.cs v0 (.int .i64 (told : Int)) (.int .i64 (steps : Int)) (.slice (some ⟨b, 0, none⟩) R.length R.length)).toArray := Q.noByte (fun k y e => absurd e (h.nob k y)) (fun k y e => by cases e; rfl) (fun k y e => by cases e; rfl) (fun k y e => by cases e)
  refine ⟨by rw [set_at _ ho, (Nest.set h.off _ _ _ _ _).2.1], h.off, h.nob, h.ne, (h.stack.pop.keep (heap_setCell_other _ _ _ _ h.ne)).keep (heap_setCell_other _ _ _ _ h.ne), fun x hx => ?_, h.good.2, h.len, h.most⟩
  exact ((h.keys x (List.mem_cons_of_mem _ hx)).slot h.obj h.noObj.u8 (o + 3) _).slot ho h1.u8 (o + 1) _

set_option maxHeartbeats 3200000 in
set_option maxRecDepth 20000 in
theorem next_ok (w : World) (Q : Nest) (o g b cap : Nat) (cd : Option Addr) (cc : Nat) (key : List UInt8) (n told steps : Nat) (x : Stone) (T : List Stone) (h : Peb Q o w g b cap (.slice cd 16 cc) key n told steps (x :: T)) (hF : FTab w) (hT : KTab w) (hst : steps ≤ 100000) :
    Calls Tryz.prog 58 #[.pointer (some ⟨g, o, none⟩)] w fun e w' => ∃ b' cap' T' d c, e = .returned (.tuple #[.slice d 16 c, .int .i64 0]) ∧ Peb Q o w' g b' cap' (.slice cd 16 cc) key n (told + 1) (stepN told steps ((x :: T).map Prod.fst)) T' ∧ T'.map Prod.fst = nextL told ((x :: T).map Prod.fst) ∧
      Sees w' d c (backL (n - (told + 1)) key) ∧ Apart (fun k => k = g ∨ k = b) w w' ∧ (b' = b ∨ w.heap.size ≤ b') := by
  obtain ⟨c0, c1, c2, c3⟩ := h.cells
  have hm := made_yes w o g cd cc c0
  have hfew := h.few
  have hmost := h.most
  rw [List.length_cons] at c3 hfew
  obtain ⟨L, hL⟩ : ∃ L, L = T.length + 1 := ⟨_, rfl⟩
  rw [← hL] at c3 hfew
  have dL : ((L : Int) == 0) = false := by simp; omega
  have hpt := h.good.mem x.1 (by simp)
  obtain ⟨m, hm0⟩ : ∃ m, m = x.1 - told - 1 := ⟨_, rfl⟩
  obtain ⟨X, hX⟩ : ∃ X, X = steps + m := ⟨_, rfl⟩
  have HX : Hid (X = stepN told steps ((x :: T).map Prod.fst)) := by show X = _; rw [hX, hm0]; rfl
  have a1 : (steps : Int) + (m : Int) = (X : Int) := by omega
  have hXm : X ≤ 200000 := by omega
  have ewX : IntKind.i64.wrap (X : Int) = (X : Int) := by rw [IntKind.wrap_i64]; omega
  have hmm : m ≤ 256 := by omega
  have KR : Hid (∀ j, Calls Tryz.prog 48 #[.pointer (some ⟨g, o, none⟩)] (w.drewN j) fun e w' => e = .returned (.int .i64 (m : Int)) ∧ w'.cell? ⟨g, o + 2, none⟩ = some (.int .i64 (steps : Int)) ∧ w'.frozen? ⟨g, o + 2, none⟩ = false ∧
      Hid (∃ b' cap' l R, Peb Q o (w'.setCell ⟨g, o + 2, none⟩ (.int .i64 (X : Int))) g b' cap' (.slice cd 16 cc) key n told X ((told + 1, l) :: R) ∧ R.map Prod.fst = nextL told ((x :: T).map Prod.fst) ∧ Apart (fun k => k = g ∨ k = b) w (w'.setCell ⟨g, o + 2, none⟩ (.int .i64 (X : Int))) ∧ (b' = b ∨ w.heap.size ≤ b'))) := fun j => by
    have hbj : Below w.heap.size w (w.drewN j) := below_drewN (Below.refl _ _) j
    refine (preach_ok (w.drewN j) Q o g b cap _ key n told steps x T (h.drewN j) (hF.below hbj) (hT.below hbj)).mono ?_
    rintro e w' ⟨b', cap', T', rfl, hP, hl, ha, hb⟩
    obtain ⟨r', hr', _⟩ := layL_top 256 told x.1 (T.map Prod.fst) h.good (by omega)
    rw [← hm0]
    refine ⟨rfl, hP.cells.2.2.1, hP.fz (o + 2), ?_⟩
    rw [List.map_cons, hr'] at hl
    cases T' with
    | nil => cases hl
    | cons y R =>
      obtain ⟨py, ly⟩ := y
      rw [List.map_cons] at hl
      obtain ⟨rfl, h2⟩ := List.cons.inj hl
      refine ⟨b', cap', ly, R, hP.setSteps X, ?_, ?_, hb⟩
      · unfold nextL; rw [List.map_cons, hr']; exact h2
      · exact (((Apart.of_below (F := fun k => k = g ∨ k = b) hbj).trans ha (fun i hi => .inl hi))).setCell (b := g) (.inl (.inl rfl)) (o + 2) _
  have HC : Hid (w.cell? ⟨g, o + 2, none⟩ = some (.int .i64 (steps : Int))) := c2
  have HO : Hid (FTab w ∧ KTab w ∧ Peb Q o w g b cap (.slice cd 16 cc) key n told steps (x :: T)) := ⟨hF, hT, h⟩
  rw [← HX.out]
  have htm : told ≤ 256 := by omega
  clear h hF hT hL hpt hm0 hX hst c0 c1 hfew hmost
  go_enter Tryz.func58, Tryz.ntmps58
  go_wp2_with fail
  refine hm.mono ?_
  rintro e w1 ⟨rfl, rfl⟩
  clear hm
  go_wp2_with fail
  go_region_with (go_at_call 48; refine (KR.out 1).mono ?_; rintro e w2 ⟨rfl, k2, z2, hfin⟩)
  all_goals (
    obtain ⟨b3, cap3, ⟨ld, lc⟩, R, hP3, hR, ha3, hb3⟩ := hfin.out
    obtain ⟨w3, hw3⟩ : ∃ w3, w3 = w2.setCell ⟨g, o + 2, none⟩ (.int .i64 (X : Int)) := ⟨_, rfl⟩
    rw [← hw3] at hP3 ha3 ⊢
    have ht := top_ok w3 Q o g b3 cap3 _ key n told X (told + 1, ld, lc) R hP3
    have HR : Hid (R.map Prod.fst = nextL told ((x :: T).map Prod.fst)) := hR
    have H3 : Hid (Peb Q o w3 g b3 cap3 (.slice cd 16 cc) key n told X ((told + 1, ld, lc) :: R) ∧ Apart (fun k => k = g ∨ k = b) w1 w3 ∧ (b3 = b ∨ w1.heap.size ≤ b3)) := ⟨hP3, ha3, hb3⟩
    obtain ⟨t1, ht1⟩ : ∃ t1, t1 = told + 1 := ⟨_, rfl⟩
    have e1 : (told : Int) + 1 = (t1 : Int) := by omega
    have HT1 : Hid (t1 = told + 1) := ht1
    have ht1m : t1 ≤ 257 := by omega
    dsimp only at ht
    rw [← ht1] at ht
    clear hfin hP3 hR ha3 hb3 hw3 k2 z2 KR HC ht1 c2 c3 dL
    go_wp2_with fail
    refine ht.mono ?_
    rintro e w4 ⟨rfl, hb4⟩
    have hP4 := H3.out.1.keep hb4
    have hfl : ∀ W, (Instr.field 90 (.agg #[.int .i64 (t1 : Int), .slice ld 16 lc]) 1).run Tryz.prog W = .ok (.slice ld 16 lc) W := field_key _ _
    obtain ⟨M, hM⟩ : ∃ M, M = R.length := ⟨_, rfl⟩
    obtain ⟨_, q1, _, q3⟩ := hP4.cells
    have z3 := hP4.fz (o + 3)
    have hfw := hP4.few
    have hmo := hP4.most
    have hcap := hP4.stack.fits
    have hroom := hP4.stack.room
    unfold maxLen at hroom
    rw [List.length_cons, ← hM] at q3 hfw hcap
    have hMm : M ≤ 256 := by omega
    have g1 : (M : Int) ≤ (cap3 : Int) := by omega
    have hPp := hP4.pop
    have hapw : Apart (fun k => k = g ∨ k = b) w1 ((w4.setCell ⟨g, o + 3, none⟩ (.slice (some ⟨b3, 0, none⟩) R.length R.length)).setCell ⟨g, o + 1, none⟩ (.int .i64 ((told + 1 : Nat) : Int))) :=
      ((H3.out.2.1.trans (Apart.of_below (F := fun _ => False) hb4) (fun _ h => h.elim)).setCell (b := g) (.inl (.inl rfl)) (o + 3) _).setCell (b := g) (.inl (.inl rfl)) (o + 1) _
    have hsk : Sees ((w4.setCell ⟨g, o + 3, none⟩ (.slice (some ⟨b3, 0, none⟩) R.length R.length)).setCell ⟨g, o + 1, none⟩ (.int .i64 ((told + 1 : Nat) : Int))) ld lc (backL (n - (told + 1)) key) := by
      have h0 := hP4.keys (told + 1, ld, lc) (by simp)
      have ho := set_at (i := o + 3) (.slice (some ⟨b3, 0, none⟩) R.length R.length) hP4.obj
      rw [(Nest.set hP4.off _ _ _ _ _).2.2.2] at ho
      have h1 := h0.slot hP4.obj hP4.noObj.u8 (o + 3) (.slice (some ⟨b3, 0, none⟩) R.length R.length)
      exact h1.slot ho (Q.noByte (fun k y e => absurd e (hP4.nob k y)) (fun k y e => by cases e; rfl) (fun k y e => by cases e; rfl) (fun k y e => by cases e)).u8 (o + 1) _
    obtain ⟨w5, hw5⟩ : ∃ w5, w5 = w4.setCell ⟨g, o + 3, none⟩ (.slice (some ⟨b3, 0, none⟩) M M) := ⟨_, rfl⟩
    have ho5 := set_at (i := o + 3) (.slice (some ⟨b3, 0, none⟩) M M) hP4.obj
    rw [(Nest.set hP4.off _ _ _ _ _).2.2.2, ← hw5] at ho5
    have y1 : w5.cell? ⟨g, o + 1, none⟩ = some (.int .i64 (told : Int)) := at_row ho5 (Nest.get hP4.off _ _ _ _).2.1
    have z1 : w5.frozen? ⟨g, o + 1, none⟩ = false := frozen_of_row _ _ (o + 1) _ _ ho5
    rw [← hM, ← HT1.out, ← hw5] at hPp hapw hsk
    obtain ⟨w6, hw6⟩ : ∃ w6, w6 = w5.setCell ⟨g, o + 1, none⟩ (.int .i64 (t1 : Int)) := ⟨_, rfl⟩
    rw [← hw6] at hPp hapw hsk
    have hcl := clone_any w6 ld lc _ hsk (by rw [backL_len _ _ hPp.len]; omega)
    rw [backL_len _ _ hPp.len] at hcl
    have HW5 : Hid (w5 = w4.setCell ⟨g, o + 3, none⟩ (.slice (some ⟨b3, 0, none⟩) M M)) := hw5
    have HW6 : Hid (w6 = w5.setCell ⟨g, o + 1, none⟩ (.int .i64 (t1 : Int))) := hw6
    have HPP : Hid (Peb Q o w6 g b3 M (.slice cd 16 cc) key n t1 X R ∧ Apart (fun k => k = g ∨ k = b) w1 w6) := ⟨hPp, hapw⟩
    clear ht hP4 hM hfw hmo hcap hPp hapw hsk hw5 hw6 ho5 hb4
    go_upto_region 9 with fail
    rw [← HW5.out]
    go_upto_region 10 with fail
    rw [← HW6.out]
    go_wp2_with fail
    refine hcl.mono ?_
    rintro e w7 ⟨d7, c7, rfl, hs7, hb7⟩
    clear hcl
    go_wp2
    go_ret2
    rw [← HT1.out]
    exact ⟨b3, M, R, d7, c7, rfl, HPP.out.1.keep hb7, HR.out, hs7, HPP.out.2.trans (Apart.of_below (F := fun _ => False) hb7) (fun _ h => h.elim), H3.out.2.2⟩)
end Go.Proofs.YtgncdnejmobjbaaGreatDoor
