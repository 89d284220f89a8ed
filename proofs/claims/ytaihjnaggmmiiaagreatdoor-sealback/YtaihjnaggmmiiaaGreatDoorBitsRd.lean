/-
  The contracts of package bits' reader.
-/
import Derived.Test.YtaihjnaggmmiiaaGreatDoorBitsE
namespace Go.Proofs.YtaihjnaggmmiiaaGreatDoor
open Go.ChangeShapes Go.WideShapes Go.ChangeAt Go.RowKit

/-- A reader at block b, of the bytes l: the next bit. -/
def RdM (l : List UInt8) (w : World) (b at_ : Nat) (F : Nat → Prop) : Prop := RowP 156 [.int .i64 (at_ : Int)] w b (8 * l.length, l) F
theorem rd_kept (l : List UInt8) : Kept (RdM l) where
  lt := fun h => (rowP_kept 156 _).lt h
  keep := fun h hk => (rowP_kept 156 _).keep h hk

/-- What is read of it. -/
theorem RdM.reads {l : List UInt8} {w : World} {b at_ : Nat} {F : Nat → Prop} (h : RdM l w b at_ F) :
    ∃ d cd, w.cell? ⟨b, 0, none⟩ = some (.bool true) ∧ w.cell? ⟨b, 1, none⟩ = some (.slice d l.length cd) ∧ w.cell? ⟨b, 2, none⟩ = some (.int .i64 ((8 * l.length : Nat) : Int)) ∧ w.cell? ⟨b, 3, none⟩ = some (.int .i64 (at_ : Int)) ∧
      w.frozen? ⟨b, 3, none⟩ = false ∧ Sees w d cd l ∧ (d = none ∨ ∃ g o, d = some ⟨g, o, none⟩) := by
  obtain ⟨d, cd, c0, c1, c2, fz, hs, hd, _⟩ := RowP.reads h
  obtain ⟨v, h1, _⟩ := h
  exact ⟨d, cd, c0, c1, c2, cell_of_row _ _ 3 _ _ _ h1, fz 3, hs, hd⟩
theorem RdM.moved {l : List UInt8} {w : World} {b at_ : Nat} {F : Nat → Prop} (h : RdM l w b at_ F) (m : Nat) : RdM l (w.setCell ⟨b, 3, none⟩ (.int .i64 (m : Int))) b m F := by
  obtain ⟨v, h1, h2, h3, h4, h5⟩ := h
  refine ⟨v, by rw [heap_setCell_same _ _ _ _ _ _ h1]; rfl, ?_, h3, h4, fun k hk => by simpa using h5 k hk⟩
  refine ⟨h2.1, ?_⟩
  rcases h2.2 with h0 | ⟨q, cap, cur, rfl, hlow, hq, h7⟩
  · exact .inl h0
  · refine .inr ⟨q, cap, cur, rfl, hlow, ?_, h7⟩
    rw [heap_setCell_other _ _ _ _ (by rintro rfl; rw [h1] at hq; simp at hq)]; exact hq
/-- What an act leaves that takes no new blocks for the object. -/
def Stay {σ : Type} (M : World → Nat → σ → (Nat → Prop) → Prop) (w : World) (F : Nat → Prop) (b : Nat) (s : σ) (w' : World) : Prop := M w' b s F ∧ Apart F w w'
theorem RdM.left {l : List UInt8} {w w' : World} {b at_ : Nat} {F : Nat → Prop} (h : RdM l w b at_ F) (hb : Below w.heap.size w w') (m : Nat) : Stay (RdM l) w F b m (w'.setCell ⟨b, 3, none⟩ (.int .i64 (m : Int))) :=
  ⟨((rd_kept l).below h hb).moved m, (Apart.of_below hb).setCell (.inl (by obtain ⟨_, _, _, h3, _⟩ := h; exact h3)) 3 _⟩
theorem RdM.same {l : List UInt8} {w : World} {b at_ : Nat} {F : Nat → Prop} (h : RdM l w b at_ F) (m : Nat) : Stay (RdM l) w F b at_ (w.drewN m) :=
  ⟨(rd_kept l).keep h (fun _ _ => rfl), ⟨rfl, rfl, rfl, Nat.le_refl _, fun _ _ _ => rfl⟩⟩

set_option maxHeartbeats 800000 in
set_option maxRecDepth 20000 in
theorem rdnew_ok (w : World) (x : Option Addr) (cx : Nat) (l : List UInt8) (hs : Sees w x cx l) (hl : l.length ≤ 140737488355328) :
    Calls Tryz.prog 76 #[.slice x l.length cx] w fun e w' => ∃ b F, e = .returned (.pointer (some ⟨b, 0, none⟩)) ∧ RdM l w' b 0 F ∧ Below w.heap.size w w' ∧ ∀ k, F k → w.heap.size ≤ k := by
  obtain ⟨w1, hw1⟩ : ∃ w1, w1 = w.alloc (.cells #[.bool true, .slice none 0 0, .int .i64 0, .int .i64 0] 156) := ⟨_, rfl⟩
  have hb1 : Below w.heap.size w w1 := by rw [hw1]; exact (Below.refl _ w).alloc (Nat.le_refl _) _
  have hR : RowB 156 [.int .i64 ((0 : Nat) : Int)] w1 w.heap.size [] (fun k => k = w.heap.size) := by
    rw [hw1]
    exact ⟨.slice none 0 0, heap_alloc_new w _, ⟨rfl, .inl ⟨rfl, rfl⟩⟩, rfl, (fun k hk => by simp [Value.ownBlock] at hk), fun k hk => by rw [hk]; simp⟩
  have hw := write_even 156 [.int .i64 ((0 : Nat) : Int)] (by decide) w1 w.heap.size [] _ hR x cx l (hs.below hb1) (by
    rintro b off rfl hne e
    obtain ⟨b1, o1, he, hc⟩ := hs.at' hne
    simp only [Option.some.injEq, Addr.mk.injEq] at he
    obtain ⟨z, hz⟩ : ∃ z, l[0]? = some z := ⟨l[0]'(List.length_pos_iff.2 hne), by simp⟩
    have := World.block_lt_of_cell? w _ (hc 0 z hz)
    have e2 : b = w.heap.size := e
    simp only at this
    omega) 0 rfl (by omega)
  have HW : Hid (Calls Tryz.prog 102 #[.pointer (some ⟨w.heap.size, 0, none⟩), .slice x l.length cx] (w.alloc (.cells #[.bool true, .slice none 0 0, .int .i64 0, .int .i64 0] 156)) fun e w' => (∃ r, e = .returned r) ∧ ∃ F, RdM l w' w.heap.size 0 F ∧ Below w.heap.size w w' ∧ ∀ k, F k → w.heap.size ≤ k) := by
    rw [← hw1]
    refine hw.mono ?_
    rintro e w' ⟨he, F, hM, hap, hF⟩
    refine ⟨he, F, ?_, hap.below hb1 (fun k hk => by rw [hk]; exact Nat.le_refl _) hb1.size, fun k hk => ?_⟩
    · unfold RowB at hM
      rw [List.nil_append, bitsOf_length, packL_bytes] at hM
      exact hM
    · have := hb1.size
      rcases hF k hk with h | h
      · exact Nat.le_of_eq h.symm
      · omega
  clear hw hR hb1 hw1 hs
  go_enter Tryz.func76, Tryz.ntmps76
  go_wp2_with fail
  refine HW.out.mono ?_
  rintro e w2 ⟨⟨r, rfl⟩, F, hM, hbel, hF⟩
  go_wp2
  go_ret
  exact ⟨w.heap.size, F, rfl, hM, hbel, hF⟩

set_option maxHeartbeats 800000 in
set_option maxRecDepth 20000 in
theorem rdleft_ok (l : List UInt8) (w : World) (b at_ : Nat) (F : Nat → Prop) (h : RdM l w b at_ F) (hl : l.length ≤ 140737488355328) (hat : at_ ≤ 8 * l.length) :
    Calls Tryz.prog 106 #[.pointer (some ⟨b, 0, none⟩)] w fun e w' => e = .returned (.int .i64 ((8 * l.length - at_ : Nat) : Int)) ∧ ∃ m, w' = w.drewN m := by
  obtain ⟨d, cd, c0, c1, c2, c3, _⟩ := h.reads
  have hst := rstands_yes w b c0
  obtain ⟨R, hR⟩ : ∃ R, R = 8 * l.length - at_ := ⟨_, rfl⟩
  obtain ⟨S, hS⟩ : ∃ S, S = 8 * l.length := ⟨_, rfl⟩
  rw [← hR]
  rw [← hS] at c2
  have e1 : (S : Int) - (at_ : Int) = (R : Int) := by omega
  have hSm : S ≤ 1125899906842624 := by omega
  have hR2 : at_ ≤ S := by omega
  clear h hR hS c0 c1
  go_enter Tryz.func106, Tryz.ntmps106
  go_wp2_with fail
  refine hst.mono ?_
  rintro e w1 ⟨rfl, rfl⟩
  clear hst
  go_wp2
  go_quiet (fail)
  go_wp2
  go_ret
  exact ⟨rfl, _, rfl⟩

theorem drewN_add (w : World) (m k : Nat) : (w.drewN m).drewN k = w.drewN (m + k) := by
  simp [World.drewN, Nat.add_assoc]

set_option maxHeartbeats 1600000 in
set_option maxRecDepth 20000 in
theorem rdget_ok (l : List UInt8) (w : World) (b at_ : Nat) (F : Nat → Prop) (h : RdM l w b at_ F) (hl : l.length ≤ 140737488355328) (W : Int) (hat : at_ ≤ 8 * l.length) :
    Calls Tryz.prog 129 #[.pointer (some ⟨b, 0, none⟩), .int .i64 W] w fun e w' => e = .returned (.tuple #[.int .u64 ((getN l at_ W : Nat) : Int), .int .i64 ((getP (8 * l.length - at_) W : Nat) : Int)]) ∧ Stay (RdM l) w F b (getAt l at_ W) w' := by
  obtain ⟨d, cd, c0, c1, c2, c3, f3, hs, hd⟩ := h.reads
  have hst := rstands_yes w b c0
  have hwd := isWidth_ok w W
  have hlf := rdleft_ok l w b at_ F h hl hat
  obtain ⟨R, hR⟩ : ∃ R, R = 8 * l.length - at_ := ⟨_, rfl⟩
  rw [← hR] at hlf ⊢
  have hRm : R ≤ 1125899906842624 := by omega
  have hsame : ∀ m, Stay (RdM l) w F b at_ (w.drewN m) := fun m => h.same m
  by_cases h0 : isW W = true
  · rw [h0] at hwd
    obtain ⟨V, rfl⟩ : ∃ V : Nat, W = (V : Int) := ⟨W.toNat, by simp [isW] at h0; omega⟩
    have hV : V ≤ 64 := by simp [isW] at h0; omega
    by_cases h1 : V ≤ R
    · have e1 : getP R (V : Int) = 0 := by unfold getP; rw [if_neg (by omega), if_neg (by omega)]
      have e2 : getN l at_ (V : Int) = num (nextB l at_ V) := by unfold getN; rw [← hR, e1]; rfl
      have e3 : getAt l at_ (V : Int) = at_ + V := by unfold getAt; rw [← hR, e1]; rfl
      rw [e1, e2, e3]
      obtain ⟨T, hT⟩ : ∃ T, T = num (nextB l at_ V) := ⟨_, rfl⟩
      rw [← hT]
      have HNUM : Hid (∀ k, Calls Tryz.prog 93 #[.pointer (some ⟨b, 0, none⟩), .int .i64 (at_ : Int), .int .i64 (V : Int)] (w.drewN k) fun e w' => e = .returned (.int .u64 (T : Int)) ∧ ∃ m, w' = w.drewN m) := fun k => by
        rw [hT]
        refine (number_ok l (w.drewN k) b d cd c1 (hs.drewN k) hl at_ V hV (by omega)).mono ?_
        rintro e w' ⟨rfl, m, rfl⟩
        exact ⟨rfl, k + m, drewN_add w k m⟩
      have HE : Hid (∀ m, Stay (RdM l) w F b (at_ + V) ((w.drewN m).setCell ⟨b, 3, none⟩ (.int .i64 ((at_ + V : Nat) : Int)))) := fun m => h.left (below_drewN (Below.refl _ _) m) (at_ + V)
      have HC : Hid (∀ m, (w.drewN m).cell? ⟨b, 3, none⟩ = some (.int .i64 (at_ : Int)) ∧ (w.drewN m).frozen? ⟨b, 3, none⟩ = false) := fun m => ⟨c3, f3⟩
      have hVs : at_ + V ≤ 1125899906842624 := by omega
      clear h hs hd c0 c1 c2 hsame hR hT e1 e2 e3 h0 hat
      go_enter Tryz.func129, Tryz.ntmps129
      go_wp2_with fail
      refine hst.mono ?_
      rintro e w1 ⟨rfl, hw1⟩
      subst hw1
      go_wp2_with fail
      refine hwd.mono ?_
      rintro e w1 ⟨rfl, hw1⟩
      subst hw1
      go_wp2_with fail
      refine hlf.mono ?_
      rintro e w2 ⟨rfl, m, hw2⟩
      clear hst hwd hlf c3 f3
      obtain ⟨c3, f3⟩ := HC.out m
      have HN2 := HNUM.out (m + 1)
      rw [← hw2] at c3 f3
      rw [← drewN_add, ← hw2] at HN2
      clear hw2 HNUM
      go_wp2
      go_region_held3 (fun w' => w'.cell? ⟨b, 3, none⟩ = some (.int .i64 (at_ : Int)))
        (first | go_keep | exact (HC.out _).1)
        (first | (go_at_call 93; refine HN2.mono ?_; rintro e w9 ⟨rfl, m9, rfl⟩; obtain ⟨c9, f9⟩ := HC.out m9))
      go_wp2
      go_ret2
      exact ⟨rfl, HE.out _⟩
    · have e1 : getP R (V : Int) = 3 := by unfold getP; rw [if_neg (by omega), if_pos (by omega)]
      have e2 : getN l at_ (V : Int) = 0 := by unfold getN; rw [← hR, e1]; rfl
      have e3 : getAt l at_ (V : Int) = at_ := by unfold getAt; rw [← hR, e1]; rfl
      rw [e1, e2, e3]
      clear h hs hd c0 c1 c2 c3 f3 hR e1 e2 e3 h0 hat
      go_enter Tryz.func129, Tryz.ntmps129
      go_wp2_with fail
      refine hst.mono ?_
      rintro e w1 ⟨rfl, hw1⟩
      subst hw1
      go_wp2_with fail
      refine hwd.mono ?_
      rintro e w1 ⟨rfl, hw1⟩
      subst hw1
      go_wp2_with fail
      refine hlf.mono ?_
      rintro e w2 ⟨rfl, m, rfl⟩
      clear hst hwd hlf
      go_wp2
      go_ret2
      exact ⟨rfl, hsame m⟩
  · have h0' : isW W = false := by simpa using h0
    rw [h0'] at hwd
    have e1 : getP R W = 1 := by unfold getP; rw [if_pos]; simp [isW] at h0; omega
    have e2 : getN l at_ W = 0 := by unfold getN; rw [← hR, e1]; rfl
    have e3 : getAt l at_ W = at_ := by unfold getAt; rw [← hR, e1]; rfl
    rw [e1, e2, e3]
    clear h hs hd c0 c1 c2 c3 f3 hR e1 e2 e3 h0 h0' hat hlf
    go_enter Tryz.func129, Tryz.ntmps129
    go_wp2_with fail
    refine hst.mono ?_
    rintro e w1 ⟨rfl, hw1⟩
    subst hw1
    go_wp2_with fail
    refine hwd.mono ?_
    rintro e w1 ⟨rfl, hw1⟩
    subst hw1
    clear hst hwd
    go_wp2
    go_ret2
    exact ⟨rfl, hsame 0⟩

set_option maxHeartbeats 1600000 in
set_option maxRecDepth 20000 in
theorem rdtake_fresh (l : List UInt8) (w : World) (b at_ : Nat) (F : Nat → Prop) (h : RdM l w b at_ F) (hl : l.length ≤ 140737488355328) (n : Int) (hat : at_ ≤ 8 * l.length) :
    Calls Tryz.prog 130 #[.pointer (some ⟨b, 0, none⟩), .int .i64 n] w fun e w' => ∃ d cd r, Hid (r = takeL l at_ n) ∧ e = .returned (.tuple #[.slice d r.length cd, .int .i64 ((takeP (8 * l.length - at_) n : Nat) : Int)]) ∧ Sees w' d cd r ∧ Stay (RdM l) w F b (takeAt l at_ n) w' ∧ ∀ g o, d = some ⟨g, o, none⟩ → w.heap.size ≤ g := by
  obtain ⟨d, cd, c0, c1, c2, c3, f3, hs, hd⟩ := h.reads
  have hst := rstands_yes w b c0
  have hlf := rdleft_ok l w b at_ F h hl hat
  obtain ⟨R, hR⟩ : ∃ R, R = 8 * l.length - at_ := ⟨_, rfl⟩
  rw [← hR] at hlf ⊢
  have hRm : R ≤ 1125899906842624 := by omega
  have hsame : ∀ m, Stay (RdM l) w F b at_ (w.drewN m) := fun m => h.same m
  by_cases hbad : n < 0 ∨ 1024 < n
  · have e1 : takeP R n = 1 := by unfold takeP; rw [if_pos hbad]
    have e2 : takeL l at_ n = [] := by unfold takeL; rw [← hR, e1]; rfl
    have e3 : takeAt l at_ n = at_ := by unfold takeAt; rw [← hR, e1]; rfl
    rw [e1, e2, e3]
    clear h hs hd c0 c1 c2 c3 f3 hR e1 e2 e3 hat hlf
    by_cases hneg : n < 0
    · clear hbad
      go_enter Tryz.func130, Tryz.ntmps130
      go_wp2_with fail
      refine hst.mono ?_
      rintro e w1 ⟨rfl, hw1⟩
      subst hw1
      clear hst
      go_wp2
      go_ret2
      exact ⟨none, 0, [], rfl, rfl, Sees.nil' _, hsame 0, fun _ _ h => by cases h⟩
    · have hbig : 1024 < n := by omega
      clear hbad
      go_enter Tryz.func130, Tryz.ntmps130
      go_wp2_with fail
      refine hst.mono ?_
      rintro e w1 ⟨rfl, hw1⟩
      subst hw1
      clear hst
      go_wp2
      go_ret2
      exact ⟨none, 0, [], rfl, rfl, Sees.nil' _, hsame 0, fun _ _ h => by cases h⟩
  · obtain ⟨V, rfl⟩ : ∃ V : Nat, n = (V : Int) := ⟨n.toNat, by omega⟩
    have hV : V ≤ 1024 := by omega
    by_cases h1 : 8 * V ≤ R
    · have e1 : takeP R (V : Int) = 0 := by unfold takeP; rw [if_neg (by omega), if_neg (by omega)]
      have e2 : takeL l at_ (V : Int) = packL (nextB l at_ (8 * V)) := by unfold takeL; rw [← hR, e1]; rfl
      have e3 : takeAt l at_ (V : Int) = at_ + 8 * V := by unfold takeAt; rw [← hR, e1]; rfl
      rw [e1, e2, e3]
      have HPART : Hid (∀ k, Calls Tryz.prog 60 #[.pointer (some ⟨b, 0, none⟩), .int .i64 (at_ : Int), .int .i64 (V : Int)] (w.drewN k) fun e w' => ∃ cc r, Hid (r = packL (nextB l at_ (8 * V))) ∧ e = .returned (.slice (some ⟨w.heap.size, 0, none⟩) r.length cc) ∧ Sees w' (some ⟨w.heap.size, 0, none⟩) cc r ∧ Below w.heap.size w w') := fun k => by
        refine (part_ok l (w.drewN k) b d cd c1 (hs.drewN k) hd hl at_ V (by omega)).mono ?_
        rintro e w' ⟨cc, r, hr, he, hs', hb⟩
        exact ⟨cc, r, hr, he, hs', ⟨hb.os, hb.tape, hb.output, hb.size, hb.block⟩⟩
      obtain ⟨A2, hA2⟩ : ∃ A2, A2 = at_ + 8 * V := ⟨_, rfl⟩
      have HE : Hid (∀ w', Below w.heap.size w w' → Stay (RdM l) w F b (at_ + 8 * V) (w'.setCell ⟨b, 3, none⟩ (.int .i64 (A2 : Int))) ∧ w'.cell? ⟨b, 3, none⟩ = some (.int .i64 (at_ : Int)) ∧ w'.frozen? ⟨b, 3, none⟩ = false) := fun w' hb => by
        have h2 := (rd_kept l).below h hb
        obtain ⟨_, _, _, _, _, k3, g3, _⟩ := RdM.reads h2
        exact ⟨by rw [hA2]; exact h.left hb (at_ + 8 * V), k3, g3⟩
      have HC : Hid (∀ m, (w.drewN m).cell? ⟨b, 3, none⟩ = some (.int .i64 (at_ : Int)) ∧ (w.drewN m).frozen? ⟨b, 3, none⟩ = false) := fun m => ⟨c3, f3⟩
      have hVs : A2 ≤ 1125899906842624 := by omega
      have a2 : (at_ : Int) + 8 * (V : Int) = (A2 : Int) := by omega
      -- the bytes that came stay where the place is set
      have HB : Hid (b < w.heap.size) := World.block_lt_of_cell? w _ c0
      have HF : Hid (F b) := by obtain ⟨_, _, _, h3, _⟩ := h; exact h3
      clear h hs hd c0 c1 c2 hsame hR e1 e2 e3 hat hbad hA2
      go_enter Tryz.func130, Tryz.ntmps130
      go_wp2_with fail
      refine hst.mono ?_
      rintro e w1 ⟨rfl, hw1⟩
      subst hw1
      go_wp2_with fail
      refine hlf.mono ?_
      rintro e w2 ⟨rfl, m, hw2⟩
      clear hst hlf c3 f3
      obtain ⟨c3, f3⟩ := HC.out m
      have HN2 := HPART.out (m + 1)
      rw [← hw2] at c3 f3
      rw [← drewN_add, ← hw2] at HN2
      clear hw2 HPART
      go_wp2
      go_region_held3 (fun w' => w'.cell? ⟨b, 3, none⟩ = some (.int .i64 (at_ : Int)))
        (first | go_keep | exact (HE.out _ hb9).2.1)
        (first | (go_at_call 60; refine HN2.mono ?_; rintro e w9 ⟨cc, r, hr, rfl, hs9, hb9⟩; obtain ⟨_, c9, f9⟩ := HE.out w9 hb9))
      go_wp2
      go_ret2
      refine ⟨_, cc, r, hr, rfl, ?_, (HE.out w9 hb9).1, fun g o he => by simp only [Option.some.injEq, Addr.mk.injEq] at he; omega⟩
      refine ((Apart.refl (fun k => k = b) w9).setCell (.inl rfl) 3 _).sees hs9 (fun b' off he _ hb' => ?_)
      have h1 := HB.out
      simp only [Option.some.injEq, Addr.mk.injEq] at he
      omega
    · have e1 : takeP R (V : Int) = 3 := by unfold takeP; rw [if_neg (by omega), if_pos (by omega)]
      have e2 : takeL l at_ (V : Int) = [] := by unfold takeL; rw [← hR, e1]; rfl
      have e3 : takeAt l at_ (V : Int) = at_ := by unfold takeAt; rw [← hR, e1]; rfl
      rw [e1, e2, e3]
      clear h hs hd c0 c1 c2 c3 f3 hR e1 e2 e3 hat hbad
      go_enter Tryz.func130, Tryz.ntmps130
      go_wp2_with fail
      refine hst.mono ?_
      rintro e w1 ⟨rfl, hw1⟩
      subst hw1
      go_wp2_with fail
      refine hlf.mono ?_
      rintro e w2 ⟨rfl, m, rfl⟩
      clear hst hlf
      go_wp2
      go_ret2
      exact ⟨none, 0, [], rfl, rfl, Sees.nil' _, hsame m, fun _ _ h => by cases h⟩
theorem rdtake_ok (l : List UInt8) (w : World) (b at_ : Nat) (F : Nat → Prop) (h : RdM l w b at_ F) (hl : l.length ≤ 140737488355328) (n : Int) (hat : at_ ≤ 8 * l.length) :
    Calls Tryz.prog 130 #[.pointer (some ⟨b, 0, none⟩), .int .i64 n] w fun e w' => ∃ d cd r, Hid (r = takeL l at_ n) ∧ e = .returned (.tuple #[.slice d r.length cd, .int .i64 ((takeP (8 * l.length - at_) n : Nat) : Int)]) ∧ Sees w' d cd r ∧ Stay (RdM l) w F b (takeAt l at_ n) w' := by
  refine (rdtake_fresh l w b at_ F h hl n hat).mono ?_
  rintro e w' ⟨d, cd, r, h1, h2, h3, h4, _⟩
  exact ⟨d, cd, r, h1, h2, h3, h4⟩

set_option maxHeartbeats 3200000 in
set_option maxRecDepth 20000 in
theorem rdend_ok (l : List UInt8) (w : World) (b at_ : Nat) (F : Nat → Prop) (h : RdM l w b at_ F) (hl : l.length ≤ 140737488355328) (hat : at_ ≤ 8 * l.length) :
    Calls Tryz.prog 78 #[.pointer (some ⟨b, 0, none⟩)] w fun e w' => e = .returned (.int .i64 ((endP l at_ : Nat) : Int)) ∧ ∃ m, w' = w.drewN m := by
  obtain ⟨d, cd, c0, c1, c2, c3, f3, hs, hd⟩ := h.reads
  have hst := rstands_yes w b c0
  obtain ⟨R, hR⟩ : ∃ R, R = 8 * l.length - at_ := ⟨_, rfl⟩
  have hRm : R ≤ 1125899906842624 := by omega
  have HLF : Hid (∀ k, Calls Tryz.prog 106 #[.pointer (some ⟨b, 0, none⟩)] (w.drewN k) fun e w' => e = .returned (.int .i64 (R : Int)) ∧ ∃ m, w' = w.drewN m) := fun k => by
    rw [hR]
    refine (rdleft_ok l (w.drewN k) b at_ F ((rd_kept l).keep h (fun _ _ => rfl)) hl hat).mono ?_
    rintro e w' ⟨rfl, m, rfl⟩
    exact ⟨rfl, k + m, drewN_add w k m⟩
  have HC : Hid (∀ m, (w.drewN m).cell? ⟨b, 3, none⟩ = some (.int .i64 (at_ : Int))) := fun m => c3
  have HLF1 : Calls Tryz.prog 106 #[.pointer (some ⟨b, 0, none⟩)] w.drew fun e w' => e = .returned (.int .i64 (R : Int)) ∧ ∃ m, w' = w.drewN m := HLF.out 1
  by_cases h8 : 8 ≤ R
  · have e1 : endP l at_ = 4 := by unfold endP; rw [if_pos (by omega)]
    rw [e1]
    have dR : decide ((8 : Int) ≤ (R : Int)) = true := by simp; omega
    clear h hs hd c0 c1 c2 f3 hR e1 hat h8
    go_enter Tryz.func78, Tryz.ntmps78
    go_wp2_with fail
    refine hst.mono ?_
    rintro e w1 ⟨rfl, hw1⟩
    subst hw1
    clear hst
    go_wp2
    refine wp_region_noPanic ?_
    refine wp_region_held (S := fun w' => w'.cell? ⟨b, 3, none⟩ = some (.int .i64 (at_ : Int))) (by kernel_rfl) ?_
    have hS := (show (fun w' : World => w'.cell? ⟨b, 3, none⟩ = some (.int .i64 (at_ : Int))) w1.drew from HC.out 1)
    refine any_take 0 ?vr3n1 rfl (by kernel_rfl) (by kernel_rfl) (by kernel_rfl) (fun _ _ _ h => h) (by rfl) ?hr3n1 hS ?_
    case hr3n1 => (intro w hSw; (try dsimp only at hSw); go_split_ands; go_simp; (try with_reducible rfl))
    (try simp only [Act.put, List.setIfInBounds_toArray, List.set_cons_zero, List.set_cons_succ])
    refine any_one 1 rfl (by kernel_rfl) (by rfl) (fun K hK => ?_)
    clear hS
    go_simp
    refine HLF1.mono ?_
    rintro e w9 ⟨rfl, m9, rfl⟩
    refine hK.out _ _ (HC.out _) (fun hS => ?_)
    clear hK
    (try simp only [Act.put, List.setIfInBounds_toArray, List.set_cons_zero, List.set_cons_succ])
    refine any_take 2 ?vr3n2 rfl (by kernel_rfl) (by kernel_rfl) (by kernel_rfl) (fun _ _ _ h => h) (by rfl) ?hr3n2 hS ?_
    case hr3n2 => (intro w hSw; (try dsimp only at hSw); go_split_ands; go_simp; (try with_reducible rfl))
    (try simp only [Act.put, List.setIfInBounds_toArray, List.set_cons_zero, List.set_cons_succ])
    refine any_take 3 ?vr3n3 rfl (by kernel_rfl) (by kernel_rfl) (by kernel_rfl) (fun _ _ _ h => h) (by rfl) ?hr3n3 hS ?_
    case hr3n3 => (intro w hSw; (try dsimp only at hSw); go_split_ands; go_simp; (try with_reducible rfl))
    (try simp only [Act.put, List.setIfInBounds_toArray, List.set_cons_zero, List.set_cons_succ])
    refine any_skip 4 rfl (by kernel_rfl) (by kernel_rfl) (by kernel_rfl) (fun _ _ _ h => h) (by rfl) hS ?_
    (try simp only [Act.put, List.setIfInBounds_toArray, List.set_cons_zero, List.set_cons_succ])
    refine any_skip 5 rfl (by kernel_rfl) (by kernel_rfl) (by kernel_rfl) (fun _ _ _ h => h) (by rfl) hS ?_
    (try simp only [Act.put, List.setIfInBounds_toArray, List.set_cons_zero, List.set_cons_succ])
    refine any_skip 6 rfl (by kernel_rfl) (by kernel_rfl) (by kernel_rfl) (fun _ _ _ h => h) (by rfl) hS ?_
    (try simp only [Act.put, List.setIfInBounds_toArray, List.set_cons_zero, List.set_cons_succ])
    refine any_skip 7 rfl (by kernel_rfl) (by kernel_rfl) (by kernel_rfl) (fun _ _ _ h => h) (by rfl) hS ?_
    (try simp only [Act.put, List.setIfInBounds_toArray, List.set_cons_zero, List.set_cons_succ])
    refine any_skip 8 rfl (by kernel_rfl) (by kernel_rfl) (by kernel_rfl) (fun _ _ _ h => h) (by rfl) hS ?_
    (try simp only [Act.put, List.setIfInBounds_toArray, List.set_cons_zero, List.set_cons_succ])
    refine any_skip 9 rfl (by kernel_rfl) (by kernel_rfl) (by kernel_rfl) (fun _ _ _ h => h) (by rfl) hS ?_
    (try simp only [Act.put, List.setIfInBounds_toArray, List.set_cons_zero, List.set_cons_succ])
    refine any_skip 10 rfl (by kernel_rfl) (by kernel_rfl) (by kernel_rfl) (fun _ _ _ h => h) (by rfl) hS ?_
    (try simp only [Act.put, List.setIfInBounds_toArray, List.set_cons_zero, List.set_cons_succ])
    refine any_skip 11 rfl (by kernel_rfl) (by kernel_rfl) (by kernel_rfl) (fun _ _ _ h => h) (by rfl) hS ?_
    (try simp only [Act.put, List.setIfInBounds_toArray, List.set_cons_zero, List.set_cons_succ])
    refine any_skip 12 rfl (by kernel_rfl) (by kernel_rfl) (by kernel_rfl) (fun _ _ _ h => h) (by rfl) hS ?_
    (try simp only [Act.put, List.setIfInBounds_toArray, List.set_cons_zero, List.set_cons_succ])
    refine any_skip 13 rfl (by kernel_rfl) (by kernel_rfl) (by kernel_rfl) (fun _ _ _ h => h) (by rfl) hS ?_
    (try simp only [Act.put, List.setIfInBounds_toArray, List.set_cons_zero, List.set_cons_succ])
    refine any_skip 14 rfl (by kernel_rfl) (by kernel_rfl) (by kernel_rfl) (fun _ _ _ h => h) (by rfl) hS ?_
    (try simp only [Act.put, List.setIfInBounds_toArray, List.set_cons_zero, List.set_cons_succ])
    refine any_take 15 ?vr3n4 rfl (by kernel_rfl) (by kernel_rfl) (by kernel_rfl) (fun _ _ _ h => h) (by rfl) ?hr3n4 hS ?_
    case hr3n4 => (intro w hSw; (try dsimp only at hSw); go_split_ands; go_simp; (try with_reducible rfl))
    (try simp only [Act.put, List.setIfInBounds_toArray, List.set_cons_zero, List.set_cons_succ])
    refine wpAnyH_done (by kernel_rfl) ?_ _
    refine NoPanic.normal ?_
    go_wp2
    go_ret
    exact ⟨rfl, _, rfl⟩
  · obtain ⟨T, hT⟩ : ∃ T, T = num (nextB l at_ R) := ⟨_, rfl⟩
    have e1 : endP l at_ = if T = 0 then 0 else 4 := by unfold endP; rw [if_neg (by omega), ← hR, ← hT]
    have HNUM : Hid (∀ k, Calls Tryz.prog 93 #[.pointer (some ⟨b, 0, none⟩), .int .i64 (at_ : Int), .int .i64 (R : Int)] (w.drewN k) fun e w' => e = .returned (.int .u64 (T : Int)) ∧ ∃ m, w' = w.drewN m) := fun k => by
      rw [hT]
      refine (number_ok l (w.drewN k) b d cd c1 (hs.drewN k) hl at_ R (by omega) (by omega)).mono ?_
      rintro e w' ⟨rfl, m, rfl⟩
      exact ⟨rfl, k + m, drewN_add w k m⟩
    rw [e1]
    have dR : decide ((8 : Int) ≤ (R : Int)) = false := by simp; omega
    clear h hs hd c0 c1 c2 f3 hR e1 hat h8 hT
    by_cases hT0 : T = 0
    · subst hT0
      rw [if_pos rfl]
      go_enter Tryz.func78, Tryz.ntmps78
      go_wp2_with fail
      refine hst.mono ?_
      rintro e w1 ⟨rfl, hw1⟩
      subst hw1
      clear hst
      go_wp2
      go_region_held3 (fun w' => w'.cell? ⟨b, 3, none⟩ = some (.int .i64 (at_ : Int)))
        (first | go_keep | exact HC.out _)
        (first | (go_at_call 106; refine HLF1.mono ?_; rintro e w9 ⟨rfl, m9, rfl⟩) | (go_at_call 106; refine (HLF.out _).mono ?_; rintro e w9 ⟨rfl, m8, rfl⟩) | (go_at_call 93; refine (HNUM.out _).mono ?_; rintro e w9 ⟨rfl, m7, rfl⟩))
      go_wp2
      go_ret
      exact ⟨rfl, _, rfl⟩
    · rw [if_neg hT0]
      have dT : ((T : Int) == 0) = false := by simp [hT0]
      go_enter Tryz.func78, Tryz.ntmps78
      go_wp2_with fail
      refine hst.mono ?_
      rintro e w1 ⟨rfl, hw1⟩
      subst hw1
      clear hst
      go_wp2
      go_region_held3 (fun w' => w'.cell? ⟨b, 3, none⟩ = some (.int .i64 (at_ : Int)))
        (first | go_keep | exact HC.out _)
        (first | (go_at_call 106; refine HLF1.mono ?_; rintro e w9 ⟨rfl, m9, rfl⟩) | (go_at_call 106; refine (HLF.out _).mono ?_; rintro e w9 ⟨rfl, m8, rfl⟩) | (go_at_call 93; refine (HNUM.out _).mono ?_; rintro e w9 ⟨rfl, m7, rfl⟩))
      go_wp2
      go_ret
      exact ⟨rfl, _, rfl⟩
end Go.Proofs.YtaihjnaggmmiiaaGreatDoor
