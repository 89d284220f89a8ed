/-
  The contracts of Sum, of sha.Of and of 'awake'.

  The contracts of sha.Of and of 'awake'.

  What the rows' lists give: the two tables hold what the program's text lays.
-/
import Derived.Test.YtleedppcandbkaaDoorShaC
import Derived.Lib.SlBytesConst
import Derived.Lib.LaidTab
import Derived.LaidSub
namespace Go.Proofs.YtleedppcandbkaaDoor
open Go.ChangeShapes Go.WideShapes Go.ChangeAt Go.RowKit

theorem Words.of_row {w : World} {g : Nat} {l : List Nat} {t : TypeId} {fr : Nat × Nat} (h : w.heap[g]? = some (.cells (l.map wcell).toArray t fr)) (hl : l.length ≤ 100) (hs : ∀ x ∈ l, x < 4294967296) : Words w (some ⟨g, 0, none⟩) l.length l :=
  ⟨Nat.le_refl _, by unfold maxLen; omega, hs, fun _ => ⟨g, 0, rfl, fun i x hx => by rw [Nat.zero_add]; exact cell_words h hx⟩⟩

/-- A row of eight noughts. -/
def Zer (w : World) (g : Nat) : Prop := w.heap[g]? = some (.cells #[.int .u32 0, .int .u32 0, .int .u32 0, .int .u32 0, .int .u32 0, .int .u32 0, .int .u32 0, .int .u32 0] 101 (0, 0))
theorem Zer.new (w : World) : Zer (w.alloc (.cells #[.int .u32 0, .int .u32 0, .int .u32 0, .int .u32 0, .int .u32 0, .int .u32 0, .int .u32 0, .int .u32 0] 101)) w.heap.size := heap_alloc_new w _
theorem Zer.keep {w w' : World} {g : Nat} (h : Zer w g) (hb : Below w.heap.size w w') : Zer w' g := by
  unfold Zer; rw [hb.block g (Array.getElem?_eq_some_iff.1 h).1]; exact h
theorem Zer.cells {w : World} {g : Nat} (h : Zer w g) : w.cell? ⟨g, 0, none⟩ = some (.int .u32 0) ∧ w.cell? ⟨g, 1, none⟩ = some (.int .u32 0) ∧ w.cell? ⟨g, 2, none⟩ = some (.int .u32 0) ∧ w.cell? ⟨g, 3, none⟩ = some (.int .u32 0) ∧
    w.cell? ⟨g, 4, none⟩ = some (.int .u32 0) ∧ w.cell? ⟨g, 5, none⟩ = some (.int .u32 0) ∧ w.cell? ⟨g, 6, none⟩ = some (.int .u32 0) ∧ w.cell? ⟨g, 7, none⟩ = some (.int .u32 0) :=
  ⟨cell_of_row _ _ 0 _ _ _ h, cell_of_row _ _ 1 _ _ _ h, cell_of_row _ _ 2 _ _ _ h, cell_of_row _ _ 3 _ _ _ h, cell_of_row _ _ 4 _ _ _ h, cell_of_row _ _ 5 _ _ _ h, cell_of_row _ _ 6 _ _ _ h, cell_of_row _ _ 7 _ _ _ h⟩
theorem Zer.frozen {w : World} {g : Nat} (h : Zer w g) (k : Nat) : w.frozen? ⟨g, k, none⟩ = false := frozen_of_row w _ k _ _ h
theorem Zer.sets {w : World} {g : Nat} (h : Zer w g) (T : S8) : ((((((((w.setCell ⟨g, 0, none⟩ (.int .u32 (T.a : Int))).setCell ⟨g, 1, none⟩ (.int .u32 (T.b : Int))).setCell ⟨g, 2, none⟩ (.int .u32 (T.c : Int))).setCell ⟨g, 3, none⟩ (.int .u32 (T.d : Int))).setCell ⟨g, 4, none⟩ (.int .u32 (T.e : Int))).setCell ⟨g, 5, none⟩ (.int .u32 (T.f : Int))).setCell ⟨g, 6, none⟩ (.int .u32 (T.g : Int))).setCell ⟨g, 7, none⟩ (.int .u32 (T.h : Int))).heap[g]? = some (.cells (T.list.map wcell).toArray 101 (0, 0)) := by
  have h0 : w.heap[g]? = some (.cells ((List.replicate 8 0).map wcell).toArray 101 (0, 0)) := h
  exact setCell_words (setCell_words (setCell_words (setCell_words (setCell_words (setCell_words (setCell_words (setCell_words h0 0 T.a) 1 T.b) 2 T.c) 3 T.d) 4 T.e) 5 T.f) 6 T.g) 7 T.h

theorem below_sets {B : Nat} {a w : World} (h : Below B a w) {g : Nat} (hg : B ≤ g) (T : S8) : Below B a ((((((((w.setCell ⟨g, 0, none⟩ (.int .u32 (T.a : Int))).setCell ⟨g, 1, none⟩ (.int .u32 (T.b : Int))).setCell ⟨g, 2, none⟩ (.int .u32 (T.c : Int))).setCell ⟨g, 3, none⟩ (.int .u32 (T.d : Int))).setCell ⟨g, 4, none⟩ (.int .u32 (T.e : Int))).setCell ⟨g, 5, none⟩ (.int .u32 (T.f : Int))).setCell ⟨g, 6, none⟩ (.int .u32 (T.g : Int))).setCell ⟨g, 7, none⟩ (.int .u32 (T.h : Int))) :=
  (((((((h.setCell (p := ⟨g, 0, none⟩) hg _).setCell (p := ⟨g, 1, none⟩) hg _).setCell (p := ⟨g, 2, none⟩) hg _).setCell (p := ⟨g, 3, none⟩) hg _).setCell (p := ⟨g, 4, none⟩) hg _).setCell (p := ⟨g, 5, none⟩) hg _).setCell (p := ⟨g, 6, none⟩) hg _).setCell (p := ⟨g, 7, none⟩) hg _

set_option maxHeartbeats 1600000 in
set_option maxRecDepth 20000 in
theorem sum_own {R : List Value} {ty : TypeId} (w : World) (b : Nat) (bs : List UInt8) (h : Dig R ty w b bs) (hT : KTab w) :
    Calls Tryd.prog 67 #[.pointer (some ⟨b, 0, none⟩)] w fun e w' => ∃ d cd r, Hid (r = shaL bs) ∧ e = .returned (.tuple #[.slice d r.length cd, .int .i64 0]) ∧ Sees w' d cd r ∧ Below w.heap.size w w' ∧ w'.ownsRow w.heap.size 5 1 (.slice d r.length cd) r.length (r.map cellOf) := by
  obtain ⟨a, ho, hs⟩ := h.obj
  have hlen := h.len
  have h1 := ho.made
  obtain ⟨L, hL⟩ : ∃ L, L = leftOf bs := ⟨_, rfl⟩
  have hLl : L.length < 64 := by rw [hL, leftOf_length]; omega
  rw [← hL] at ho hs
  obtain ⟨S, hS⟩ : ∃ S, S = stOf bs := ⟨_, rfl⟩
  rw [← hS] at ho
  have hSs : Hid S.small := by rw [hS]; exact stOf_small bs
  have HO : Hid (ObjAt R ty w b bs.length S (.slice a L.length L.length)) := ho
  have HT : Hid (KTab w) := hT
  have hend : Hid (w4s (runB S (pad L bs.length) ((pad L bs.length).length / 64)).list = shaL bs) := by rw [hS, hL]; exact sum_of bs
  have q1 := ho.size
  have q2 : w.cell? ⟨b, 2, none⟩ = some (.int .u32 (S.a : Int)) := ho.cellAt 2 rfl
  have q3 : w.cell? ⟨b, 3, none⟩ = some (.int .u32 (S.b : Int)) := ho.cellAt 3 rfl
  have q4 : w.cell? ⟨b, 4, none⟩ = some (.int .u32 (S.c : Int)) := ho.cellAt 4 rfl
  have q5 : w.cell? ⟨b, 5, none⟩ = some (.int .u32 (S.d : Int)) := ho.cellAt 5 rfl
  have q6 : w.cell? ⟨b, 6, none⟩ = some (.int .u32 (S.e : Int)) := ho.cellAt 6 rfl
  have q7 : w.cell? ⟨b, 7, none⟩ = some (.int .u32 (S.f : Int)) := ho.cellAt 7 rfl
  have q8 : w.cell? ⟨b, 8, none⟩ = some (.int .u32 (S.g : Int)) := ho.cellAt 8 rfl
  have q9 : w.cell? ⟨b, 9, none⟩ = some (.int .u32 (S.h : Int)) := ho.cellAt 9 rfl
  have q10 := ho.left
  have HF : Hid (∀ W, Below w.heap.size w W → Calls Tryd.prog 76 #[.slice a L.length L.length, .int .i64 (bs.length : Int)] W fun e w' => ∃ (d : Option Addr) (cd : Nat) (r : List UInt8), Hid (r = pad L bs.length) ∧ e = .returned (.slice d r.length cd) ∧ Sees w' d cd r ∧ Below w.heap.size w w' ∧ Below W.heap.size W w') := fun W hW => by
    refine (fill_any W a L bs.length (hs.below hW) (by omega) (by omega)).mono ?_
    rintro e w' ⟨d, cd, r, hr, he, hse, hb⟩
    exact ⟨d, cd, r, hr, he, hse, hW.trans (hb.mono hW.size), hb⟩
  have HG : Hid (∀ (w1 : World) (d1 : Option Addr) (cd1 : Nat) (r1 : List UInt8), Sees w1 d1 cd1 r1 → Below w.heap.size w w1 → Hid (r1 = pad L bs.length) → Calls Tryd.prog 75 #[.agg #[.int .u32 (S.a : Int), .int .u32 (S.b : Int), .int .u32 (S.c : Int), .int .u32 (S.d : Int), .int .u32 (S.e : Int), .int .u32 (S.f : Int), .int .u32 (S.g : Int), .int .u32 (S.h : Int)], .slice d1 r1.length cd1] w1
      fun e w2 => ∃ (d2 : Option Addr) (n2 cd2 : Nat) (T : S8), Hid (w4s T.list = shaL bs) ∧ Hid T.small ∧ e = .returned (.tuple #[.agg #[.int .u32 (T.a : Int), .int .u32 (T.b : Int), .int .u32 (T.c : Int), .int .u32 (T.d : Int), .int .u32 (T.e : Int), .int .u32 (T.f : Int), .int .u32 (T.g : Int), .int .u32 (T.h : Int)], .slice d2 n2 cd2]) ∧ Below w.heap.size w w2 ∧ Below w1.heap.size w1 w2) := fun w1 d1 cd1 r1 hs1 hb1 hr1 => by
    refine (take_any w1 S hSs.out d1 cd1 r1 hs1 (HT.out.below hb1)).mono ?_
    rintro e w2 ⟨d2, cd2, l2, hl2, rfl, hs2, hb2⟩
    exact ⟨d2, _, cd2, runB S r1 (r1.length / 64), by rw [hr1.out]; exact hend, runB_small hSs.out _ _, rfl, hb1.trans (hb2.mono hb1.size), hb2⟩
  have HB0 : Hid (∀ n, Below w.heap.size w (w.drewN n)) := fun n => below_drewN (Below.refl _ _) n
  have HKeep : Hid (∀ w', Below w.heap.size w w' → w'.cell? ⟨b, 1, none⟩ = some (.int .i64 (bs.length : Int)) ∧ w'.cell? ⟨b, 2, none⟩ = some (.int .u32 (S.a : Int)) ∧ w'.cell? ⟨b, 3, none⟩ = some (.int .u32 (S.b : Int)) ∧ w'.cell? ⟨b, 4, none⟩ = some (.int .u32 (S.c : Int)) ∧
      w'.cell? ⟨b, 5, none⟩ = some (.int .u32 (S.d : Int)) ∧ w'.cell? ⟨b, 6, none⟩ = some (.int .u32 (S.e : Int)) ∧ w'.cell? ⟨b, 7, none⟩ = some (.int .u32 (S.f : Int)) ∧ w'.cell? ⟨b, 8, none⟩ = some (.int .u32 (S.g : Int)) ∧ w'.cell? ⟨b, 9, none⟩ = some (.int .u32 (S.h : Int)) ∧ w'.cell? ⟨b, 10, none⟩ = some (.slice a L.length L.length)) := fun w' hb => by
    have hbl := ho.lt
    refine ⟨?_, ?_, ?_, ?_, ?_, ?_, ?_, ?_, ?_, ?_⟩ <;> rw [hb.cell (by exact hbl)] <;> assumption
  clear ho hL hS hT h hs
  go_enter Tryd.func67, Tryd.ntmps67
  go_wp2_with fail
  refine (stands_yes w b h1).mono ?_
  rintro e w0 ⟨rfl, hw0⟩
  rw [hw0]
  clear hw0 w0
  go_wp2
  go_region_held3 (fun w' => w'.cell? ⟨b, 1, none⟩ = some (.int .i64 (bs.length : Int)) ∧ w'.cell? ⟨b, 2, none⟩ = some (.int .u32 (S.a : Int)) ∧ w'.cell? ⟨b, 3, none⟩ = some (.int .u32 (S.b : Int)) ∧ w'.cell? ⟨b, 4, none⟩ = some (.int .u32 (S.c : Int)) ∧
      w'.cell? ⟨b, 5, none⟩ = some (.int .u32 (S.d : Int)) ∧ w'.cell? ⟨b, 6, none⟩ = some (.int .u32 (S.e : Int)) ∧ w'.cell? ⟨b, 7, none⟩ = some (.int .u32 (S.f : Int)) ∧ w'.cell? ⟨b, 8, none⟩ = some (.int .u32 (S.g : Int)) ∧ w'.cell? ⟨b, 9, none⟩ = some (.int .u32 (S.h : Int)) ∧ w'.cell? ⟨b, 10, none⟩ = some (.slice a L.length L.length))
    (first
      | go_keep
      | (refine HKeep.out _ ?_; (repeat (first | with_reducible exact hb2 | with_reducible exact hb1 | (with_reducible refine Below.setCell ?_ (by first | exact Nat.le_refl _ | exact hb1.size | exact hb2.size) _) | (with_reducible refine Below.alloc ?_ (by first | exact hb2.size | exact hb1.size) _)))))
    (first
      | (go_at_call 76; refine (HF.out _ ?_).mono ?_; (focus (first | with_reducible exact (Below.refl _ _).drew | exact ((Below.refl _ _).alloc (Nat.le_refl _) _).drew)); rintro e w1 ⟨d1, cd1, r1, hr1, rfl, hs1, hb1, hx1⟩; (first | (have z1 : Zer w1 w.heap.size := Zer.keep (w := (w.alloc (.cells #[.int .u32 0, .int .u32 0, .int .u32 0, .int .u32 0, .int .u32 0, .int .u32 0, .int .u32 0, .int .u32 0] 101)).drew) (Zer.new w) (by with_reducible exact hx1)) | skip))
      | (go_at_call 75; refine (HG.out _ d1 cd1 r1 ?_ ?_ hr1).mono ?_; (focus (first | with_reducible exact hs1 | exact hs1.below ((Below.refl _ _).alloc (Nat.le_refl _) _))); (focus (first | with_reducible exact hb1 | exact hb1.alloc hb1.size _)); rintro e w2 ⟨d2, n2, cd2, T, hT2, hTs, rfl, hb2, hx2⟩; (first | (have z2 : Zer w2 w.heap.size := z1.keep (by with_reducible exact hx2); obtain ⟨y0, y1, y2, y3, y4, y5, y6, y7⟩ := z2.cells; have yf := z2.frozen) | (have z2 : Zer w2 w1.heap.size := (Zer.new w1).keep (by with_reducible exact hx2); obtain ⟨y0, y1, y2, y3, y4, y5, y6, y7⟩ := z2.cells; have yf := z2.frozen) | skip)))
  all_goals
    first
      | (have hW := Words.of_row (z2.sets T) (by simp [S8.list]) (S8.small_list hTs.out)
         have hB3 := below_sets hb2 (g := w.heap.size) (Nat.le_refl _) T
         have hend2 := put_own _ none (some ⟨w.heap.size, 0, none⟩) 0 8 [] T.list (Sees.nil' _) hW (by simp) (by simp [S8.list])
         clear HKeep HF HG HB0 z2 y0 y1 y2 y3 y4 y5 y6 y7 yf hx1 hx2
         go_wp2_with fail
         refine hend2.mono ?_
         rintro e w4 ⟨d, cd, r, HR, rfl, hs4, hb4, ho4⟩
         go_wp2
         go_ret2
         exact ⟨d, cd, r, by rw [HR.out, List.nil_append]; exact hT2, rfl, hs4, hB3.trans (hb4.mono hB3.size), ho4.mono hB3.size⟩)
      | (have hW := Words.of_row (z2.sets T) (by simp [S8.list]) (S8.small_list hTs.out)
         have hB3 := below_sets hb2 (g := w1.heap.size) hb1.size T
         have hend2 := put_own _ none (some ⟨w1.heap.size, 0, none⟩) 0 8 [] T.list (Sees.nil' _) hW (by simp) (by simp [S8.list])
         clear HKeep HF HG HB0 z2 y0 y1 y2 y3 y4 y5 y6 y7 yf hx1 hx2
         go_wp2_with fail
         refine hend2.mono ?_
         rintro e w4 ⟨d, cd, r, HR, rfl, hs4, hb4, ho4⟩
         go_wp2
         go_ret2
         exact ⟨d, cd, r, by rw [HR.out, List.nil_append]; exact hT2, rfl, hs4, hB3.trans (hb4.mono hB3.size), ho4.mono hB3.size⟩)
      | (have hW := Words.of_row (l := T.list) (heap_alloc_new w2 (.cells (T.list.map wcell).toArray 101)) (by simp [S8.list]) (S8.small_list hTs.out)
         have hB3 := hb2.alloc hb2.size (.cells (T.list.map wcell).toArray 101)
         have hend2 := put_own _ none (some ⟨w2.heap.size, 0, none⟩) 0 8 [] T.list (Sees.nil' _) hW (by simp) (by simp [S8.list])
         clear HKeep HF HG HB0 hx1 hx2
         go_wp2_with fail
         refine hend2.mono ?_
         rintro e w4 ⟨d, cd, r, HR, rfl, hs4, hb4, ho4⟩
         go_wp2
         go_ret2
         exact ⟨d, cd, r, by rw [HR.out, List.nil_append]; exact hT2, rfl, hs4, hB3.trans (hb4.mono hB3.size), ho4.mono hB3.size⟩)
theorem sum_yes {R : List Value} {ty : TypeId} (w : World) (b : Nat) (bs : List UInt8) (h : Dig R ty w b bs) (hT : KTab w) :
    Calls Tryd.prog 67 #[.pointer (some ⟨b, 0, none⟩)] w fun e w' => ∃ d cd r, Hid (r = shaL bs) ∧ e = .returned (.tuple #[.slice d r.length cd, .int .i64 0]) ∧ Sees w' d cd r ∧ Below w.heap.size w w' :=
  (sum_own w b bs h hT).mono fun _ _ ⟨d, cd, r, h1, h2, h3, h4, _⟩ => ⟨d, cd, r, h1, h2, h3, h4⟩
end Go.Proofs.YtleedppcandbkaaDoor

namespace Go.Proofs.YtleedppcandbkaaDoor
open Go.ChangeShapes Go.WideShapes Go.ChangeAt Go.RowKit

theorem Dig.obj' {R : List Value} {ty : TypeId} {w : World} {b : Nat} {bs : List UInt8} (h : Dig R ty w b bs) : ∃ n s v, ObjAt R ty w b n s v := by obtain ⟨a, ho, _⟩ := h.obj; exact ⟨_, _, _, ho⟩

set_option maxHeartbeats 800000 in
set_option maxRecDepth 20000 in
theorem of_own (w : World) (x : Option Addr) (cx : Nat) (bs : List UInt8) (hx : Sees w x cx bs) (hF : FTab w) (hT : KTab w) (hl : bs.length ≤ 1048576) :
    Calls Tryd.prog 57 #[.slice x bs.length cx] w fun e w' => ∃ d cd r, Hid (r = shaL bs) ∧ e = .returned (.tuple #[.slice d r.length cd, .int .i64 0]) ∧ Sees w' d cd r ∧ Below w.heap.size w w' ∧ w'.ownsRow w.heap.size 5 1 (.slice d r.length cd) r.length (r.map cellOf) := by
  have HT : Hid (KTab w) := hT
  have HX : Hid (Sees w x cx bs) := hx
  have hnew := new_any w hF
  clear hT hF hx
  go_enter Tryd.func57, Tryd.ntmps57
  go_wp2_with fail
  refine hnew.mono ?_
  rintro e w1 ⟨rfl, hD1, hb1⟩
  have hw := write_any w1 w.heap.size [] hD1 x cx bs (HX.out.below hb1) (HT.out.below hb1) (by simpa using hl)
  rw [List.nil_append] at hw
  clear hnew
  go_wp2_with fail
  refine hw.mono ?_
  rintro e w2 ⟨rfl, hD2, hbt2⟩
  obtain ⟨n, s, v, ho1⟩ := hD1.obj'
  have hb2 : Below w.heap.size w w2 := hbt2.below hb1 (Nat.le_refl _)
  have hsum := sum_own w2 w.heap.size bs hD2 ((HT.out.below hb1).but ho1 hbt2)
  clear hw ho1 hD1
  go_wp2_with fail
  refine hsum.mono ?_
  rintro e w3 ⟨d, cd, r, hr, rfl, hs3, hb3, ho3⟩
  clear hsum
  go_wp2
  go_ret2
  exact ⟨d, cd, r, hr, rfl, hs3, hb2.trans (hb3.mono hb2.size), ho3.mono hb2.size⟩

theorem of_ok (w : World) (x : Option Addr) (cx : Nat) (bs : List UInt8) (hx : Sees w x cx bs) (hF : FTab w) (hT : KTab w) (hl : bs.length ≤ 1048576) :
    Calls Tryd.prog 57 #[.slice x bs.length cx] w fun e w' => ∃ d cd r, Hid (r = shaL bs) ∧ e = .returned (.tuple #[.slice d r.length cd, .int .i64 0]) ∧ Sees w' d cd r ∧ Below w.heap.size w w' :=
  (of_own w x cx bs hx hF hT hl).mono fun _ _ ⟨d, cd, r, h1, h2, h3, h4, _⟩ => ⟨d, cd, r, h1, h2, h3, h4⟩

set_option maxHeartbeats 800000 in
set_option maxRecDepth 20000 in
theorem of_long (w : World) (x : Option Addr) (m cx : Nat) (hF : FTab w) (hl : 1048576 < m) :
    Calls Tryd.prog 57 #[.slice x m cx] w fun e w' => e = .returned (.tuple #[.slice none 0 0, .int .i64 2]) ∧ Below w.heap.size w w' := by
  have hnew := new_any w hF
  clear hF
  go_enter Tryd.func57, Tryd.ntmps57
  go_wp2_with fail
  refine hnew.mono ?_
  rintro e w1 ⟨rfl, hD1, hb1⟩
  have hw := write_long w1 w.heap.size [] hD1 x m cx (by simpa using hl)
  clear hnew
  go_wp2_with fail
  refine hw.mono ?_
  rintro e w2 ⟨rfl, rfl⟩
  clear hw
  go_wp2
  go_ret2
  exact ⟨rfl, hb1⟩

end Go.Proofs.YtleedppcandbkaaDoor

namespace Go.Proofs.YtleedppcandbkaaDoor
open Go.ChangeShapes Go.WideShapes Go.ChangeAt Go.RowKit

theorem gF : Tryd.prog.globalNamed "carillon/sha.first" = some 0 := by kernel_rfl
theorem gFt : (Tryd.prog.globals[0]?).map (·.type) = some 101 := by kernel_rfl
theorem gK : Tryd.prog.globalNamed "carillon/sha.roundWords" = some 1 := by kernel_rfl
theorem gKt : (Tryd.prog.globals[1]?).map (·.type) = some 91 := by kernel_rfl
theorem cells50 : Tryd.prog.cellsOf 101 = 8 := by kernel_rfl
theorem cells39 : Tryd.prog.cellsOf 91 = 64 := by kernel_rfl
theorem cells38 : Tryd.prog.cellsOf 68 = 1 := by kernel_rfl

theorem int_getD (l : List Nat) (i : Nat) : (l.map fun x : Nat => (x : Int)).getD i 0 = ((l.getD i 0 : Nat) : Int) := by
  rw [List.getD_eq_getElem?_getD, List.getD_eq_getElem?_getD, List.getElem?_map]
  cases l[i]? <;> rfl

theorem tabs {W : World} (h : laidMet Tryd.prog [("carillon/sha.first", Rows.laid_carillon_sha_first), ("carillon/sha.roundWords", Rows.laid_carillon_sha_roundWords)] W) : FTab W ∧ KTab W := by
  have h1 : Lib.TabIs Tryd.prog W "carillon/sha.first" .u32 (start.list.map fun x : Nat => (x : Int)) :=
    Lib.tabIs_of_head (rest := [("carillon/sha.roundWords", Rows.laid_carillon_sha_roundWords)]) gF gFt Tryd.underlying101 Tryd.underlying68 cells38 cells50 h
  have h2 := h.filter fun x => x.1 == "carillon/sha.roundWords"
  rw [show ([("carillon/sha.first", Rows.laid_carillon_sha_first), ("carillon/sha.roundWords", Rows.laid_carillon_sha_roundWords)] : List (String × DataW Unit)).filter (fun x => x.1 == "carillon/sha.roundWords") = [("carillon/sha.roundWords", Rows.laid_carillon_sha_roundWords)] from by simp] at h2
  have h3 : Lib.TabIs Tryd.prog W "carillon/sha.roundWords" .u32 (kTab.map fun x : Nat => (x : Int)) :=
    Lib.tabIs_of_head (rest := []) gK gKt Tryd.underlying91 Tryd.underlying68 cells38 cells39 h2
  constructor
  · intro t ht
    rw [h1.cell gF t (by simpa [S8.list] using ht), int_getD]
  · intro t ht
    rw [h3.cell gK t (by rw [List.length_map, kTab_length]; exact ht), int_getD]
end Go.Proofs.YtleedppcandbkaaDoor
