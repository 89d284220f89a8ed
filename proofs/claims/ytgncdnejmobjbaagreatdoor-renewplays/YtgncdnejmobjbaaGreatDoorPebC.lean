/-
  The contracts of top, and of the closure that halves.
-/
import Derived.Test.YtgncdnejmobjbaaGreatDoorPebB
import Derived.Deep.Cut
import Derived.Deep.Fields
namespace Go.Proofs.YtgncdnejmobjbaaGreatDoor
open Go.ChangeShapes Go.WideShapes Go.ChangeAt Go.RowKit

theorem set2 {w : World} {g : Nat} {a b : Value} {T : TypeId} (h : w.heap[g]? = some (.cells #[a, b] T (0, 0))) (u v : Value) : ((w.setCell ⟨g, 0, none⟩ u).setCell ⟨g, 1, none⟩ v).heap[g]? = some (.cells #[u, v] T (0, 0)) := by
  rw [heap_setCell_same _ _ _ _ _ _ (heap_setCell_same _ _ _ _ _ _ h)]; rfl
theorem below_two {W w : World} {B g : Nat} (h : Below B W w) (hg : B ≤ g) (x y : Value) : Below B W ((w.setCell ⟨g, 0, none⟩ x).setCell ⟨g, 1, none⟩ y) := (h.setCell (p := ⟨g, 0, none⟩) hg x).setCell (p := ⟨g, 1, none⟩) hg y
theorem res_stone {fn : Func} {p : Tmp} (h : fn.results = #[.cell p 90]) {tmps : Array Value} {w : World} {g : Nat} {u v : Value} (hp : tmps.getD p undef = .pointer (some ⟨g, 0, none⟩)) (hg : w.heap[g]? = some (.cells #[u, v] 90 (0, 0))) :
    (results fn tmps).run Tryz.prog w = .ok (.agg #[u, v]) w := results_cell_row h _ _ g 90 _ (0, 0) _ hp hg Tryz.underlying90 rfl (by kernel_rfl)

set_option maxHeartbeats 1600000 in
set_option maxRecDepth 20000 in
theorem top_ok (w : World) (Q : Nest) (o g b cap : Nat) (v0 : Value) (key : List UInt8) (n told steps : Nat) (x : Stone) (T : List Stone) (h : Peb Q o w g b cap v0 key n told steps (x :: T)) :
    Calls Tryz.prog 50 #[.pointer (some ⟨g, o, none⟩)] w fun e w' => e = .returned (.agg #[.int .i64 (x.1 : Int), .slice x.2.1 16 x.2.2]) ∧ Below w.heap.size w w' := by
  obtain ⟨p, d, cd⟩ := x
  obtain ⟨W, hW⟩ : ∃ W, W = w.alloc (.cells #[.int .i64 0, .slice none 0 0] 90) := ⟨_, rfl⟩
  have hb : Below w.heap.size w W := by rw [hW]; exact (Below.refl _ _).alloc (Nat.le_refl _) _
  have hp := h.keep hb
  obtain ⟨_, _, _, c3⟩ := hp.cells
  obtain ⟨e0, e1⟩ := hp.stack.top
  have hN := hp.few
  have hm := hp.most
  obtain ⟨L, hL⟩ : ∃ L, L = T.length := ⟨_, rfl⟩
  rw [List.length_cons, ← hL] at c3 hN
  rw [← hL] at e0 e1
  have hLm : L ≤ 256 := by omega
  have r1 : W.heap[w.heap.size]? = some (.cells #[.int .i64 0, .slice none 0 0] 90 (0, 0)) := by rw [hW]; exact heap_alloc_new _ _
  have b0 := cell_of_row _ _ 0 _ _ _ r1
  have b1 := cell_of_row _ _ 1 _ _ _ r1
  have f0 := frozen_of_row _ _ 0 _ _ r1
  have f1 := frozen_of_row _ _ 1 _ _ r1
  have HW : Hid (W = w.alloc (.cells #[.int .i64 0, .slice none 0 0] 90)) := hW
  have HB : Hid (Below w.heap.size w ((W.setCell ⟨w.heap.size, 0, none⟩ (.int .i64 (p : Int))).setCell ⟨w.heap.size, 1, none⟩ (.slice d 16 cd))) := below_two hb (Nat.le_refl _) _ _
  have HR : Hid (((W.setCell ⟨w.heap.size, 0, none⟩ (.int .i64 (p : Int))).setCell ⟨w.heap.size, 1, none⟩ (.slice d 16 cd)).heap[w.heap.size]? = some (.cells #[.int .i64 (p : Int), .slice d 16 cd] 90 (0, 0))) := set2 r1 _ _
  dsimp only at e0 e1 ⊢
  clear hp h hW hb hL hN hm r1
  go_enter Tryz.func50, Tryz.ntmps50
  go_upto_region 1 with fail
  rw [← HW.out]
  go_big_region
  go_wp2
  refine bodyPost_ret (res_stone rfl rfl (show _ from HR.out)) rfl ?_
  exact ⟨rfl, HB.out.drew⟩

set_option maxHeartbeats 1600000 in
set_option maxRecDepth 20000 in
theorem halve_ok (w : World) (o g bp bs : Nat) (p told k : Nat) (d : Option Addr) (cd : Nat) (key : List UInt8) (hp : Boxed w bp 65 (.pointer (some ⟨g, o, none⟩))) (hk : Boxed w bs 3 (.int .i64 (k : Int))) (ht : w.cell? ⟨g, o + 1, none⟩ = some (.int .i64 (told : Int)))
    (hs : Sees w d cd key) (hl : key.length = 16) (htp : told + 1 < p) (hpm : p ≤ 256) (hkm : k ≤ 100000) (hF : FTab w) (hT : KTab w) :
    Calls Tryz.prog 73 #[.agg #[.int .i64 (p : Int), .slice d 16 cd], .pointer (some ⟨bp, 0, none⟩), .pointer (some ⟨bs, 0, none⟩)] w fun e w' => ∃ d' c', e = .returned (.agg #[.int .i64 ((told + (p - told) / 2 : Nat) : Int), .slice d' 16 c']) ∧
      Sees w' d' c' (backL (p - (told + (p - told) / 2)) key) ∧ Boxed w' bs 3 (.int .i64 ((k + (p - (told + (p - told) / 2)) : Nat) : Int)) ∧ Apart (fun i => i = bs) w w' := by
  obtain ⟨A, hA⟩ : ∃ A, A = p - told := ⟨_, rfl⟩
  obtain ⟨q, hq⟩ : ∃ q, q = told + (p - told) / 2 := ⟨_, rfl⟩
  obtain ⟨D, hD⟩ : ∃ D, D = p - q := ⟨_, rfl⟩
  rw [← hq, ← hD]
  have a1 : (p : Int) - (told : Int) = (A : Int) := by omega
  obtain ⟨W, hW⟩ : ∃ W, W = (w.alloc (.cells #[.int .i64 (p : Int), .slice d 16 cd] 90)).alloc (.cells #[.int .i64 0, .slice none 0 0] 90) := ⟨_, rfl⟩
  have hb : Below w.heap.size w W := by rw [hW]; exact ((Below.refl _ _).alloc (Nat.le_refl _) _).alloc (by simp) _
  have r1 : W.heap[w.heap.size]? = some (.cells #[.int .i64 (p : Int), .slice d 16 cd] 90 (0, 0)) := by rw [hW, Below.heap_alloc _ _ _ (by simp)]; exact heap_alloc_new _ _
  have r2 : W.heap[w.heap.size + 1]? = some (.cells #[.int .i64 0, .slice none 0 0] 90 (0, 0)) := by
    have := heap_alloc_new (w.alloc (.cells #[.int .i64 (p : Int), .slice d 16 cd] 90)) (.cells #[.int .i64 0, .slice none 0 0] 90)
    rw [World.size_alloc] at this
    rw [hW]; exact this
  have x0 := cell_of_row _ _ 0 _ _ _ r1
  have x1 := cell_of_row _ _ 1 _ _ _ r1
  have cp := (Boxed.below hp hb).cell
  have ct : W.cell? ⟨g, o + 1, none⟩ = some (.int .i64 (told : Int)) := by rw [hb.cell (World.block_lt_of_cell? w _ ht)]; exact ht
  have ck := (Boxed.below hk hb)
  have hlt : bs < w.heap.size := hk.lt
  have a2 : (A : Int) - (A : Int) / 2 = (D : Int) := by omega
  have a3 : (p : Int) - (D : Int) = (q : Int) := by omega
  have hDm : D ≤ 256 := by omega
  have hqm : q ≤ 256 := by omega
  have hAm : A ≤ 256 := by omega
  obtain ⟨X, hX⟩ : ∃ X, X = k + D := ⟨_, rfl⟩
  rw [← hX]
  have a4 : (k : Int) + (D : Int) = (X : Int) := by omega
  have hXm : X ≤ 200000 := by omega
  have hback : Hid (∀ m, Calls Tryz.prog 49 #[.slice d 16 cd, .int .i64 (D : Int)] (W.drewN m) fun e w' => ∃ d' c', e = .returned (.tuple #[.slice d' 16 c', .int .i64 0]) ∧ Sees w' d' c' (backL D key) ∧ Below W.heap.size W w') := by
    intro m
    have hbm : Below w.heap.size w (W.drewN m) := below_drewN hb m
    have h := back_any (W.drewN m) d cd key (D : Int) (hF.below hbm) (hT.below hbm) (hs.below hbm)
    have hP : backP key (D : Int) = (backL D key, 0) := by unfold backP; rw [if_pos ⟨hl, by omega, by omega⟩, Int.toNat_natCast]
    rw [hP, hl] at h
    refine h.mono ?_
    rintro e w' ⟨d', c', rfl, hs', hb'⟩
    exact ⟨d', c', by rw [backL_len _ _ hl]; rfl, hs', (below_drewN (Below.refl _ _) m).trans hb'⟩
  have HW : Hid (W = (w.alloc (.cells #[.int .i64 (p : Int), .slice d 16 cd] 90)).alloc (.cells #[.int .i64 0, .slice none 0 0] 90)) := hW
  have HB : Hid (Below w.heap.size w W) := hb
  have HK : Hid (Boxed W bs 3 (.int .i64 (k : Int)) ∧ bs < w.heap.size) := ⟨ck, hlt⟩
  have R1 : Hid (W.heap[w.heap.size]? = some (.cells #[.int .i64 (p : Int), .slice d 16 cd] 90 (0, 0))) := r1
  have R2 : Hid (W.heap[w.heap.size + 1]? = some (.cells #[.int .i64 0, .slice none 0 0] 90 (0, 0))) := r2
  clear hW hA hq hD hX hb hp hk ht hs hl htp hF hT r1 r2 ck hlt hkm
  go_enter Tryz.func73, Tryz.ntmps73
  go_upto_region 1 with fail
  rw [← HW.out]
  go_big_region
  go_wp2_with fail
  refine (hback.out 1).mono ?_
  rintro e w3 ⟨d', c', rfl, hs3, hb3⟩
  have k3 : Boxed w3 bs 3 (.int .i64 (k : Int)) := Boxed.below HK.out.1 hb3
  have kc := k3.cell
  have kf := k3.frozen
  have r3 : w3.heap[w.heap.size + 1]? = some (.cells #[.int .i64 0, .slice none 0 0] 90 (0, 0)) := by rw [hb3.block _ (Array.getElem?_eq_some_iff.1 R2.out).1]; exact R2.out
  have hne : w.heap.size + 1 ≠ bs := by have := HK.out.2; omega
  have r4 : (w3.setCell ⟨bs, 0, none⟩ (.int .i64 (X : Int))).heap[w.heap.size + 1]? = some (.cells #[.int .i64 0, .slice none 0 0] 90 (0, 0)) := by rw [heap_setCell_other _ _ _ _ hne]; exact r3
  have q4 : (w3.setCell ⟨bs, 0, none⟩ (.int .i64 (X : Int))).heap[w.heap.size]? = some (.cells #[.int .i64 (p : Int), .slice d 16 cd] 90 (0, 0)) := by
    rw [heap_setCell_other _ _ _ _ (show w.heap.size ≠ bs by have := HK.out.2; omega), hb3.block _ (Array.getElem?_eq_some_iff.1 R1.out).1]; exact R1.out
  obtain ⟨w4, hw4⟩ : ∃ w4, w4 = w3.setCell ⟨bs, 0, none⟩ (.int .i64 (X : Int)) := ⟨_, rfl⟩
  rw [← hw4] at r4 q4
  have x4 := cell_of_row _ _ 0 _ _ _ q4
  have y0 := cell_of_row _ _ 0 _ _ _ r4
  have y1 := cell_of_row _ _ 1 _ _ _ r4
  have z0 := frozen_of_row _ _ 0 _ _ r4
  have z1 := frozen_of_row _ _ 1 _ _ r4
  have k4 : Boxed w4 bs 3 (.int .i64 (X : Int)) := by rw [hw4]; exact k3.set _
  have hs4 : Sees w4 d' c' (backL D key) := by
    rw [hw4]; refine hs3.slot k3 ?_ 0 _
    intro j y h
    match j, h with
    | 0, h => simp at h
    | i + 1, h => simp at h
  have HE : Hid (Sees ((w4.setCell ⟨w.heap.size + 1, 0, none⟩ (.int .i64 (q : Int))).setCell ⟨w.heap.size + 1, 1, none⟩ (.slice d' 16 c')) d' c' (backL D key) ∧ Boxed ((w4.setCell ⟨w.heap.size + 1, 0, none⟩ (.int .i64 (q : Int))).setCell ⟨w.heap.size + 1, 1, none⟩ (.slice d' 16 c')) bs 3 (.int .i64 (X : Int)) ∧ Apart (fun i => i = bs) w ((w4.setCell ⟨w.heap.size + 1, 0, none⟩ (.int .i64 (q : Int))).setCell ⟨w.heap.size + 1, 1, none⟩ (.slice d' 16 c'))) := by
    have r5 := heap_setCell_same w4 (w.heap.size + 1) 0 _ 90 (.int .i64 (q : Int)) r4
    refine ⟨?_, Boxed.row (Boxed.row k4 _ (Ne.symm hne)) _ (Ne.symm hne), ?_⟩
    · refine (hs4.slot r4 ?_ 0 _).slot r5 ?_ 1 _
      · intro j y h
        match j, h with
        | 0, h => simp at h
        | 1, h => simp at h
        | i + 2, h => simp at h
      · intro j y h
        match j, h with
        | 0, h => simp at h
        | 1, h => simp at h
        | i + 2, h => simp at h
    · have h3 : Below w.heap.size w w3 := HB.out.trans (hb3.mono HB.out.size)
      rw [hw4]
      exact (((Apart.of_below (F := fun i => i = bs) h3).setCell (b := bs) (.inl rfl) 0 _).setCell (b := w.heap.size + 1) (.inr (by omega)) 0 _).setCell (b := w.heap.size + 1) (.inr (by omega)) 1 _
  have HR : Hid (((w4.setCell ⟨w.heap.size + 1, 0, none⟩ (.int .i64 (q : Int))).setCell ⟨w.heap.size + 1, 1, none⟩ (.slice d' 16 c')).heap[w.heap.size + 1]? = some (.cells #[.int .i64 (q : Int), .slice d' 16 c'] 90 (0, 0))) := set2 r4 _ _
  have HW4 : Hid (w4 = w3.setCell ⟨bs, 0, none⟩ (.int .i64 (X : Int))) := hw4
  clear hback hs3 hb3 k3 r3 r4 q4 hw4 k4 hs4 hne
  go_upto_region 5 with fail
  rw [← HW4.out]
  go_wp2
  refine bodyPost_ret (res_stone rfl rfl (show _ from HR.out)) rfl ?_
  exact ⟨d', c', rfl, HE.out⟩
end Go.Proofs.YtgncdnejmobjbaaGreatDoor
