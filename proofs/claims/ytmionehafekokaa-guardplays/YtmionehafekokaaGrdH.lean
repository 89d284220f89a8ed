/-
  The contract of Data.
-/
import Derived.Test.YtmionehafekokaaGrdG
namespace Go.Proofs.Ytmionehafekokaa
open Go.ChangeShapes Go.WideShapes Go.ChangeAt Go.RowKit

/-- Behind Place: the cell of the schedule lies in a block of its own. -/
theorem Gd.placed {w w1 : World} {g m : Nat} {s : Value} {v : Gs} {rs : List Int} {n : Nat} (h : Gd w g m s v rs n) (hb : Below w.heap.size w w1) (x y z : Int) :
    Gd (w1.alloc (.cells #[.int .i64 x, .int .i64 y, .int .i64 z] 47)) g m s v rs n ∧ Tri (w1.alloc (.cells #[.int .i64 x, .int .i64 y, .int .i64 z] 47)) w1.heap.size x y z ∧ Below w.heap.size w (w1.alloc (.cells #[.int .i64 x, .int .i64 y, .int .i64 z] 47)) ∧ g < w1.heap.size :=
  ⟨(h.below hb).below (Go.Joins.below_alloc1 _ _), Tri.new w1 x y z, hb.alloc hb.size _, Nat.lt_of_lt_of_le h.at'.lt hb.size⟩

theorem Gd.setLast {w : World} {g m : Nat} {s : Value} {v : Gs} {rs : List Int} {n : Nat} (h : Gd w g m s v rs n) (r : Int) : Gd (w.setCell ⟨g, 11, none⟩ (.int .i64 r)) g m s { v with last := r } rs n :=
  ⟨h.at'.put 11 _ rfl, h.map.keep (heap_setCell_other _ _ _ _ (fun e => h.gm e.symm)), h.row.keep fun k hk => heap_setCell_other _ _ _ _ (fun e => h.sg (by subst e; exact hk)), h.tie, h.len⟩

set_option maxHeartbeats 1600000 in
set_option maxRecDepth 20000 in
theorem data_ok (w : World) (g m : Nat) (s : Value) (v : Gs) (rs : List Int) (n : Nat) (h : Gd w g m s v rs n) (t : Int) :
    Calls Try.prog 10 #[.pointer (some ⟨g, 0, none⟩), .int .i64 t] w fun e w' => e = .returned (.tuple #[.int .i64 (dataR v t), .int .i64 (dataE v t)]) ∧ Gd w' g m s (dataV v t) rs n ∧ Apart (fun k => k = g) w w' := by
  have KM := made_ok w g m h.at'.others
  have KP := place_ok w v.c t
  obtain ⟨c0, c1, c2, c3, c4, c5, c6, c7, c8, c9⟩ := h.at'.cfg
  have HG : Hid (Gd w g m s v rs n) := h
  have HE : Hid (dataR v t = (if dataE v t = 0 then rdN v.c t else 0) ∧ dataV v t = (if dataE v t = 0 then { v with last := rdN v.c t } else v)) := ⟨rfl, rfl⟩
  clear h
  by_cases hp : placeB v.c t = true
  case neg =>
    have e0 : dataE v t = 1 := by rw [dataE, if_neg hp]
    have e1 : dataR v t = 0 := by rw [HE.out.1, e0]; rfl
    have e2 : dataV v t = v := by rw [HE.out.2, e0]; rfl
    rw [e0, e1, e2]
    rw [placeV, if_neg hp] at KP
    clear hp HE e0 e1 e2
    go_enter Try.func10, Try.ntmps10
    go_wp2_with fail
    refine KM.mono ?_
    rintro e w ⟨rfl, rfl⟩
    clear KM
    go_wp2_with fail
    refine KP.mono ?_
    rintro e w1 ⟨rfl, hb⟩
    clear KP c0 c1 c2 c3 c4 c5 c6 c7 c8 c9
    obtain ⟨h1, h2, h3, h4⟩ := HG.out.placed hb 0 0 0
    have HF : Hid (Gd (w1.alloc (.cells #[.int .i64 0, .int .i64 0, .int .i64 0] 47)) g m s v rs n ∧ Apart (fun k => k = g) w (w1.alloc (.cells #[.int .i64 0, .int .i64 0, .int .i64 0] 47))) := ⟨h1, Apart.of_below h3⟩
    clear hb h1 h2 h3 h4 HG
    go_wp2
    go_ret2
    exact ⟨rfl, HF.out⟩
  rw [placeV, if_pos hp] at KP
  have HD1 : dataE v t = (if slN v.c t = v.i then (if rdN v.c t ≤ v.last ∨ rdN v.c t < v.least then 10 else 0) else 5) := by rw [dataE, if_pos hp]
  have HD : Hid (dataE v t = (if slN v.c t = v.i then (if rdN v.c t ≤ v.last ∨ rdN v.c t < v.least then 10 else 0) else 5)) := HD1
  clear HD1
  clear hp
  change Calls Try.prog 17 _ _ (fun e w' => e = .returned (.tuple #[.agg #[.int .i64 (rdN v.c t), .int .i64 (slN v.c t), .int .i64 (t % v.c.s)], .int .i64 0]) ∧ Below w.heap.size w w') at KP
  generalize t % v.c.s = O at *
  go_enter Try.func10, Try.ntmps10
  go_wp2_with fail
  refine KM.mono ?_
  rintro e w ⟨rfl, rfl⟩
  clear KM
  go_wp2_with fail
  refine KP.mono ?_
  rintro e w1 ⟨rfl, hb⟩
  clear KP c0 c1 c2 c3 c4 c5 c6 c7 c8 c9
  obtain ⟨h1, h2, h3, h4⟩ := HG.out.placed hb (rdN v.c t) (slN v.c t) O
  have c10 := h1.at'.node
  have c11 := h1.at'.last
  have c12 := h1.at'.least
  have f11 := h1.at'.fz 11
  obtain ⟨t0, t1, t2, f0, f1, f2⟩ := h2.facts
  have HF : Hid (Gd (w1.alloc (.cells #[.int .i64 (rdN v.c t), .int .i64 (slN v.c t), .int .i64 O] 47)) g m s v rs n ∧ Apart (fun k => k = g) w (w1.alloc (.cells #[.int .i64 (rdN v.c t), .int .i64 (slN v.c t), .int .i64 O] 47)) ∧ g < w1.heap.size) := ⟨h1, Apart.of_below h3, h4⟩
  clear hb h1 h2 h3 h4 HG
  go_upto_region 6 with fail
  obtain ⟨W, hW⟩ : ∃ W, W = w1.alloc (.cells #[.int .i64 (rdN v.c t), .int .i64 (slN v.c t), .int .i64 O] 47) := ⟨_, rfl⟩
  rw [← hW] at HF c10 c11 c12 f11 t0 t1 t2 f0 f1 f2 ⊢
  generalize w1.heap.size = b at *
  clear hW w1
  generalize hR : rdN v.c t = R at *
  generalize slN v.c t = S at *
  by_cases hs : S = v.i
  case neg =>
    have e0 : dataE v t = 5 := by rw [HD.out, if_neg hs]
    have e1 : dataR v t = 0 := by rw [HE.out.1, e0]; rfl
    have e2 : dataV v t = v := by rw [HE.out.2, e0]; rfl
    have HP : Hid (dataE v t = 5 ∧ dataR v t = 0 ∧ dataV v t = v) := ⟨e0, e1, e2⟩
    clear HD HE e0 e1 e2
    go_big_region
    go_wp2
    go_ret2
    rw [HP.out.1, HP.out.2.1, HP.out.2.2]
    exact ⟨rfl, HF.out.1.drew, HF.out.2.1.drew⟩
  by_cases hl : R ≤ v.last
  case pos =>
    have e0 : dataE v t = 10 := by rw [HD.out, if_pos hs, if_pos (.inl hl)]
    have e1 : dataR v t = 0 := by rw [HE.out.1, e0]; rfl
    have e2 : dataV v t = v := by rw [HE.out.2, e0]; rfl
    have HP : Hid (dataE v t = 10 ∧ dataR v t = 0 ∧ dataV v t = v) := ⟨e0, e1, e2⟩
    clear HD HE e0 e1 e2
    go_big_region
    go_wp2
    go_big_region
    go_wp2
    go_ret2
    rw [HP.out.1, HP.out.2.1, HP.out.2.2]
    exact ⟨rfl, HF.out.1.drew.drew, HF.out.2.1.drew.drew⟩
  have d1 : decide (R ≤ v.last) = false := decide_eq_false hl
  by_cases hm : R < v.least
  case pos =>
    have e0 : dataE v t = 10 := by rw [HD.out, if_pos hs, if_pos (.inr hm)]
    have e1 : dataR v t = 0 := by rw [HE.out.1, e0]; rfl
    have e2 : dataV v t = v := by rw [HE.out.2, e0]; rfl
    have HP : Hid (dataE v t = 10 ∧ dataR v t = 0 ∧ dataV v t = v) := ⟨e0, e1, e2⟩
    clear HD HE e0 e1 e2
    go_big_region
    go_wp2
    go_big_region
    go_wp2
    go_ret2
    rw [HP.out.1, HP.out.2.1, HP.out.2.2]
    exact ⟨rfl, HF.out.1.drew.drew, HF.out.2.1.drew.drew⟩
  have e0 : dataE v t = 0 := by rw [HD.out, if_pos hs, if_neg (by omega)]
  have e1 : dataR v t = R := by rw [HE.out.1, e0]; rfl
  have e2 : dataV v t = { v with last := R } := by rw [HE.out.2, e0]; rfl
  have HP : Hid (dataE v t = 0 ∧ dataR v t = R ∧ dataV v t = { v with last := R }) := ⟨e0, e1, e2⟩
  clear HD HE e0 e1 e2
  go_big_region
  go_wp2
  go_big_region
  go_wp2
  go_ret2
  rw [HP.out.1, HP.out.2.1, HP.out.2.2]
  have hz := HF.out.1.setLast R
  exact ⟨rfl, hz.drew.drew, (HF.out.2.1.setCell (.inl rfl) 11 _).drew.drew⟩
end Go.Proofs.Ytmionehafekokaa
