/-
  The document's guard in memory; it is made; Data and Forget.
-/
import Derived.Test.YtmionehafekokaaGrdD
import Derived.Test.YtmionehafekokaaSchedU
namespace Go.Proofs.Ytmionehafekokaa
open Go.ChangeShapes Go.WideShapes Go.ChangeAt Go.RowKit

def rgL (v : Gs) (s : Value) : List Value := [.int .i64 v.c.n, .int .i64 v.c.f, .int .i64 v.c.s, .int .i64 v.c.d, .int .i64 v.c.k, .int .i64 v.c.e, .int .i64 v.c.v, .int .i64 v.c.r, .int .i64 v.c.l, .int .i64 v.c.p, .int .i64 v.i, .int .i64 v.last, .int .i64 v.least, s]
/-- Block g holds a guard of the document: those let through the slice s. -/
def RA (w : World) (g : Nat) (v : Gs) (s : Value) : Prop := w.heap[g]? = some (.cells (rgL v s).toArray 44 (0, 0))
theorem RA.lt {w : World} {g : Nat} {v : Gs} {s : Value} (h : RA w g v s) : g < w.heap.size := (Array.getElem?_eq_some_iff.1 h).1
theorem RA.keep {w w' : World} {g : Nat} {v : Gs} {s : Value} (h : RA w g v s) (hb : w'.heap[g]? = w.heap[g]?) : RA w' g v s := hb.trans h
theorem RA.cell {w : World} {g : Nat} {v : Gs} {s : Value} (h : RA w g v s) (i : Nat) {u : Value} (hu : (rgL v s)[i]? = some u) : w.cell? ⟨g, i, none⟩ = some u := by
  rw [cell_of_row w _ i _ _ _ h]; simpa using hu
theorem RA.fz {w : World} {g : Nat} {v : Gs} {s : Value} (h : RA w g v s) (i : Nat) : w.frozen? ⟨g, i, none⟩ = false := frozen_of_row _ _ i _ _ h
theorem RA.cfg {w : World} {g : Nat} {v : Gs} {s : Value} (h : RA w g v s) : (w.cell? ⟨g, 0, none⟩ = some (.int .i64 v.c.n) ∧ w.cell? ⟨g, 1, none⟩ = some (.int .i64 v.c.f) ∧ w.cell? ⟨g, 2, none⟩ = some (.int .i64 v.c.s) ∧ w.cell? ⟨g, 3, none⟩ = some (.int .i64 v.c.d) ∧ w.cell? ⟨g, 4, none⟩ = some (.int .i64 v.c.k) ∧ w.cell? ⟨g, 5, none⟩ = some (.int .i64 v.c.e) ∧ w.cell? ⟨g, 6, none⟩ = some (.int .i64 v.c.v) ∧ w.cell? ⟨g, 7, none⟩ = some (.int .i64 v.c.r) ∧ w.cell? ⟨g, 8, none⟩ = some (.int .i64 v.c.l) ∧ w.cell? ⟨g, 9, none⟩ = some (.int .i64 v.c.p)) :=
  ⟨h.cell 0 rfl, h.cell 1 rfl, h.cell 2 rfl, h.cell 3 rfl, h.cell 4 rfl, h.cell 5 rfl, h.cell 6 rfl, h.cell 7 rfl, h.cell 8 rfl, h.cell 9 rfl⟩
theorem RA.node {w : World} {g : Nat} {v : Gs} {s : Value} (h : RA w g v s) : w.cell? ⟨g, 10, none⟩ = some (.int .i64 v.i) := h.cell 10 rfl
theorem RA.last {w : World} {g : Nat} {v : Gs} {s : Value} (h : RA w g v s) : w.cell? ⟨g, 11, none⟩ = some (.int .i64 v.last) := h.cell 11 rfl
theorem RA.least {w : World} {g : Nat} {v : Gs} {s : Value} (h : RA w g v s) : w.cell? ⟨g, 12, none⟩ = some (.int .i64 v.least) := h.cell 12 rfl
theorem RA.others {w : World} {g : Nat} {v : Gs} {s : Value} (h : RA w g v s) : w.cell? ⟨g, 13, none⟩ = some s := h.cell 13 rfl
theorem RA.put {w : World} {g : Nat} {v v' : Gs} {s s' : Value} (h : RA w g v s) (i : Nat) (u : Value) (hl : (rgL v s).set i u = rgL v' s') : RA (w.setCell ⟨g, i, none⟩ u) g v' s' := by
  show (w.setCell ⟨g, i, none⟩ u).heap[g]? = _
  rw [heap_setCell_same _ _ _ _ _ _ h]
  congr 2
  rw [List.setIfInBounds_toArray, hl]

/-- The document's guard as it lies in memory. -/
structure Rd (w : World) (g : Nat) (s : Value) (v : Gs) (n : Nat) : Prop where
  at' : RA w g v s
  row : RsAt w s v.os
  len : v.os.length ≤ n
theorem Rd.sg {w : World} {g : Nat} {s : Value} {v : Gs} {n : Nat} (h : Rd w g s v n) : s.ownBlock ≠ some g := by
  intro e
  obtain ⟨cur, h1⟩ := h.row.isRow e
  have h2 := h.at'
  unfold RA at h2
  rw [h1] at h2; cases h2
def Rwn (g : Nat) (s : Value) : Nat → Prop := fun k => k = g ∨ s.ownBlock = some k
theorem Rd.lt {w : World} {g : Nat} {s : Value} {v : Gs} {n : Nat} (h : Rd w g s v n) {k : Nat} (hk : Rwn g s k) : k < w.heap.size := by
  rcases hk with rfl | hk
  · exact h.at'.lt
  · exact h.row.lt hk
theorem Rd.keep {w w' : World} {g : Nat} {s : Value} {v : Gs} {n : Nat} (h : Rd w g s v n) (hb : ∀ k, Rwn g s k → w'.heap[k]? = w.heap[k]?) : Rd w' g s v n :=
  ⟨h.at'.keep (hb g (.inl rfl)), h.row.keep fun k hk => hb k (.inr hk), h.len⟩
theorem Rd.drew {w : World} {g : Nat} {s : Value} {v : Gs} {n : Nat} (h : Rd w g s v n) : Rd w.drew g s v n := h.keep (w' := w.drew) fun _ _ => rfl
theorem Rd.below {w w' : World} {g : Nat} {s : Value} {v : Gs} {n : Nat} (h : Rd w g s v n) (hb : Below w.heap.size w w') : Rd w' g s v n := h.keep fun k hk => hb.block k (h.lt hk)
theorem Rd.mono {w : World} {g : Nat} {s : Value} {v : Gs} {n : Nat} (h : Rd w g s v n) {n' : Nat} (hn : n ≤ n') : Rd w g s v n' := ⟨h.at', h.row, Nat.le_trans h.len hn⟩

theorem build44 (c : Cf) (i : Int) (w : World) : (Instr.build 44 [(0, .agg (cfC c)), (1, .int .i64 i), (2, .int .i64 (-1))].toArray).run Try.prog w = .ok (.agg (rgL (newG c i) (.slice none 0 0)).toArray) w := by kernel_rfl

set_option maxHeartbeats 1600000 in
set_option maxRecDepth 20000 in
theorem rnew_ok (w : World) (c : Cf) (i : Int) (h : nodeB c i = true) : Calls Try.prog 8 #[.agg (cfC c), .int .i64 i] w fun e w' => ∃ g, e = .returned (.tuple #[.pointer (some ⟨g, 0, none⟩), .int .i64 0]) ∧ Rd w' g (.slice none 0 0) (newG c i) 0 ∧ w.heap.size ≤ g ∧ Below w.heap.size w w' := by
  obtain ⟨ho, i0, i1⟩ := node_ok h
  have H0 : Hid (Cfg w w.heap.size c (w.alloc (.cells (cfC c) 23))) := Cfg.new w c
  have HL : Hid ((Instr.loadAt 23 (.pointer (some ⟨w.heap.size, 0, none⟩))).run Try.prog (w.alloc (.cells (cfC c) 23)) = .ok (.agg (cfC c)) (w.alloc (.cells (cfC c) 23))) := H0.out.own.loads
  have K1 := rcheck_ok (w.alloc (.cells (cfC c) 23)) c
  rw [ho, if_pos rfl] at K1
  clear h ho
  go_enter Try.func8, Try.ntmps8
  go_wp2_with (first | (refine wpList_gload_run rfl 23 _ rfl _ _ rfl HL.out ?_) | fail)
  refine K1.mono ?_
  rintro e w1 ⟨rfl, hb⟩
  have H1 : Hid (Cfg w w.heap.size c w1) := H0.out.step hb
  have p0 := H1.out.own.c0
  have HL2 : Hid ((Instr.loadAt 23 (.pointer (some ⟨w.heap.size, 0, none⟩))).run Try.prog w1 = .ok (.agg (cfC c)) w1) := H1.out.own.loads
  have HBd : Hid (∀ W, (Instr.build 44 [(0, .agg (cfC c)), (1, .int .i64 i), (2, .int .i64 (-1))].toArray).run Try.prog W = .ok (.agg (rgL (newG c i) (.slice none 0 0)).toArray) W) := fun W => build44 c i W
  clear K1 HL H0 hb
  go_wp2_with (first | (refine wpList_gload_run rfl 23 _ rfl _ _ rfl HL2.out ?_) | (refine wpList_build_run rfl 44 _ rfl _ _ rfl (HBd.out _) ?_) | fail)
  go_ret2
  have hs1 : w.heap.size ≤ w1.heap.size := H1.out.bel.size
  exact ⟨w1.heap.size, rfl, ⟨heap_alloc_new w1 _, RsAt.nil _, Nat.le_refl _⟩, hs1, H1.out.bel.alloc hs1 _⟩

set_option maxHeartbeats 1600000 in
set_option maxRecDepth 20000 in
theorem rnew_no (w : World) (c : Cf) (i : Int) (h : nodeB c i = false) : Calls Try.prog 8 #[.agg (cfC c), .int .i64 i] w fun e w' => e = .returned (.tuple #[.pointer none, .int .i64 1]) ∧ Below w.heap.size w w' := by
  have H0 : Hid (Cfg w w.heap.size c (w.alloc (.cells (cfC c) 23))) := Cfg.new w c
  have HL : Hid ((Instr.loadAt 23 (.pointer (some ⟨w.heap.size, 0, none⟩))).run Try.prog (w.alloc (.cells (cfC c) 23)) = .ok (.agg (cfC c)) (w.alloc (.cells (cfC c) 23))) := H0.out.own.loads
  have K1 := rcheck_ok (w.alloc (.cells (cfC c) 23)) c
  cases ho : okB c
  · rw [ho, if_neg Bool.false_ne_true] at K1
    clear h ho
    go_enter Try.func8, Try.ntmps8
    go_wp2_with (first | (refine wpList_gload_run rfl 23 _ rfl _ _ rfl HL.out ?_) | fail)
    refine K1.mono ?_
    rintro e w1 ⟨rfl, hb⟩
    have H1 : Hid (Cfg w w.heap.size c w1) := H0.out.step hb
    clear K1 HL H0 hb
    go_wp2
    go_ret2
    exact ⟨rfl, H1.out.bel⟩
  · rw [ho, if_pos rfl] at K1
    by_cases i0 : i < 0
    · clear h ho
      go_enter Try.func8, Try.ntmps8
      go_wp2_with (first | (refine wpList_gload_run rfl 23 _ rfl _ _ rfl HL.out ?_) | fail)
      refine K1.mono ?_
      rintro e w1 ⟨rfl, hb⟩
      have H1 : Hid (Cfg w w.heap.size c w1) := H0.out.step hb
      clear K1 HL H0 hb
      go_wp2
      go_ret2
      exact ⟨rfl, H1.out.bel⟩
    · have i1 : c.n ≤ i := by
        simp only [nodeB, ho, Bool.true_and, decide_eq_false_iff_not] at h
        omega
      clear h ho
      go_enter Try.func8, Try.ntmps8
      go_wp2_with (first | (refine wpList_gload_run rfl 23 _ rfl _ _ rfl HL.out ?_) | fail)
      refine K1.mono ?_
      rintro e w1 ⟨rfl, hb⟩
      have H1 : Hid (Cfg w w.heap.size c w1) := H0.out.step hb
      have p0 := H1.out.own.c0
      clear K1 HL H0 hb
      go_wp2
      go_ret2
      exact ⟨rfl, H1.out.bel⟩

theorem rforget_ok (w : World) (g : Nat) (s : Value) (v : Gs) (n : Nat) (h : Rd w g s v n) (l : Int) : Calls Try.prog 15 #[.pointer (some ⟨g, 0, none⟩), .int .i64 l] w fun e w' => e = .returned (.tuple #[]) ∧ Rd w' g s (forV v l) n ∧ Apart (fun k => k = g) w w' := by
  have c11 := h.at'.last
  have c12 := h.at'.least
  have f11 := h.at'.fz 11
  have f12 := h.at'.fz 12
  have h1 : RA (w.setCell ⟨g, 11, none⟩ (.int .i64 (-1))) g { v with last := -1 } s := h.at'.put 11 _ rfl
  have h2 : RA ((w.setCell ⟨g, 11, none⟩ (.int .i64 (-1))).setCell ⟨g, 12, none⟩ (.int .i64 (max l 0))) g (forV v l) s := h1.put 12 _ rfl
  have ho : ∀ k, k ≠ g → ((w.setCell ⟨g, 11, none⟩ (.int .i64 (-1))).setCell ⟨g, 12, none⟩ (.int .i64 (max l 0))).heap[k]? = w.heap[k]? := fun k hk => by
    rw [heap_setCell_other _ _ _ _ hk, heap_setCell_other _ _ _ _ hk]
  have HE : Hid (Rd ((w.setCell ⟨g, 11, none⟩ (.int .i64 (-1))).setCell ⟨g, 12, none⟩ (.int .i64 (max l 0))) g s (forV v l) n ∧ Apart (fun k => k = g) w ((w.setCell ⟨g, 11, none⟩ (.int .i64 (-1))).setCell ⟨g, 12, none⟩ (.int .i64 (max l 0)))) :=
    ⟨⟨h2, h.row.keep fun k hk => ho k (fun e => h.sg (by subst e; exact hk)), h.len⟩, ((Apart.refl (fun k => k = g) w).setCell (.inl rfl) 11 _).setCell (.inl rfl) 12 _⟩
  have hm := max2i l 0 (w.setCell ⟨g, 11, none⟩ (.int .i64 (-1)))
  clear h h1 h2 ho
  generalize v.last = a at *
  generalize v.least = b at *
  generalize max l 0 = y at *
  go_enter Try.func15, Try.ntmps15
  go_wp2
  go_end0
  exact ⟨rfl, HE.out⟩
theorem Rd.placed {w w1 : World} {g : Nat} {s : Value} {v : Gs} {n : Nat} (h : Rd w g s v n) (hb : Below w.heap.size w w1) (x y z : Int) :
    Rd (w1.alloc (.cells #[.int .i64 x, .int .i64 y, .int .i64 z] 47)) g s v n ∧ Tri (w1.alloc (.cells #[.int .i64 x, .int .i64 y, .int .i64 z] 47)) w1.heap.size x y z ∧ Below w.heap.size w (w1.alloc (.cells #[.int .i64 x, .int .i64 y, .int .i64 z] 47)) ∧ g < w1.heap.size :=
  ⟨(h.below hb).below (Go.Joins.below_alloc1 _ _), Tri.new w1 x y z, hb.alloc hb.size _, Nat.lt_of_lt_of_le h.at'.lt hb.size⟩
theorem Rd.setLast {w : World} {g : Nat} {s : Value} {v : Gs} {n : Nat} (h : Rd w g s v n) (r : Int) : Rd (w.setCell ⟨g, 11, none⟩ (.int .i64 r)) g s { v with last := r } n :=
  ⟨h.at'.put 11 _ rfl, h.row.keep fun k hk => heap_setCell_other _ _ _ _ (fun e => h.sg (by subst e; exact hk)), h.len⟩

set_option maxHeartbeats 1600000 in
set_option maxRecDepth 20000 in
theorem rdata_ok (w : World) (g : Nat) (s : Value) (v : Gs) (n : Nat) (h : Rd w g s v n) (t : Int) :
    Calls Try.prog 11 #[.pointer (some ⟨g, 0, none⟩), .int .i64 t] w fun e w' => e = .returned (.tuple #[.int .i64 (dataR v t), .int .i64 (dataE v t)]) ∧ Rd w' g s (dataV v t) n ∧ Apart (fun k => k = g) w w' := by
  have KP := rplace_ok w v.c t
  obtain ⟨c0, c1, c2, c3, c4, c5, c6, c7, c8, c9⟩ := h.at'.cfg
  have HG : Hid (Rd w g s v n) := h
  have HE : Hid (dataR v t = (if dataE v t = 0 then rdN v.c t else 0) ∧ dataV v t = (if dataE v t = 0 then { v with last := rdN v.c t } else v)) := ⟨rfl, rfl⟩
  clear h
  by_cases hp : placeB v.c t = true
  case neg =>
    have e0 : dataE v t = 1 := by rw [dataE, if_neg hp]
    have e1 : dataR v t = 0 := by rw [HE.out.1, e0]; rfl
    have e2 : dataV v t = v := by rw [HE.out.2, e0]; rfl
    rw [e0, e1, e2]
    rw [placeV, if_neg hp] at KP
    clear hp HE e0 e1 e2
    go_enter Try.func11, Try.ntmps11
    go_wp2_with fail
    refine KP.mono ?_
    rintro e w1 ⟨rfl, hb⟩
    clear KP c0 c1 c2 c3 c4 c5 c6 c7 c8 c9
    obtain ⟨h1, h2, h3, h4⟩ := HG.out.placed hb 0 0 0
    have HF : Hid (Rd (w1.alloc (.cells #[.int .i64 0, .int .i64 0, .int .i64 0] 47)) g s v n ∧ Apart (fun k => k = g) w (w1.alloc (.cells #[.int .i64 0, .int .i64 0, .int .i64 0] 47))) := ⟨h1, Apart.of_below h3⟩
    clear hb h1 h2 h3 h4 HG
    go_wp2
    go_ret2
    exact ⟨rfl, HF.out⟩
  rw [placeV, if_pos hp] at KP
  have HD1 : dataE v t = (if slN v.c t = v.i then (if rdN v.c t ≤ v.last ∨ rdN v.c t < v.least then 10 else 0) else 5) := by rw [dataE, if_pos hp]
  have HD : Hid (dataE v t = (if slN v.c t = v.i then (if rdN v.c t ≤ v.last ∨ rdN v.c t < v.least then 10 else 0) else 5)) := HD1
  clear HD1
  clear hp
  change Calls Try.prog 22 _ _ (fun e w' => e = .returned (.tuple #[.agg #[.int .i64 (rdN v.c t), .int .i64 (slN v.c t), .int .i64 (t % v.c.s)], .int .i64 0]) ∧ Below w.heap.size w w') at KP
  generalize t % v.c.s = O at *
  go_enter Try.func11, Try.ntmps11
  go_wp2_with fail
  refine KP.mono ?_
  rintro e w1 ⟨rfl, hb⟩
  clear KP c0 c1 c2 c3 c4 c5 c6 c7 c8 c9
  obtain ⟨h1, h2, h3, h4⟩ := HG.out.placed hb (rdN v.c t) (slN v.c t) O
  have c10 := h1.at'.node
  have c11 := h1.at'.last
  have c12 := h1.at'.least
  have f11 := h1.at'.fz 11
  obtain ⟨t0, t1, t2, f0, f1, f2⟩ := h2.facts
  have HF : Hid (Rd (w1.alloc (.cells #[.int .i64 (rdN v.c t), .int .i64 (slN v.c t), .int .i64 O] 47)) g s v n ∧ Apart (fun k => k = g) w (w1.alloc (.cells #[.int .i64 (rdN v.c t), .int .i64 (slN v.c t), .int .i64 O] 47)) ∧ g < w1.heap.size) := ⟨h1, Apart.of_below h3, h4⟩
  clear hb h1 h2 h3 h4 HG
  go_upto_region 4 with fail
  obtain ⟨W, hW⟩ : ∃ W, W = w1.alloc (.cells #[.int .i64 (rdN v.c t), .int .i64 (slN v.c t), .int .i64 O] 47) := ⟨_, rfl⟩
  rw [← hW] at HF c10 c11 c12 f11 t0 t1 t2 f0 f1 f2 ⊢
  generalize w1.heap.size = b at *
  clear hW w1
  generalize hR : rdN v.c t = R at *
  generalize slN v.c t = S at *
  by_cases hs : S = v.i
  case neg =>
    have e0 : dataE v t = 5 := by rw [HD.out, if_neg hs]
    have e1 : dataR v t = 0 := by rw [HE.out.1, e0]; rfl
    have e2 : dataV v t = v := by rw [HE.out.2, e0]; rfl
    have HP : Hid (dataE v t = 5 ∧ dataR v t = 0 ∧ dataV v t = v) := ⟨e0, e1, e2⟩
    clear HD HE e0 e1 e2
    go_big_region
    go_wp2
    go_ret2
    rw [HP.out.1, HP.out.2.1, HP.out.2.2]
    exact ⟨rfl, HF.out.1.drew, HF.out.2.1.drew⟩
  by_cases hl : R ≤ v.last
  case pos =>
    have e0 : dataE v t = 10 := by rw [HD.out, if_pos hs, if_pos (.inl hl)]
    have e1 : dataR v t = 0 := by rw [HE.out.1, e0]; rfl
    have e2 : dataV v t = v := by rw [HE.out.2, e0]; rfl
    have HP : Hid (dataE v t = 10 ∧ dataR v t = 0 ∧ dataV v t = v) := ⟨e0, e1, e2⟩
    clear HD HE e0 e1 e2
    go_big_region
    go_wp2
    go_big_region
    go_wp2
    go_ret2
    rw [HP.out.1, HP.out.2.1, HP.out.2.2]
    exact ⟨rfl, HF.out.1.drew.drew, HF.out.2.1.drew.drew⟩
  have d1 : decide (R ≤ v.last) = false := decide_eq_false hl
  by_cases hm : R < v.least
  case pos =>
    have e0 : dataE v t = 10 := by rw [HD.out, if_pos hs, if_pos (.inr hm)]
    have e1 : dataR v t = 0 := by rw [HE.out.1, e0]; rfl
    have e2 : dataV v t = v := by rw [HE.out.2, e0]; rfl
    have HP : Hid (dataE v t = 10 ∧ dataR v t = 0 ∧ dataV v t = v) := ⟨e0, e1, e2⟩
    clear HD HE e0 e1 e2
    go_big_region
    go_wp2
    go_big_region
    go_wp2
    go_ret2
    rw [HP.out.1, HP.out.2.1, HP.out.2.2]
    exact ⟨rfl, HF.out.1.drew.drew, HF.out.2.1.drew.drew⟩
  have e0 : dataE v t = 0 := by rw [HD.out, if_pos hs, if_neg (by omega)]
  have e1 : dataR v t = R := by rw [HE.out.1, e0]; rfl
  have e2 : dataV v t = { v with last := R } := by rw [HE.out.2, e0]; rfl
  have HP : Hid (dataE v t = 0 ∧ dataR v t = R ∧ dataV v t = { v with last := R }) := ⟨e0, e1, e2⟩
  clear HD HE e0 e1 e2
  go_big_region
  go_wp2
  go_big_region
  go_wp2
  go_ret2
  rw [HP.out.1, HP.out.2.1, HP.out.2.2]
  have hz := HF.out.1.setLast R
  exact ⟨rfl, hz.drew.drew, (HF.out.2.1.setCell (.inl rfl) 11 _).drew.drew⟩
end Go.Proofs.Ytmionehafekokaa
