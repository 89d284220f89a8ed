/-
  The contract of Place.
-/
import Derived.Test.YtmionehafekokaaSchedF
namespace Go.Proofs.Ytmionehafekokaa
open Go.ChangeShapes Go.WideShapes Go.ChangeAt Go.RowKit

/-- What Place answers. -/
def triA (a b d : Int) : Array Value := #[.int .i64 a, .int .i64 b, .int .i64 d]
def placeV (c : Cf) (t : Int) : Value := if placeB c t = true then .tuple #[.agg #[.int .i64 (t / rndN c), .int .i64 (t % rndN c / c.s), .int .i64 (t % c.s)], .int .i64 0] else .tuple #[.agg #[.int .i64 0, .int .i64 0, .int .i64 0], .int .i64 1]
/-- Block k holds some cell of the schedule. -/
def Rm (W : World) (k : Nat) : Prop := ∃ x y z, Tri W k x y z
/-- The config in block g, and room for a cell of the schedule in the next one. -/
structure Cfr (w : World) (g : Nat) (c : Cf) (W : World) : Prop where
  cfg : Cfg w g c W
  room : Rm W (g + 1)
theorem Cfr.new (w : World) (c : Cf) : Cfr w w.heap.size c ((w.alloc (.cells (cfC c) 23)).alloc (.cells #[.int .i64 0, .int .i64 0, .int .i64 0] 47)) :=
  ⟨⟨(CfAt.new w c).alloc _, Nat.le_refl _, Go.Joins.below_alloc2 _ _ _⟩, 0, 0, 0, by simpa using Tri.new (w.alloc (.cells (cfC c) 23)) 0 0 0⟩
theorem Cfr.drew {w W : World} {g : Nat} {c : Cf} (h : Cfr w g c W) : Cfr w g c W.drew := ⟨h.cfg.drew, h.room⟩
theorem Cfr.step {w W V : World} {g : Nat} {c : Cf} (h : Cfr w g c W) (hb : Below W.heap.size W V) : Cfr w g c V := ⟨h.cfg.step hb, by
  obtain ⟨x, y, z, ht⟩ := h.room
  exact ⟨x, y, z, ht.below hb⟩⟩
theorem Cfr.put {w W : World} {g : Nat} {c : Cf} (h : Cfr w g c W) (a b d : Int) : Cfr w g c (((W.setCell ⟨g + 1, 0, none⟩ (.int .i64 a)).setCell ⟨g + 1, 1, none⟩ (.int .i64 b)).setCell ⟨g + 1, 2, none⟩ (.int .i64 d)) := by
  obtain ⟨x, y, z, ht⟩ := h.room
  refine ⟨⟨?_, h.cfg.le, below_tri h.cfg.bel (by have := h.cfg.le; omega) _ _ _⟩, a, b, d, ht.set a b d⟩
  refine h.cfg.own.keep ?_
  rw [heap_setCell_other _ _ _ _ (by simp), heap_setCell_other _ _ _ _ (by simp), heap_setCell_other _ _ _ _ (by simp)]
theorem Cfr.held {w W : World} {g : Nat} {c : Cf} (h : Cfr w g c W) : (W.cell? ⟨g, 0, none⟩ = some (.int .i64 c.n) ∧ W.cell? ⟨g, 1, none⟩ = some (.int .i64 c.f) ∧ W.cell? ⟨g, 2, none⟩ = some (.int .i64 c.s) ∧ W.cell? ⟨g, 3, none⟩ = some (.int .i64 c.d) ∧ W.cell? ⟨g, 4, none⟩ = some (.int .i64 c.k) ∧ W.cell? ⟨g, 5, none⟩ = some (.int .i64 c.e) ∧ W.cell? ⟨g, 6, none⟩ = some (.int .i64 c.v) ∧ W.cell? ⟨g, 7, none⟩ = some (.int .i64 c.r) ∧ W.cell? ⟨g, 8, none⟩ = some (.int .i64 c.l) ∧ W.cell? ⟨g, 9, none⟩ = some (.int .i64 c.p)) ∧ Cfr w g c W := ⟨h.cfg.held.1, h⟩

/-- Place's quotients. -/
theorem place_sums {c : Cf} {t : Int} (ho : okB c = true) (ht : timeB t = true) : ∃ R q m k o : Int, rndN c = R ∧ ¬ R = 0 ∧ (R == 0) = false ∧ t.tdiv R = q ∧ IntKind.i64.wrap q = q ∧ t.tmod R = m ∧ ¬ c.s = 0 ∧ (c.s == 0) = false ∧ m.tdiv c.s = k ∧ IntKind.i64.wrap k = k ∧ t.tmod c.s = o ∧
    t / rndN c = q ∧ t % rndN c / c.s = k ∧ t % c.s = o ∧ t % rndN c = m ∧ m.tmod c.s = o := by
  have hr := rnd_in ho
  have hT := time_in ht
  have hs := (right_of ho).s0
  have p1 := parts t (rndN c) (by omega)
  have q1 : t.tdiv (rndN c) = t / rndN c := Int.tdiv_eq_ediv_of_nonneg hT.1
  have q2 : t.tmod (rndN c) = t % rndN c := Int.tmod_eq_emod_of_nonneg hT.1
  have q3 : (t % rndN c).tdiv c.s = t % rndN c / c.s := Int.tdiv_eq_ediv_of_nonneg p1.2.1
  have q4 : t.tmod c.s = t % c.s := Int.tmod_eq_emod_of_nonneg hT.1
  have q5 : (t % rndN c).tmod c.s = t % c.s := by rw [Int.tmod_eq_emod_of_nonneg p1.2.1, over_eq ho]
  have u1 : 0 ≤ t / rndN c := Int.ediv_nonneg hT.1 (by omega)
  have u2 : t / rndN c ≤ t := Int.ediv_le_self _ hT.1
  have u3 := slot_of ho t
  have u4 := (right_of ho).n1
  refine ⟨rndN c, t / rndN c, t % rndN c, t % rndN c / c.s, t % c.s, rfl, by omega, by simp; omega, q1, wrap_in (by omega) (by omega), q2, by omega, by simp; omega, q3, wrap_in (by omega) (by omega), q4, rfl, rfl, rfl, rfl, q5⟩

set_option maxHeartbeats 1600000 in
set_option maxRecDepth 20000 in
theorem place_ok (w : World) (c : Cf) (t : Int) : Calls Try.prog 17 #[.agg (cfC c), .int .i64 t] w fun e w' => e = .returned (placeV c t) ∧ Below w.heap.size w w' := by
  have H0 : Hid (Cfr w w.heap.size c ((w.alloc (.cells (cfC c) 23)).alloc (.cells #[.int .i64 0, .int .i64 0, .int .i64 0] 47))) := Cfr.new w c
  have HL : Hid ((Instr.loadAt 23 (.pointer (some ⟨w.heap.size, 0, none⟩))).run Try.prog ((w.alloc (.cells (cfC c) 23)).alloc (.cells #[.int .i64 0, .int .i64 0, .int .i64 0] 47)) = .ok (.agg (cfC c)) ((w.alloc (.cells (cfC c) 23)).alloc (.cells #[.int .i64 0, .int .i64 0, .int .i64 0] 47))) := H0.out.cfg.own.loads
  have K1 := check_ok ((w.alloc (.cells (cfC c) 23)).alloc (.cells #[.int .i64 0, .int .i64 0, .int .i64 0] 47)) c
  cases ho : okB c
  · rw [ho, if_neg Bool.false_ne_true] at K1
    rw [placeV, if_neg (by simp [placeB, ho])]
    clear ho
    go_enter Try.func17, Try.ntmps17
    go_wp2_with (first | (refine wpList_gload_run rfl 23 _ rfl _ _ rfl HL.out ?_) | fail)
    refine K1.mono ?_
    rintro e w1 ⟨rfl, hb⟩
    have H1 : Hid (Cfr w w.heap.size c w1) := H0.out.step hb
    obtain ⟨x, y, z, hT⟩ := H1.out.room
    obtain ⟨t0, t1, t2, f0, f1, f2⟩ := hT.facts
    have H2 := H1.out.put 0 0 0
    have H3 : Hid (Tri (((w1.setCell ⟨w.heap.size + 1, 0, none⟩ (.int .i64 0)).setCell ⟨w.heap.size + 1, 1, none⟩ (.int .i64 0)).setCell ⟨w.heap.size + 1, 2, none⟩ (.int .i64 0)) (w.heap.size + 1) 0 0 0) := hT.set 0 0 0
    clear K1 HL H0 hb H1 hT
    have H4 : Hid _ := H2
    clear H2
    go_wp2
    refine bodyPost_ret (res_tri_tmp rfl rfl H3.out) rfl ?_
    exact ⟨rfl, H4.out.cfg.bel⟩
  rw [ho, if_pos rfl] at K1
  have K2 := fun W => istime_ok W t
  cases ht : timeB t
  · rw [ht] at K2
    have K2' : Hid (∀ W, Calls Try.prog 25 #[.int .i64 t] W fun e w' => e = .returned (.bool false) ∧ w' = W) := K2
    rw [placeV, if_neg (by simp [placeB, ht])]
    clear ho ht K2
    go_enter Try.func17, Try.ntmps17
    go_wp2_with (first | (refine wpList_gload_run rfl 23 _ rfl _ _ rfl HL.out ?_) | fail)
    refine K1.mono ?_
    rintro e w1 ⟨rfl, hb⟩
    have H1 : Hid (Cfr w w.heap.size c w1) := H0.out.step hb
    clear K1 HL H0 hb
    go_wp2_with fail
    refine (K2'.out _).mono ?_
    rintro e w2 ⟨rfl, rfl⟩
    clear K2'
    obtain ⟨x, y, z, hT⟩ := H1.out.room
    obtain ⟨t0, t1, t2, f0, f1, f2⟩ := hT.facts
    have H3 : Hid (Tri (((w2.setCell ⟨w.heap.size + 1, 0, none⟩ (.int .i64 0)).setCell ⟨w.heap.size + 1, 1, none⟩ (.int .i64 0)).setCell ⟨w.heap.size + 1, 2, none⟩ (.int .i64 0)) (w.heap.size + 1) 0 0 0) := hT.set 0 0 0
    have H4 : Hid (Cfr w w.heap.size c (((w2.setCell ⟨w.heap.size + 1, 0, none⟩ (.int .i64 0)).setCell ⟨w.heap.size + 1, 1, none⟩ (.int .i64 0)).setCell ⟨w.heap.size + 1, 2, none⟩ (.int .i64 0))) := H1.out.put 0 0 0
    clear H1 hT
    go_wp2
    refine bodyPost_ret (res_tri_tmp rfl rfl H3.out) rfl ?_
    exact ⟨rfl, H4.out.cfg.bel⟩
  rw [ht] at K2
  have K2' : Hid (∀ W, Calls Try.prog 25 #[.int .i64 t] W fun e w' => e = .returned (.bool true) ∧ w' = W) := K2
  have K3 : Hid (∀ W, Calls Try.prog 26 #[.agg (cfC c)] W fun e w' => e = .returned (.int .i64 (rndN c)) ∧ Below W.heap.size W w') := fun W => round_ok W c
  obtain ⟨R, q, m, k, o, hR, y0, y1, e1, e2, e3, y2, y3, e4, e5, e6, g1, g2, g3, g4, g5⟩ := place_sums ho ht
  have hv : placeV c t = if q < 1048576 then .tuple #[.agg #[.int .i64 q, .int .i64 k, .int .i64 o], .int .i64 0] else .tuple #[.agg #[.int .i64 0, .int .i64 0, .int .i64 0], .int .i64 1] := by
    unfold placeV
    rw [g1, g2, g3]
    simp [placeB, ho, ht, g1]
  rw [hv]
  rw [hR] at K3
  clear hv ho ht K2 g1 g2 g3 g4 g5 hR
  by_cases hq : q < 1048576
  · rw [if_pos hq]
    go_enter Try.func17, Try.ntmps17
    go_wp2_with (first | (refine wpList_gload_run rfl 23 _ rfl _ _ rfl HL.out ?_) | fail)
    refine K1.mono ?_
    rintro e w1 ⟨rfl, hb⟩
    have H1 : Hid (Cfr w w.heap.size c w1) := H0.out.step hb
    clear K1 HL H0 hb
    go_wp2_with fail
    refine (K2'.out _).mono ?_
    rintro e w2 ⟨rfl, rfl⟩
    clear K2'
    go_upto_region 3 with fail
    generalize hg : w.heap.size = g at *
    have HG : Hid (w.heap.size = g) := hg
    clear hg
    go_region_held3 (fun V => (V.cell? ⟨g, 0, none⟩ = some (.int .i64 c.n) ∧ V.cell? ⟨g, 1, none⟩ = some (.int .i64 c.f) ∧ V.cell? ⟨g, 2, none⟩ = some (.int .i64 c.s) ∧ V.cell? ⟨g, 3, none⟩ = some (.int .i64 c.d) ∧ V.cell? ⟨g, 4, none⟩ = some (.int .i64 c.k) ∧ V.cell? ⟨g, 5, none⟩ = some (.int .i64 c.e) ∧ V.cell? ⟨g, 6, none⟩ = some (.int .i64 c.v) ∧ V.cell? ⟨g, 7, none⟩ = some (.int .i64 c.r) ∧ V.cell? ⟨g, 8, none⟩ = some (.int .i64 c.l) ∧ V.cell? ⟨g, 9, none⟩ = some (.int .i64 c.p)) ∧ Cfr w g c V)
      (first | exact H1.out.held | assumption | exact (Cfr.drew (And.right (by assumption))).held | exact H1.out.drew.held)
      (first | (go_at_call 26; refine (K3.out _).mono ?_; rintro e w2 ⟨rfl, hb⟩; replace hb := (Cfr.step (And.right (by assumption)) hb).held))
    rename_i hh
    have H2 : Hid (Cfr w g c w2) := hh.2
    clear hh hb H1
    go_upto_region 6 with fail
    go_region_held3 (fun V => (V.cell? ⟨g, 0, none⟩ = some (.int .i64 c.n) ∧ V.cell? ⟨g, 1, none⟩ = some (.int .i64 c.f) ∧ V.cell? ⟨g, 2, none⟩ = some (.int .i64 c.s) ∧ V.cell? ⟨g, 3, none⟩ = some (.int .i64 c.d) ∧ V.cell? ⟨g, 4, none⟩ = some (.int .i64 c.k) ∧ V.cell? ⟨g, 5, none⟩ = some (.int .i64 c.e) ∧ V.cell? ⟨g, 6, none⟩ = some (.int .i64 c.v) ∧ V.cell? ⟨g, 7, none⟩ = some (.int .i64 c.r) ∧ V.cell? ⟨g, 8, none⟩ = some (.int .i64 c.l) ∧ V.cell? ⟨g, 9, none⟩ = some (.int .i64 c.p)) ∧ Cfr w g c V)
      (first | exact H2.out.held | assumption | exact H2.out.drew.held | exact (H3.out.put q k o).held)
      (first | (go_at_call 26; refine (K3.out _).mono ?_; rintro e w3 ⟨rfl, hb⟩; have H3 : Hid (Cfr w g c w3) := Cfr.step (And.right (by assumption)) hb; obtain ⟨x, y, z, hT⟩ := H3.out.room; obtain ⟨t0, t1, t2, f0, f1, f2⟩ := hT.facts; have HT : Hid (Tri w3 (g + 1) x y z) := hT; clear hb; replace hb := H3.out.held))
    rename_i hh
    have H4 : Hid (Cfr w g c _) := hh.2
    have H5 : Hid (Tri _ (g + 1) q k o) := HT.out.set q k o
    go_wp2
    refine bodyPost_ret (res_tri_tmp rfl rfl H5.out) rfl ?_
    exact ⟨rfl, HG.out ▸ H4.out.cfg.bel⟩
  · rw [if_neg hq]
    go_enter Try.func17, Try.ntmps17
    go_wp2_with (first | (refine wpList_gload_run rfl 23 _ rfl _ _ rfl HL.out ?_) | fail)
    refine K1.mono ?_
    rintro e w1 ⟨rfl, hb⟩
    have H1 : Hid (Cfr w w.heap.size c w1) := H0.out.step hb
    clear K1 HL H0 hb
    go_wp2_with fail
    refine (K2'.out _).mono ?_
    rintro e w2 ⟨rfl, rfl⟩
    clear K2'
    go_upto_region 3 with fail
    generalize hg : w.heap.size = g at *
    have HG : Hid (w.heap.size = g) := hg
    clear hg
    go_region_held3 (fun V => (V.cell? ⟨g, 0, none⟩ = some (.int .i64 c.n) ∧ V.cell? ⟨g, 1, none⟩ = some (.int .i64 c.f) ∧ V.cell? ⟨g, 2, none⟩ = some (.int .i64 c.s) ∧ V.cell? ⟨g, 3, none⟩ = some (.int .i64 c.d) ∧ V.cell? ⟨g, 4, none⟩ = some (.int .i64 c.k) ∧ V.cell? ⟨g, 5, none⟩ = some (.int .i64 c.e) ∧ V.cell? ⟨g, 6, none⟩ = some (.int .i64 c.v) ∧ V.cell? ⟨g, 7, none⟩ = some (.int .i64 c.r) ∧ V.cell? ⟨g, 8, none⟩ = some (.int .i64 c.l) ∧ V.cell? ⟨g, 9, none⟩ = some (.int .i64 c.p)) ∧ Cfr w g c V)
      (first | exact H1.out.held | assumption | exact (Cfr.drew (And.right (by assumption))).held | exact H1.out.drew.held)
      (first | (go_at_call 26; refine (K3.out _).mono ?_; rintro e w2 ⟨rfl, hb⟩; replace hb := (Cfr.step (And.right (by assumption)) hb).held))
    rename_i hh
    have H2 : Hid (Cfr w g c w2) := hh.2
    obtain ⟨x, y, z, hT⟩ := hh.2.room
    obtain ⟨t0, t1, t2, f0, f1, f2⟩ := hT.facts
    have H3 : Hid (Tri (((w2.setCell ⟨g + 1, 0, none⟩ (.int .i64 0)).setCell ⟨g + 1, 1, none⟩ (.int .i64 0)).setCell ⟨g + 1, 2, none⟩ (.int .i64 0)) (g + 1) 0 0 0) := hT.set 0 0 0
    have H4 : Hid (Cfr w g c (((w2.setCell ⟨g + 1, 0, none⟩ (.int .i64 0)).setCell ⟨g + 1, 1, none⟩ (.int .i64 0)).setCell ⟨g + 1, 2, none⟩ (.int .i64 0))) := H2.out.put 0 0 0
    clear hh hb H1 H2 hT
    go_wp2
    refine bodyPost_ret (res_tri_tmp rfl rfl H3.out) rfl ?_
    exact ⟨rfl, HG.out ▸ H4.out.cfg.bel⟩
end Go.Proofs.Ytmionehafekokaa
