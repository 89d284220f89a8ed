/-
  The document's side: Place.
-/
import Derived.Test.YtmionehafekokaaSchedT
namespace Go.Proofs.Ytmionehafekokaa
open Go.ChangeShapes Go.WideShapes Go.ChangeAt Go.RowKit

set_option maxHeartbeats 1600000 in
set_option maxRecDepth 20000 in
theorem rplace_ok (w : World) (c : Cf) (t : Int) : Calls Try.prog 22 #[.agg (cfC c), .int .i64 t] w fun e w' => e = .returned (placeV c t) ∧ Below w.heap.size w w' := by
  have H0 : Hid (Cfr w w.heap.size c ((w.alloc (.cells (cfC c) 23)).alloc (.cells #[.int .i64 0, .int .i64 0, .int .i64 0] 47))) := Cfr.new w c
  have HL : Hid ((Instr.loadAt 23 (.pointer (some ⟨w.heap.size, 0, none⟩))).run Try.prog ((w.alloc (.cells (cfC c) 23)).alloc (.cells #[.int .i64 0, .int .i64 0, .int .i64 0] 47)) = .ok (.agg (cfC c)) ((w.alloc (.cells (cfC c) 23)).alloc (.cells #[.int .i64 0, .int .i64 0, .int .i64 0] 47))) := H0.out.cfg.own.loads
  have K1 := rcheck_ok ((w.alloc (.cells (cfC c) 23)).alloc (.cells #[.int .i64 0, .int .i64 0, .int .i64 0] 47)) c
  cases ho : okB c
  · rw [ho, if_neg Bool.false_ne_true] at K1
    rw [placeV, if_neg (by simp [placeB, ho])]
    clear ho
    go_enter Try.func22, Try.ntmps22
    go_wp2_with (first | (refine wpList_gload_run rfl 23 _ rfl _ _ rfl HL.out ?_) | fail)
    refine K1.mono ?_
    rintro e w1 ⟨rfl, hb⟩
    have H1 : Hid (Cfr w w.heap.size c w1) := H0.out.step hb
    clear K1 HL H0 hb
    obtain ⟨x, y, z, hT⟩ := H1.out.room
    obtain ⟨t0, t1, t2, f0, f1, f2⟩ := hT.facts
    have H3 : Hid (Tri (((w1.setCell ⟨w.heap.size + 1, 0, none⟩ (.int .i64 0)).setCell ⟨w.heap.size + 1, 1, none⟩ (.int .i64 0)).setCell ⟨w.heap.size + 1, 2, none⟩ (.int .i64 0)) (w.heap.size + 1) 0 0 0) := hT.set 0 0 0
    have H4 : Hid (Cfr w w.heap.size c (((w1.setCell ⟨w.heap.size + 1, 0, none⟩ (.int .i64 0)).setCell ⟨w.heap.size + 1, 1, none⟩ (.int .i64 0)).setCell ⟨w.heap.size + 1, 2, none⟩ (.int .i64 0))) := H1.out.put 0 0 0
    clear H1 hT
    go_wp2
    refine bodyPost_ret (res_tri_tmp rfl rfl H3.out) rfl ?_
    exact ⟨rfl, H4.out.cfg.bel⟩
  rw [ho, if_pos rfl] at K1
  by_cases u0 : 0 ≤ t
  case neg =>
    rw [placeV, if_neg (by simp [placeB, timeB, u0])]
    clear ho
    go_enter Try.func22, Try.ntmps22
    go_wp2_with (first | (refine wpList_gload_run rfl 23 _ rfl _ _ rfl HL.out ?_) | fail)
    refine K1.mono ?_
    rintro e w1 ⟨rfl, hb⟩
    have H1 : Hid (Cfr w w.heap.size c w1) := H0.out.step hb
    clear K1 HL H0 hb
    obtain ⟨x, y, z, hT⟩ := H1.out.room
    obtain ⟨t0, t1, t2, f0, f1, f2⟩ := hT.facts
    have H3 : Hid (Tri (((w1.setCell ⟨w.heap.size + 1, 0, none⟩ (.int .i64 0)).setCell ⟨w.heap.size + 1, 1, none⟩ (.int .i64 0)).setCell ⟨w.heap.size + 1, 2, none⟩ (.int .i64 0)) (w.heap.size + 1) 0 0 0) := hT.set 0 0 0
    have H4 : Hid (Cfr w w.heap.size c (((w1.setCell ⟨w.heap.size + 1, 0, none⟩ (.int .i64 0)).setCell ⟨w.heap.size + 1, 1, none⟩ (.int .i64 0)).setCell ⟨w.heap.size + 1, 2, none⟩ (.int .i64 0))) := H1.out.put 0 0 0
    clear H1 hT
    go_wp2
    refine bodyPost_ret (res_tri_tmp rfl rfl H3.out) rfl ?_
    exact ⟨rfl, H4.out.cfg.bel⟩
  by_cases u1 : t ≤ 1099511627776
  case neg =>
    rw [placeV, if_neg (by simp [placeB, timeB, u1])]
    clear ho
    go_enter Try.func22, Try.ntmps22
    go_wp2_with (first | (refine wpList_gload_run rfl 23 _ rfl _ _ rfl HL.out ?_) | fail)
    refine K1.mono ?_
    rintro e w1 ⟨rfl, hb⟩
    have H1 : Hid (Cfr w w.heap.size c w1) := H0.out.step hb
    clear K1 HL H0 hb
    obtain ⟨x, y, z, hT⟩ := H1.out.room
    obtain ⟨t0, t1, t2, f0, f1, f2⟩ := hT.facts
    have H3 : Hid (Tri (((w1.setCell ⟨w.heap.size + 1, 0, none⟩ (.int .i64 0)).setCell ⟨w.heap.size + 1, 1, none⟩ (.int .i64 0)).setCell ⟨w.heap.size + 1, 2, none⟩ (.int .i64 0)) (w.heap.size + 1) 0 0 0) := hT.set 0 0 0
    have H4 : Hid (Cfr w w.heap.size c (((w1.setCell ⟨w.heap.size + 1, 0, none⟩ (.int .i64 0)).setCell ⟨w.heap.size + 1, 1, none⟩ (.int .i64 0)).setCell ⟨w.heap.size + 1, 2, none⟩ (.int .i64 0))) := H1.out.put 0 0 0
    clear H1 hT
    go_wp2
    refine bodyPost_ret (res_tri_tmp rfl rfl H3.out) rfl ?_
    exact ⟨rfl, H4.out.cfg.bel⟩
  have ht : timeB t = true := by simp [timeB, u0, u1]
  have K3 : Hid (∀ W, Calls Try.prog 32 #[.agg (cfC c)] W fun e w' => e = .returned (.int .i64 (rndN c)) ∧ Below W.heap.size W w') := fun W => rround_ok W c
  obtain ⟨R, q, m, k, o, hR, y0, y1, e1, e2, e3, y2, y3, e4, e5, e6, g1, g2, g3, g4, g5⟩ := place_sums ho ht
  have hv : placeV c t = if q < 1048576 then .tuple #[.agg #[.int .i64 q, .int .i64 k, .int .i64 o], .int .i64 0] else .tuple #[.agg #[.int .i64 0, .int .i64 0, .int .i64 0], .int .i64 1] := by
    unfold placeV
    rw [g1, g2, g3]
    simp [placeB, ho, ht, g1]
  rw [hv]
  rw [hR] at K3
  clear hv ho ht g1 g2 g3 g4 hR e6
  by_cases hq : q < 1048576
  · rw [if_pos hq]
    go_enter Try.func22, Try.ntmps22
    go_wp2_with (first | (refine wpList_gload_run rfl 23 _ rfl _ _ rfl HL.out ?_) | fail)
    refine K1.mono ?_
    rintro e w1 ⟨rfl, hb⟩
    have H1 : Hid (Cfr w w.heap.size c w1) := H0.out.step hb
    clear K1 HL H0 hb
    obtain ⟨p0, p1, p2, p3, p4, p5, p6, p7, p8, p9⟩ := H1.out.cfg.held.1
    go_wp2_with fail
    refine (K3.out _).mono ?_
    rintro e w2 ⟨rfl, hb⟩
    have H2 : Hid (Cfr w w.heap.size c w2) := H1.out.step hb
    clear H1 hb p0 p1 p2 p3 p4 p5 p6 p7 p8 p9
    obtain ⟨p0, p1, p2, p3, p4, p5, p6, p7, p8, p9⟩ := H2.out.cfg.held.1
    go_wp2_with fail
    refine (K3.out _).mono ?_
    rintro e w3 ⟨rfl, hb⟩
    have H3 : Hid (Cfr w w.heap.size c w3) := H2.out.step hb
    clear H2 hb p0 p1 p2 p3 p4 p5 p6 p7 p8 p9
    go_upto_region 4 with fail
    clear u0 u1 hq
    generalize hg : w.heap.size = g at *
    have HG : Hid (w.heap.size = g) := hg
    clear hg
    go_region_held3 (fun V => (V.cell? ⟨g, 0, none⟩ = some (.int .i64 c.n) ∧ V.cell? ⟨g, 1, none⟩ = some (.int .i64 c.f) ∧ V.cell? ⟨g, 2, none⟩ = some (.int .i64 c.s) ∧ V.cell? ⟨g, 3, none⟩ = some (.int .i64 c.d) ∧ V.cell? ⟨g, 4, none⟩ = some (.int .i64 c.k) ∧ V.cell? ⟨g, 5, none⟩ = some (.int .i64 c.e) ∧ V.cell? ⟨g, 6, none⟩ = some (.int .i64 c.v) ∧ V.cell? ⟨g, 7, none⟩ = some (.int .i64 c.r) ∧ V.cell? ⟨g, 8, none⟩ = some (.int .i64 c.l) ∧ V.cell? ⟨g, 9, none⟩ = some (.int .i64 c.p)) ∧ Cfr w g c V)
      (first | exact H3.out.held | assumption | exact H3.out.drew.held | exact (H4.out.put q k o).held)
      (first | (go_at_call 32; refine (K3.out _).mono ?_; rintro e w4 ⟨rfl, hb⟩; have H4 : Hid (Cfr w g c w4) := Cfr.step (And.right (by assumption)) hb; obtain ⟨x, y, z, hT⟩ := H4.out.room; obtain ⟨t0, t1, t2, f0, f1, f2⟩ := hT.facts; have HT : Hid (Tri w4 (g + 1) x y z) := hT; clear hb; replace hb := H4.out.held))
    rename_i hh
    have H5 : Hid (Cfr w g c _) := hh.2
    have H6 : Hid (Tri _ (g + 1) q k o) := HT.out.set q k o
    go_wp2
    refine bodyPost_ret (res_tri_tmp rfl rfl H6.out) rfl ?_
    exact ⟨rfl, HG.out ▸ H5.out.cfg.bel⟩
  · rw [if_neg hq]
    go_enter Try.func22, Try.ntmps22
    go_wp2_with (first | (refine wpList_gload_run rfl 23 _ rfl _ _ rfl HL.out ?_) | fail)
    refine K1.mono ?_
    rintro e w1 ⟨rfl, hb⟩
    have H1 : Hid (Cfr w w.heap.size c w1) := H0.out.step hb
    clear K1 HL H0 hb
    obtain ⟨p0, p1, p2, p3, p4, p5, p6, p7, p8, p9⟩ := H1.out.cfg.held.1
    go_wp2_with fail
    refine (K3.out _).mono ?_
    rintro e w2 ⟨rfl, hb⟩
    have H2 : Hid (Cfr w w.heap.size c w2) := H1.out.step hb
    clear H1 hb p0 p1 p2 p3 p4 p5 p6 p7 p8 p9
    have H1 : Hid (Cfr w w.heap.size c w2) := H2.out
    clear H2
    obtain ⟨x, y, z, hT⟩ := H1.out.room
    obtain ⟨t0, t1, t2, f0, f1, f2⟩ := hT.facts
    have H3 : Hid (Tri (((w2.setCell ⟨w.heap.size + 1, 0, none⟩ (.int .i64 0)).setCell ⟨w.heap.size + 1, 1, none⟩ (.int .i64 0)).setCell ⟨w.heap.size + 1, 2, none⟩ (.int .i64 0)) (w.heap.size + 1) 0 0 0) := hT.set 0 0 0
    have H4 : Hid (Cfr w w.heap.size c (((w2.setCell ⟨w.heap.size + 1, 0, none⟩ (.int .i64 0)).setCell ⟨w.heap.size + 1, 1, none⟩ (.int .i64 0)).setCell ⟨w.heap.size + 1, 2, none⟩ (.int .i64 0))) := H1.out.put 0 0 0
    clear H1 hT
    go_wp2
    refine bodyPost_ret (res_tri_tmp rfl rfl H3.out) rfl ?_
    exact ⟨rfl, H4.out.cfg.bel⟩
end Go.Proofs.Ytmionehafekokaa
