/-
  The document's side: from and Check.
  The document's side: Round, Keep, Quiet.
  The document's side: At, Speak, Patience.
  The document's side: Place.
-/
import Derived.Test.YtgncdnejmobjbaaGreatDoorSchedC
namespace Go.Proofs.YtgncdnejmobjbaaGreatDoor
open Go.ChangeShapes Go.WideShapes Go.ChangeAt Go.RowKit
set_option maxRecDepth 20000

def fromB (n a b : Int) : Bool := decide (a ≤ n ∧ n ≤ b)
theorem from_in {n a b : Int} (h : fromB n a b = true) : a ≤ n ∧ n ≤ b := of_decide_eq_true h

theorem from_ok (w : World) (n a b : Int) : Calls Tryz.prog 44 #[.int .i64 n, .int .i64 a, .int .i64 b] w fun e w' => e = .returned (.bool (fromB n a b)) ∧ w' = w := by
  by_cases h0 : a ≤ n
  · have hN : fromB n a b = decide (n ≤ b) := by simp [fromB, h0]
    rw [hN]
    clear hN
    by_cases h1 : n ≤ b
    all_goals
      simp only [h1, decide_true, decide_false]
      go_enter Tryz.func44, Tryz.ntmps44
      go_wp2
      go_ret
      exact ⟨by first | rfl | (simp; done) | (simp; omega), rfl⟩
  · rw [show fromB n a b = false by simp [fromB, h0]]
    go_enter Tryz.func44, Tryz.ntmps44
    go_wp2
    go_ret
    exact ⟨by first | rfl | (simp; done) | (simp; omega), rfl⟩

/-- A config is right, as the document asks it: in its order. -/
theorem ok_chain (c : Cf) : okB c = (fromB c.n 1 8 && fromB c.f 0 8 && decide (3 * c.f < c.n) && fromB c.s 300 10000 && fromB c.d 1 4 && fromB c.k (c.d + 4) 256 && fromB c.e 1 (4 * c.s) && fromB c.v 100 (4 * c.s) && fromB c.r 0 5 && fromB c.l 0 5 && fromB c.p 1 64) := by
  rw [Bool.eq_iff_iff]
  simp only [okB, nodesB, slotsB, keysB, clocksB, fromB, Bool.and_eq_true, decide_eq_true_eq]
  constructor
  · rintro ⟨⟨⟨⟨a1, a2, a3, a4⟩, b1, b2, b3, b4, b5, b6⟩, c1, c2, c3, c4, c5, c6⟩, d1, d2, d3, d4⟩
    exact ⟨⟨⟨⟨⟨⟨⟨⟨⟨⟨⟨a1, a2⟩, a3, by omega⟩, a4⟩, b1, b2⟩, c1, c2⟩, c3, c4⟩, b3, b4⟩, b5, b6⟩, d1, d2⟩, d3, d4⟩, c5, c6⟩
  · rintro ⟨⟨⟨⟨⟨⟨⟨⟨⟨⟨⟨a1, a2⟩, a3, _⟩, a4⟩, b1, b2⟩, c1, c2⟩, c3, c4⟩, b3, b4⟩, b5, b6⟩, d1, d2⟩, d3, d4⟩, c5, c6⟩
    exact ⟨⟨⟨⟨a1, a2, a3, a4⟩, b1, b2, b3, b4, b5, b6⟩, c1, c2, c3, c4, c5, c6⟩, d1, d2, d3, d4⟩

set_option maxHeartbeats 3200000 in
set_option maxRecDepth 20000 in
theorem srcheck_ok (w : World) (c : Cf) : Calls Tryz.prog 22 #[.agg (cfC c)] w fun e w' => e = .returned (.int .i64 (if okB c = true then 0 else 1)) ∧ Below w.heap.size w w' := by
  have H0 : Hid (Cfg w w.heap.size c (w.alloc (.cells (cfC c) 23))) := Cfg.new w c
  rw [ok_chain c]
  have F1 : Hid (∀ W, Calls Tryz.prog 44 #[.int .i64 c.n, .int .i64 1, .int .i64 8] W fun e w' => e = .returned (.bool (fromB c.n 1 8)) ∧ w' = W) := fun W => from_ok W _ _ _
  have F2 : Hid (∀ W, Calls Tryz.prog 44 #[.int .i64 c.f, .int .i64 0, .int .i64 8] W fun e w' => e = .returned (.bool (fromB c.f 0 8)) ∧ w' = W) := fun W => from_ok W _ _ _
  have F4 : Hid (∀ W, Calls Tryz.prog 44 #[.int .i64 c.s, .int .i64 300, .int .i64 10000] W fun e w' => e = .returned (.bool (fromB c.s 300 10000)) ∧ w' = W) := fun W => from_ok W _ _ _
  have F5 : Hid (∀ W, Calls Tryz.prog 44 #[.int .i64 c.d, .int .i64 1, .int .i64 4] W fun e w' => e = .returned (.bool (fromB c.d 1 4)) ∧ w' = W) := fun W => from_ok W _ _ _
  have F6 : Hid (∀ W, Calls Tryz.prog 44 #[.int .i64 c.k, .int .i64 (c.d + 4), .int .i64 256] W fun e w' => e = .returned (.bool (fromB c.k (c.d + 4) 256)) ∧ w' = W) := fun W => from_ok W _ _ _
  have F7 : Hid (∀ W, Calls Tryz.prog 44 #[.int .i64 c.e, .int .i64 1, .int .i64 (4 * c.s)] W fun e w' => e = .returned (.bool (fromB c.e 1 (4 * c.s))) ∧ w' = W) := fun W => from_ok W _ _ _
  have F8 : Hid (∀ W, Calls Tryz.prog 44 #[.int .i64 c.v, .int .i64 100, .int .i64 (4 * c.s)] W fun e w' => e = .returned (.bool (fromB c.v 100 (4 * c.s))) ∧ w' = W) := fun W => from_ok W _ _ _
  have F9 : Hid (∀ W, Calls Tryz.prog 44 #[.int .i64 c.r, .int .i64 0, .int .i64 5] W fun e w' => e = .returned (.bool (fromB c.r 0 5)) ∧ w' = W) := fun W => from_ok W _ _ _
  have F10 : Hid (∀ W, Calls Tryz.prog 44 #[.int .i64 c.l, .int .i64 0, .int .i64 5] W fun e w' => e = .returned (.bool (fromB c.l 0 5)) ∧ w' = W) := fun W => from_ok W _ _ _
  have F11 : Hid (∀ W, Calls Tryz.prog 44 #[.int .i64 c.p, .int .i64 1, .int .i64 64] W fun e w' => e = .returned (.bool (fromB c.p 1 64)) ∧ w' = W) := fun W => from_ok W _ _ _
  have E3 : Hid (fromB c.f 0 8 = true → IntKind.i64.wrap (3 * c.f) = 3 * c.f) := fun h => by have := from_in h; exact wrap_in (by omega) (by omega)
  have E6 : Hid (fromB c.d 1 4 = true → IntKind.i64.wrap (c.d + 4) = c.d + 4) := fun h => by have := from_in h; exact wrap_in (by omega) (by omega)
  have E7 : Hid (fromB c.s 300 10000 = true → IntKind.i64.wrap (4 * c.s) = 4 * c.s) := fun h => by have := from_in h; exact wrap_in (by omega) (by omega)
  generalize fromB c.n 1 8 = b1 at *
  generalize fromB c.f 0 8 = b2 at *
  generalize fromB c.s 300 10000 = b4 at *
  generalize fromB c.d 1 4 = b5 at *
  generalize fromB c.k (c.d + 4) 256 = b6 at *
  generalize fromB c.e 1 (4 * c.s) = b7 at *
  generalize fromB c.v 100 (4 * c.s) = b8 at *
  generalize fromB c.r 0 5 = b9 at *
  generalize fromB c.l 0 5 = b10 at *
  generalize fromB c.p 1 64 = b11 at *
  go_enter Tryz.func22, Tryz.ntmps22
  obtain ⟨p0, p1, p2, p3, p4, p5, p6, p7, p8, p9⟩ := H0.out.held.1
  go_wp2_with fail
  refine (F1.out _).mono ?_
  rintro e w1 ⟨rfl, rfl⟩
  clear F1
  cases b1
  case false =>
    go_wp2
    all_goals
      go_ret
      exact ⟨by first | rfl | (simp; done) | (simp [h3]; done), H0.out.bel⟩
  go_wp2_with fail
  refine (F2.out _).mono ?_
  rintro e w1 ⟨rfl, rfl⟩
  clear F2
  cases b2
  case false =>
    go_wp2
    all_goals
      go_ret
      exact ⟨by first | rfl | (simp; done) | (simp [h3]; done), H0.out.bel⟩
  have e3 := E3.out rfl
  clear E3
  by_cases h3 : 3 * c.f < c.n
  case neg =>
    go_wp2
    all_goals
      go_ret
      exact ⟨by first | rfl | (simp; done) | (simp [h3]; done), H0.out.bel⟩
  go_wp2_with fail
  refine (F4.out _).mono ?_
  rintro e w1 ⟨rfl, rfl⟩
  clear F4
  cases b4
  case false =>
    go_wp2
    all_goals
      go_ret
      exact ⟨by first | rfl | (simp; done) | (simp [h3]; done), H0.out.bel⟩
  have e7 := E7.out rfl
  clear E7
  go_wp2_with fail
  refine (F5.out _).mono ?_
  rintro e w1 ⟨rfl, rfl⟩
  clear F5
  cases b5
  case false =>
    go_wp2
    all_goals
      go_ret
      exact ⟨by first | rfl | (simp; done) | (simp [h3]; done), H0.out.bel⟩
  have e6 := E6.out rfl
  clear E6
  go_wp2_with fail
  refine (F6.out _).mono ?_
  rintro e w1 ⟨rfl, rfl⟩
  clear F6
  cases b6
  case false =>
    go_wp2
    all_goals
      go_ret
      exact ⟨by first | rfl | (simp; done) | (simp [h3]; done), H0.out.bel⟩
  go_wp2_with fail
  refine (F7.out _).mono ?_
  rintro e w1 ⟨rfl, rfl⟩
  clear F7
  cases b7
  case false =>
    go_wp2
    all_goals
      go_ret
      exact ⟨by first | rfl | (simp; done) | (simp [h3]; done), H0.out.bel⟩
  go_wp2_with fail
  refine (F8.out _).mono ?_
  rintro e w1 ⟨rfl, rfl⟩
  clear F8
  cases b8
  case false =>
    go_wp2
    all_goals
      go_ret
      exact ⟨by first | rfl | (simp; done) | (simp [h3]; done), H0.out.bel⟩
  go_wp2_with fail
  refine (F9.out _).mono ?_
  rintro e w1 ⟨rfl, rfl⟩
  clear F9
  cases b9
  case false =>
    go_wp2
    all_goals
      go_ret
      exact ⟨by first | rfl | (simp; done) | (simp [h3]; done), H0.out.bel⟩
  go_wp2_with fail
  refine (F10.out _).mono ?_
  rintro e w1 ⟨rfl, rfl⟩
  clear F10
  cases b10
  case false =>
    go_wp2
    all_goals
      go_ret
      exact ⟨by first | rfl | (simp; done) | (simp [h3]; done), H0.out.bel⟩
  go_wp2_with fail
  refine (F11.out _).mono ?_
  rintro e w1 ⟨rfl, rfl⟩
  clear F11
  cases b11
  case false =>
    go_wp2
    all_goals
      go_ret
      exact ⟨by first | rfl | (simp; done) | (simp [h3]; done), H0.out.bel⟩
  go_wp2
  all_goals
    go_ret
    exact ⟨by first | rfl | (simp; done) | (simp [h3]; done), H0.out.bel⟩
end Go.Proofs.YtgncdnejmobjbaaGreatDoor

namespace Go.Proofs.YtgncdnejmobjbaaGreatDoor
open Go.ChangeShapes Go.WideShapes Go.ChangeAt Go.RowKit
set_option maxRecDepth 20000

set_option maxHeartbeats 1600000 in
set_option maxRecDepth 20000 in
theorem rround_ok (w : World) (c : Cf) : Calls Tryz.prog 82 #[.agg (cfC c)] w fun e w' => e = .returned (.int .i64 (rndN c)) ∧ Below w.heap.size w w' := by
  have HL : Hid ((Instr.loadAt 23 (.pointer (some ⟨w.heap.size, 0, none⟩))).run Tryz.prog (w.alloc (.cells (cfC c) 23)) = .ok (.agg (cfC c)) (w.alloc (.cells (cfC c) 23))) := (CfAt.new w c).loads
  have K1 := srcheck_ok (w.alloc (.cells (cfC c) 23)) c
  have H0 : Hid (Cfg w w.heap.size c (w.alloc (.cells (cfC c) 23))) := Cfg.new w c
  cases ho : okB c
  · rw [ho, if_neg Bool.false_ne_true] at K1
    rw [show rndN c = 0 by simp [rndN, ho]]
    clear ho
    go_enter Tryz.func82, Tryz.ntmps82
    go_wp2_with (first | (refine wpList_gload_run rfl 23 _ rfl _ _ rfl HL.out ?_) | fail)
    refine K1.mono ?_
    rintro e w1 ⟨rfl, hb⟩
    have H1 : Hid (Cfg w w.heap.size c w1) := H0.out.step hb
    clear K1 HL H0 hb
    go_wp2
    go_ret
    exact ⟨rfl, H1.out.bel⟩
  · rw [ho, if_pos rfl] at K1
    have hr := rnd_in ho
    obtain ⟨R, hR⟩ : ∃ R, R = rndN c := ⟨_, rfl⟩
    rw [← hR] at hr ⊢
    have e1 : IntKind.i64.wrap (c.n * c.s) = R := by rw [← rnd_right ho, ← hR]; exact wrap_in (by omega) (by omega)
    clear ho hr hR
    go_enter Tryz.func82, Tryz.ntmps82
    go_wp2_with (first | (refine wpList_gload_run rfl 23 _ rfl _ _ rfl HL.out ?_) | fail)
    refine K1.mono ?_
    rintro e w1 ⟨rfl, hb⟩
    have H1 : Hid (Cfg w w.heap.size c w1) := H0.out.step hb
    have p0 := H1.out.own.c0
    have p2 := H1.out.own.c2
    clear K1 HL H0 hb
    go_wp2
    go_ret
    exact ⟨rfl, H1.out.bel⟩

end Go.Proofs.YtgncdnejmobjbaaGreatDoor

namespace Go.Proofs.YtgncdnejmobjbaaGreatDoor
open Go.ChangeShapes Go.WideShapes Go.ChangeAt Go.RowKit
set_option maxRecDepth 20000

set_option maxHeartbeats 1600000 in
set_option maxRecDepth 20000 in
theorem rat_ok (w : World) (c : Cf) (r s : Int) : Calls Tryz.prog 83 #[.agg (cfC c), .int .i64 r, .int .i64 s] w fun e w' => e = .returned (atV c r s) ∧ Below w.heap.size w w' := by
  have HL : Hid ((Instr.loadAt 23 (.pointer (some ⟨w.heap.size, 0, none⟩))).run Tryz.prog (w.alloc (.cells (cfC c) 23)) = .ok (.agg (cfC c)) (w.alloc (.cells (cfC c) 23))) := (CfAt.new w c).loads
  have K1 := srcheck_ok (w.alloc (.cells (cfC c) 23)) c
  have H0 : Hid (Cfg w w.heap.size c (w.alloc (.cells (cfC c) 23))) := Cfg.new w c
  cases ho : okB c
  · rw [ho, if_neg Bool.false_ne_true] at K1
    rw [atV, if_neg (by simp [cellB, nodeB, ho])]
    clear ho
    go_enter Tryz.func83, Tryz.ntmps83
    go_wp2_with (first | (refine wpList_gload_run rfl 23 _ rfl _ _ rfl HL.out ?_) | fail)
    refine K1.mono ?_
    rintro e w1 ⟨rfl, hb⟩
    have H1 : Hid (Cfg w w.heap.size c w1) := H0.out.step hb
    clear K1 HL H0 hb
    go_wp2
    go_ret2
    exact ⟨rfl, H1.out.bel⟩
  rw [ho, if_pos rfl] at K1
  by_cases h0 : 0 ≤ r
  case neg =>
    rw [atV, if_neg (by simp [cellB, h0])]
    clear ho
    go_enter Tryz.func83, Tryz.ntmps83
    go_wp2_with (first | (refine wpList_gload_run rfl 23 _ rfl _ _ rfl HL.out ?_) | fail)
    refine K1.mono ?_
    rintro e w1 ⟨rfl, hb⟩
    have H1 : Hid (Cfg w w.heap.size c w1) := H0.out.step hb
    clear K1 HL H0 hb
    have p0 := H1.out.own.c0
    go_wp2
    go_ret2
    exact ⟨rfl, H1.out.bel⟩
  by_cases h1 : r < 1048576
  case neg =>
    rw [atV, if_neg (by simp [cellB, h1])]
    clear ho
    go_enter Tryz.func83, Tryz.ntmps83
    go_wp2_with (first | (refine wpList_gload_run rfl 23 _ rfl _ _ rfl HL.out ?_) | fail)
    refine K1.mono ?_
    rintro e w1 ⟨rfl, hb⟩
    have H1 : Hid (Cfg w w.heap.size c w1) := H0.out.step hb
    clear K1 HL H0 hb
    have p0 := H1.out.own.c0
    go_wp2
    go_ret2
    exact ⟨rfl, H1.out.bel⟩
  by_cases s0 : 0 ≤ s
  case neg =>
    rw [atV, if_neg (by simp [cellB, nodeB, s0])]
    clear ho
    go_enter Tryz.func83, Tryz.ntmps83
    go_wp2_with (first | (refine wpList_gload_run rfl 23 _ rfl _ _ rfl HL.out ?_) | fail)
    refine K1.mono ?_
    rintro e w1 ⟨rfl, hb⟩
    have H1 : Hid (Cfg w w.heap.size c w1) := H0.out.step hb
    clear K1 HL H0 hb
    have p0 := H1.out.own.c0
    go_wp2
    go_ret2
    exact ⟨rfl, H1.out.bel⟩
  by_cases s1 : s < c.n
  case neg =>
    rw [atV, if_neg (by simp [cellB, nodeB, s1])]
    clear ho
    go_enter Tryz.func83, Tryz.ntmps83
    go_wp2_with (first | (refine wpList_gload_run rfl 23 _ rfl _ _ rfl HL.out ?_) | fail)
    refine K1.mono ?_
    rintro e w1 ⟨rfl, hb⟩
    have H1 : Hid (Cfg w w.heap.size c w1) := H0.out.step hb
    clear K1 HL H0 hb
    have p0 := H1.out.own.c0
    go_wp2
    go_ret2
    exact ⟨rfl, H1.out.bel⟩
  have hc : cellB c r s = true := by simp [cellB, nodeB, ho, h0, h1, s0, s1]
  rw [atV, if_pos hc]
  obtain ⟨b1, b2, b3, b4, b5, b6, b7, b8⟩ := at_in hc
  have K2 : Hid (∀ W, Calls Tryz.prog 82 #[.agg (cfC c)] W fun e w' => e = .returned (.int .i64 (rndN c)) ∧ Below W.heap.size W w') := fun W => rround_ok W c
  obtain ⟨u, hu⟩ : ∃ u, u = s * c.s := ⟨_, rfl⟩
  obtain ⟨x, hx⟩ : ∃ x, x = r * rndN c := ⟨_, rfl⟩
  obtain ⟨T, hT⟩ : ∃ T, T = atN c r s := ⟨_, rfl⟩
  have e0 : IntKind.i64.wrap (s * c.s) = u := by rw [hu]; exact wrap_in (by omega) (by omega)
  have e1 : IntKind.i64.wrap (r * rndN c) = x := by rw [hx]; exact wrap_in (by omega) (by omega)
  have e2 : IntKind.i64.wrap (x + u) = T := by rw [hx, hu, hT]; exact wrap_in (by unfold atN at b5; omega) (by unfold atN at b6; omega)
  have y : T ≤ 1099511627776 := by rw [hT]; omega
  rw [← hT]
  clear hu hx hT b1 b2 b3 b4 b5 b6 b7 b8 hc ho
  generalize rndN c = R at *
  go_enter Tryz.func83, Tryz.ntmps83
  go_wp2_with (first | (refine wpList_gload_run rfl 23 _ rfl _ _ rfl HL.out ?_) | fail)
  refine K1.mono ?_
  rintro e w1 ⟨rfl, hb⟩
  have H1 : Hid (Cfg w w.heap.size c w1) := H0.out.step hb
  clear K1 HL H0 hb
  have p0 := H1.out.own.c0
  go_upto_region 3 with fail
  clear h0 h1 s0 s1 p0
  generalize hg : w.heap.size = g at *
  have HG : Hid (w.heap.size = g) := hg
  clear hg
  go_region_held3 (fun V => (V.cell? ⟨g, 0, none⟩ = some (.int .i64 c.n) ∧ V.cell? ⟨g, 1, none⟩ = some (.int .i64 c.f) ∧ V.cell? ⟨g, 2, none⟩ = some (.int .i64 c.s) ∧ V.cell? ⟨g, 3, none⟩ = some (.int .i64 c.d) ∧ V.cell? ⟨g, 4, none⟩ = some (.int .i64 c.k) ∧ V.cell? ⟨g, 5, none⟩ = some (.int .i64 c.e) ∧ V.cell? ⟨g, 6, none⟩ = some (.int .i64 c.v) ∧ V.cell? ⟨g, 7, none⟩ = some (.int .i64 c.r) ∧ V.cell? ⟨g, 8, none⟩ = some (.int .i64 c.l) ∧ V.cell? ⟨g, 9, none⟩ = some (.int .i64 c.p)) ∧ Cfg w g c V)
    (first | exact H1.out.held | assumption | exact (Cfg.drew (And.right (by assumption))).held | exact H1.out.drew.held)
    (first | (go_at_call 82; refine (K2.out _).mono ?_; rintro e w2 ⟨rfl, hb⟩; replace hb := (Cfg.step (And.right (by assumption)) hb).held))
  all_goals
    rename_i hh
    have H2 : Hid (Cfg w g c _) := hh.2
    clear hh H1 K2
    go_wp2
    go_ret2
    exact ⟨rfl, HG.out ▸ H2.out.bel⟩

/-- The document's quotient. -/
theorem up_sums {c : Cf} (ho : okB c = true) : ∃ x y : Int, IntKind.i64.wrap (quiN c + rndN c) = x ∧ IntKind.i64.wrap (x - 1) = y ∧ y.tdiv (rndN c) = upN (quiN c) (rndN c) ∧ ¬ rndN c = 0 ∧ (rndN c == 0) = false := by
  have hr := rnd_in ho
  have hq := qui_in ho
  exact ⟨quiN c + rndN c, quiN c + rndN c - 1, wrap_in (by omega) (by omega), wrap_in (by omega) (by omega), rfl, by omega, by simp; omega⟩

end Go.Proofs.YtgncdnejmobjbaaGreatDoor

namespace Go.Proofs.YtgncdnejmobjbaaGreatDoor
open Go.ChangeShapes Go.WideShapes Go.ChangeAt Go.RowKit
set_option maxRecDepth 20000

set_option maxHeartbeats 1600000 in
set_option maxRecDepth 20000 in
theorem rplace_ok (w : World) (c : Cf) (t : Int) : Calls Tryz.prog 64 #[.agg (cfC c), .int .i64 t] w fun e w' => e = .returned (placeV c t) ∧ Below w.heap.size w w' := by
  have H0 : Hid (Cfr w w.heap.size c ((w.alloc (.cells (cfC c) 23)).alloc (.cells #[.int .i64 0, .int .i64 0, .int .i64 0] 99))) := Cfr.new w c
  have HL : Hid ((Instr.loadAt 23 (.pointer (some ⟨w.heap.size, 0, none⟩))).run Tryz.prog ((w.alloc (.cells (cfC c) 23)).alloc (.cells #[.int .i64 0, .int .i64 0, .int .i64 0] 99)) = .ok (.agg (cfC c)) ((w.alloc (.cells (cfC c) 23)).alloc (.cells #[.int .i64 0, .int .i64 0, .int .i64 0] 99))) := H0.out.cfg.own.loads
  have K1 := srcheck_ok ((w.alloc (.cells (cfC c) 23)).alloc (.cells #[.int .i64 0, .int .i64 0, .int .i64 0] 99)) c
  cases ho : okB c
  · rw [ho, if_neg Bool.false_ne_true] at K1
    rw [placeV, if_neg (by simp [placeB, ho])]
    clear ho
    go_enter Tryz.func64, Tryz.ntmps64
    go_wp2_with (first | (refine wpList_gload_run rfl 23 _ rfl _ _ rfl HL.out ?_) | fail)
    refine K1.mono ?_
    rintro e w1 ⟨rfl, hb⟩
    have H1 : Hid (Cfr w w.heap.size c w1) := H0.out.step hb
    clear K1 HL H0 hb
    obtain ⟨x, y, z, hT⟩ := H1.out.room
    obtain ⟨t0, t1, t2, f0, f1, f2⟩ := hT.facts
    have H3 : Hid (Tri (((w1.setCell ⟨w.heap.size + 1, 0, none⟩ (.int .i64 0)).setCell ⟨w.heap.size + 1, 1, none⟩ (.int .i64 0)).setCell ⟨w.heap.size + 1, 2, none⟩ (.int .i64 0)) (w.heap.size + 1) 0 0 0) := hT.set 0 0 0
    have H4 : Hid (Cfr w w.heap.size c (((w1.setCell ⟨w.heap.size + 1, 0, none⟩ (.int .i64 0)).setCell ⟨w.heap.size + 1, 1, none⟩ (.int .i64 0)).setCell ⟨w.heap.size + 1, 2, none⟩ (.int .i64 0))) := H1.out.put 0 0 0
    clear H1 hT
    go_wp2
    refine bodyPost_ret (res_tri_tmp rfl rfl H3.out) rfl ?_
    exact ⟨rfl, H4.out.cfg.bel⟩
  rw [ho, if_pos rfl] at K1
  by_cases u0 : 0 ≤ t
  case neg =>
    rw [placeV, if_neg (by simp [placeB, timeB, u0])]
    clear ho
    go_enter Tryz.func64, Tryz.ntmps64
    go_wp2_with (first | (refine wpList_gload_run rfl 23 _ rfl _ _ rfl HL.out ?_) | fail)
    refine K1.mono ?_
    rintro e w1 ⟨rfl, hb⟩
    have H1 : Hid (Cfr w w.heap.size c w1) := H0.out.step hb
    clear K1 HL H0 hb
    obtain ⟨x, y, z, hT⟩ := H1.out.room
    obtain ⟨t0, t1, t2, f0, f1, f2⟩ := hT.facts
    have H3 : Hid (Tri (((w1.setCell ⟨w.heap.size + 1, 0, none⟩ (.int .i64 0)).setCell ⟨w.heap.size + 1, 1, none⟩ (.int .i64 0)).setCell ⟨w.heap.size + 1, 2, none⟩ (.int .i64 0)) (w.heap.size + 1) 0 0 0) := hT.set 0 0 0
    have H4 : Hid (Cfr w w.heap.size c (((w1.setCell ⟨w.heap.size + 1, 0, none⟩ (.int .i64 0)).setCell ⟨w.heap.size + 1, 1, none⟩ (.int .i64 0)).setCell ⟨w.heap.size + 1, 2, none⟩ (.int .i64 0))) := H1.out.put 0 0 0
    clear H1 hT
    go_wp2
    refine bodyPost_ret (res_tri_tmp rfl rfl H3.out) rfl ?_
    exact ⟨rfl, H4.out.cfg.bel⟩
  by_cases u1 : t ≤ 1099511627776
  case neg =>
    rw [placeV, if_neg (by simp [placeB, timeB, u1])]
    clear ho
    go_enter Tryz.func64, Tryz.ntmps64
    go_wp2_with (first | (refine wpList_gload_run rfl 23 _ rfl _ _ rfl HL.out ?_) | fail)
    refine K1.mono ?_
    rintro e w1 ⟨rfl, hb⟩
    have H1 : Hid (Cfr w w.heap.size c w1) := H0.out.step hb
    clear K1 HL H0 hb
    obtain ⟨x, y, z, hT⟩ := H1.out.room
    obtain ⟨t0, t1, t2, f0, f1, f2⟩ := hT.facts
    have H3 : Hid (Tri (((w1.setCell ⟨w.heap.size + 1, 0, none⟩ (.int .i64 0)).setCell ⟨w.heap.size + 1, 1, none⟩ (.int .i64 0)).setCell ⟨w.heap.size + 1, 2, none⟩ (.int .i64 0)) (w.heap.size + 1) 0 0 0) := hT.set 0 0 0
    have H4 : Hid (Cfr w w.heap.size c (((w1.setCell ⟨w.heap.size + 1, 0, none⟩ (.int .i64 0)).setCell ⟨w.heap.size + 1, 1, none⟩ (.int .i64 0)).setCell ⟨w.heap.size + 1, 2, none⟩ (.int .i64 0))) := H1.out.put 0 0 0
    clear H1 hT
    go_wp2
    refine bodyPost_ret (res_tri_tmp rfl rfl H3.out) rfl ?_
    exact ⟨rfl, H4.out.cfg.bel⟩
  have ht : timeB t = true := by simp [timeB, u0, u1]
  have K3 : Hid (∀ W, Calls Tryz.prog 82 #[.agg (cfC c)] W fun e w' => e = .returned (.int .i64 (rndN c)) ∧ Below W.heap.size W w') := fun W => rround_ok W c
  obtain ⟨R, q, m, k, o, hR, y0, y1, e1, e2, e3, y2, y3, e4, e5, e6, g1, g2, g3, g4, g5⟩ := place_sums ho ht
  have hv : placeV c t = if q < 1048576 then .tuple #[.agg #[.int .i64 q, .int .i64 k, .int .i64 o], .int .i64 0] else .tuple #[.agg #[.int .i64 0, .int .i64 0, .int .i64 0], .int .i64 1] := by
    unfold placeV
    rw [g1, g2, g3]
    simp [placeB, ho, ht, g1]
  rw [hv]
  rw [hR] at K3
  clear hv ho ht g1 g2 g3 g4 hR e6
  by_cases hq : q < 1048576
  · rw [if_pos hq]
    go_enter Tryz.func64, Tryz.ntmps64
    go_wp2_with (first | (refine wpList_gload_run rfl 23 _ rfl _ _ rfl HL.out ?_) | fail)
    refine K1.mono ?_
    rintro e w1 ⟨rfl, hb⟩
    have H1 : Hid (Cfr w w.heap.size c w1) := H0.out.step hb
    clear K1 HL H0 hb
    obtain ⟨p0, p1, p2, p3, p4, p5, p6, p7, p8, p9⟩ := H1.out.cfg.held.1
    go_wp2_with fail
    refine (K3.out _).mono ?_
    rintro e w2 ⟨rfl, hb⟩
    have H2 : Hid (Cfr w w.heap.size c w2) := H1.out.step hb
    clear H1 hb p0 p1 p2 p3 p4 p5 p6 p7 p8 p9
    obtain ⟨p0, p1, p2, p3, p4, p5, p6, p7, p8, p9⟩ := H2.out.cfg.held.1
    go_wp2_with fail
    refine (K3.out _).mono ?_
    rintro e w3 ⟨rfl, hb⟩
    have H3 : Hid (Cfr w w.heap.size c w3) := H2.out.step hb
    clear H2 hb p0 p1 p2 p3 p4 p5 p6 p7 p8 p9
    go_upto_region 4 with fail
    clear u0 u1 hq
    generalize hg : w.heap.size = g at *
    have HG : Hid (w.heap.size = g) := hg
    clear hg
    go_region_held3 (fun V => (V.cell? ⟨g, 0, none⟩ = some (.int .i64 c.n) ∧ V.cell? ⟨g, 1, none⟩ = some (.int .i64 c.f) ∧ V.cell? ⟨g, 2, none⟩ = some (.int .i64 c.s) ∧ V.cell? ⟨g, 3, none⟩ = some (.int .i64 c.d) ∧ V.cell? ⟨g, 4, none⟩ = some (.int .i64 c.k) ∧ V.cell? ⟨g, 5, none⟩ = some (.int .i64 c.e) ∧ V.cell? ⟨g, 6, none⟩ = some (.int .i64 c.v) ∧ V.cell? ⟨g, 7, none⟩ = some (.int .i64 c.r) ∧ V.cell? ⟨g, 8, none⟩ = some (.int .i64 c.l) ∧ V.cell? ⟨g, 9, none⟩ = some (.int .i64 c.p)) ∧ Cfr w g c V)
      (first | exact H3.out.held | assumption | exact H3.out.drew.held | exact (H4.out.put q k o).held)
      (first | (go_at_call 82; refine (K3.out _).mono ?_; rintro e w4 ⟨rfl, hb⟩; have H4 : Hid (Cfr w g c w4) := Cfr.step (And.right (by assumption)) hb; obtain ⟨x, y, z, hT⟩ := H4.out.room; obtain ⟨t0, t1, t2, f0, f1, f2⟩ := hT.facts; have HT : Hid (Tri w4 (g + 1) x y z) := hT; clear hb; replace hb := H4.out.held))
    rename_i hh
    have H5 : Hid (Cfr w g c _) := hh.2
    have H6 : Hid (Tri _ (g + 1) q k o) := HT.out.set q k o
    go_wp2
    refine bodyPost_ret (res_tri_tmp rfl rfl H6.out) rfl ?_
    exact ⟨rfl, HG.out ▸ H5.out.cfg.bel⟩
  · rw [if_neg hq]
    go_enter Tryz.func64, Tryz.ntmps64
    go_wp2_with (first | (refine wpList_gload_run rfl 23 _ rfl _ _ rfl HL.out ?_) | fail)
    refine K1.mono ?_
    rintro e w1 ⟨rfl, hb⟩
    have H1 : Hid (Cfr w w.heap.size c w1) := H0.out.step hb
    clear K1 HL H0 hb
    obtain ⟨p0, p1, p2, p3, p4, p5, p6, p7, p8, p9⟩ := H1.out.cfg.held.1
    go_wp2_with fail
    refine (K3.out _).mono ?_
    rintro e w2 ⟨rfl, hb⟩
    have H2 : Hid (Cfr w w.heap.size c w2) := H1.out.step hb
    clear H1 hb p0 p1 p2 p3 p4 p5 p6 p7 p8 p9
    have H1 : Hid (Cfr w w.heap.size c w2) := H2.out
    clear H2
    obtain ⟨x, y, z, hT⟩ := H1.out.room
    obtain ⟨t0, t1, t2, f0, f1, f2⟩ := hT.facts
    have H3 : Hid (Tri (((w2.setCell ⟨w.heap.size + 1, 0, none⟩ (.int .i64 0)).setCell ⟨w.heap.size + 1, 1, none⟩ (.int .i64 0)).setCell ⟨w.heap.size + 1, 2, none⟩ (.int .i64 0)) (w.heap.size + 1) 0 0 0) := hT.set 0 0 0
    have H4 : Hid (Cfr w w.heap.size c (((w2.setCell ⟨w.heap.size + 1, 0, none⟩ (.int .i64 0)).setCell ⟨w.heap.size + 1, 1, none⟩ (.int .i64 0)).setCell ⟨w.heap.size + 1, 2, none⟩ (.int .i64 0))) := H1.out.put 0 0 0
    clear H1 hT
    go_wp2
    refine bodyPost_ret (res_tri_tmp rfl rfl H3.out) rfl ?_
    exact ⟨rfl, H4.out.cfg.bel⟩
end Go.Proofs.YtgncdnejmobjbaaGreatDoor
