/-
  The document's side: Next.
-/
import Derived.Test.YtfbfbnhbagojgaaSchedU
namespace Go.Proofs.Ytfbfbnhbagojgaa
open Go.ChangeShapes Go.WideShapes Go.ChangeAt Go.RowKit

/-- Where a time has no cell, a node has no next round. -/
theorem next_none {c : Cf} {i t : Int} (hp : placeB c t = false) : nextB c i t = false := by
  rw [Bool.eq_false_iff]
  intro h
  obtain ⟨hn, t0, t1, hx⟩ := next_ok' h
  have ho := (node_ok hn).1
  have h2 := slot_in hn
  have h3 := rnd_in ho
  have h4 := (right_of ho).s0
  have h5 := next_in hn t0
  have hq : ¬ t / rndN c < 1048576 := by
    intro hq
    rw [Bool.eq_false_iff] at hp
    exact hp (by simp only [placeB, timeB, Bool.and_eq_true, decide_eq_true_eq]; exact ⟨⟨ho, t0, t1⟩, hq⟩)
  have p1 := parts t (rndN c) (by omega)
  have a1 : 1048576 * rndN c ≤ t / rndN c * rndN c := Int.mul_le_mul_of_nonneg_right (by omega) (by omega)
  have a2 : nextN c i t * rndN c ≤ 1048575 * rndN c := Int.mul_le_mul_of_nonneg_right (by omega) (by omega)
  unfold atN at h5
  omega
/-- The document's steps to the next round. -/
theorem next_steps {c : Cf} {i t : Int} (hn : nodeB c i = true) (hp : placeB c t = true) : cellB c (t / rndN c) i = true ∧ nextB c i t = cellB c (nextN c i t) i ∧ IntKind.i64.wrap (t / rndN c + 1) = t / rndN c + 1 ∧
    (atN c (t / rndN c) i < t → nextN c i t = t / rndN c + 1) ∧ (¬ atN c (t / rndN c) i < t → nextN c i t = t / rndN c) := by
  obtain ⟨ho, t0, t1, hq⟩ := place_ok' hp
  have h3 := rnd_in ho
  have h0 : 0 ≤ t / rndN c := Int.ediv_nonneg t0 (by omega)
  have h5 := next_in hn t0
  have h6 := next_ref hn t0
  refine ⟨by simp [cellB, hn, h0, hq], ?_, wrap_in (by omega) (by omega), fun h => by rw [h6, if_pos h], fun h => by rw [h6, if_neg h]⟩
  have ht : timeB t = true := by simp [timeB, t0, t1]
  simp [nextB, cellB, hn, ht, h5.2.2.2.1]

set_option maxHeartbeats 1600000 in
set_option maxRecDepth 20000 in
theorem rnext_ok (w : World) (c : Cf) (i t : Int) : Calls Try.prog 26 #[.agg (cfC c), .int .i64 i, .int .i64 t] w fun e w' => e = .returned (nextV c i t) ∧ Below w.heap.size w w' := by
  have HL : Hid ((Instr.loadAt 23 (.pointer (some ⟨w.heap.size, 0, none⟩))).run Try.prog (w.alloc (.cells (cfC c) 23)) = .ok (.agg (cfC c)) (w.alloc (.cells (cfC c) 23))) := (CfAt.new w c).loads
  have K1 := rplace_ok (w.alloc (.cells (cfC c) 23)) c t
  have H0 : Hid (Cfg w w.heap.size c (w.alloc (.cells (cfC c) 23))) := Cfg.new w c
  cases hp : placeB c t
  · rw [nextV, next_none hp, if_neg Bool.false_ne_true]
    rw [placeV, hp, if_neg Bool.false_ne_true] at K1
    clear hp
    go_enter Try.func26, Try.ntmps26
    go_wp2_with (first | (refine wpList_gload_run rfl 23 _ rfl _ _ rfl HL.out ?_) | fail)
    refine K1.mono ?_
    rintro e w1 ⟨rfl, hb⟩
    have H1 : Hid (Cfg w w.heap.size c w1) := H0.out.step hb
    have H2 : Hid (Cfg w w.heap.size c (w1.alloc (.cells #[.int .i64 0, .int .i64 0, .int .i64 0] 32))) := H1.out.step (Go.Joins.below_alloc1 _ _)
    clear K1 HL H0 hb H1
    go_wp2
    go_ret2
    exact ⟨rfl, H2.out.bel⟩
  have ho := (place_ok' hp).1
  have K1' := K1
  rw [placeV, hp, if_pos rfl] at K1
  clear K1'
  generalize hq : t / rndN c = q at *
  generalize t % rndN c / c.s = k at *
  generalize t % c.s = o at *
  by_cases s0 : 0 ≤ i
  case neg =>
    rw [nextV, if_neg (by simp [nextB, nodeB, s0])]
    clear hp ho hq
    go_enter Try.func26, Try.ntmps26
    go_wp2_with (first | (refine wpList_gload_run rfl 23 _ rfl _ _ rfl HL.out ?_) | fail)
    refine K1.mono ?_
    rintro e w1 ⟨rfl, hb⟩
    have H1 : Hid (Cfg w w.heap.size c w1) := H0.out.step hb
    have H2 : Hid (Cfg w w.heap.size c (w1.alloc (.cells #[.int .i64 q, .int .i64 k, .int .i64 o] 32))) := H1.out.step (Go.Joins.below_alloc1 _ _)
    have p0 := H2.out.own.c0
    clear K1 HL H0 hb H1
    go_wp2
    go_ret2
    exact ⟨rfl, H2.out.bel⟩
  by_cases s1 : i < c.n
  case neg =>
    rw [nextV, if_neg (by simp [nextB, nodeB, s1])]
    clear hp ho hq
    go_enter Try.func26, Try.ntmps26
    go_wp2_with (first | (refine wpList_gload_run rfl 23 _ rfl _ _ rfl HL.out ?_) | fail)
    refine K1.mono ?_
    rintro e w1 ⟨rfl, hb⟩
    have H1 : Hid (Cfg w w.heap.size c w1) := H0.out.step hb
    have H2 : Hid (Cfg w w.heap.size c (w1.alloc (.cells #[.int .i64 q, .int .i64 k, .int .i64 o] 32))) := H1.out.step (Go.Joins.below_alloc1 _ _)
    have p0 := H2.out.own.c0
    clear K1 HL H0 hb H1
    go_wp2
    go_ret2
    exact ⟨rfl, H2.out.bel⟩
  have hn : nodeB c i = true := by simp [nodeB, ho, s0, s1]
  obtain ⟨d1, d2, d3, d4, d5⟩ := next_steps hn hp
  rw [hq] at d1 d3 d4 d5
  have K2 : Hid (∀ W, Calls Try.prog 22 #[.agg (cfC c), .int .i64 q, .int .i64 i] W fun e w' => e = .returned (.tuple #[.int .i64 (atN c q i), .int .i64 0]) ∧ Below W.heap.size W w') := fun W => by
    have := rat_ok W c q i
    rw [atV, if_pos d1] at this
    exact this
  have K3 : ∀ W, Calls Try.prog 22 #[.agg (cfC c), .int .i64 (nextN c i t), .int .i64 i] W fun e w' => e = .returned (atV c (nextN c i t) i) ∧ Below W.heap.size W w' := fun W => rat_ok W c _ i
  rw [nextV, d2]
  unfold atV at K3
  generalize atN c q i = T at *
  generalize cellB c (nextN c i t) i = b at *
  generalize atN c (nextN c i t) i = T2 at *
  clear hn hp ho hq d1 d2
  by_cases hl : T < t
  · rw [d4 hl] at K3 ⊢
    clear d4 d5
    have K3' : Hid (∀ W, Calls Try.prog 22 #[.agg (cfC c), .int .i64 (q + 1), .int .i64 i] W fun e w' => e = .returned (if b = true then .tuple #[.int .i64 T2, .int .i64 0] else .tuple #[.int .i64 0, .int .i64 1]) ∧ Below W.heap.size W w') := K3
    clear K3
    go_enter Try.func26, Try.ntmps26
    go_wp2_with (first | (refine wpList_gload_run rfl 23 _ rfl _ _ rfl HL.out ?_) | fail)
    refine K1.mono ?_
    rintro e w1 ⟨rfl, hb⟩
    have H1 : Hid (Cfg w w.heap.size c w1) := H0.out.step hb
    have H2 : Hid (Cfg w w.heap.size c (w1.alloc (.cells #[.int .i64 q, .int .i64 k, .int .i64 o] 32))) := H1.out.step (Go.Joins.below_alloc1 _ _)
    obtain ⟨p0, p1, p2, p3, p4, p5, p6, p7, p8, p9⟩ := H2.out.held.1
    have t0 := (Tri.new w1 q k o).c0
    clear K1 HL H0 hb H1
    go_wp2_with fail
    refine (K2.out _).mono ?_
    rintro e w2 ⟨rfl, hb⟩
    have H3 : Hid (Cfg w w.heap.size c w2) := H2.out.step hb
    clear K2 H2 hb p0 p1 p2 p3 p4 p5 p6 p7 p8 p9 t0
    obtain ⟨p0, p1, p2, p3, p4, p5, p6, p7, p8, p9⟩ := H3.out.held.1
    go_wp2_with fail
    refine (K3'.out _).mono ?_
    rintro e w3 ⟨rfl, hb⟩
    have H4 : Hid (Cfg w w.heap.size c w3) := H3.out.step hb
    clear K3' H3 hb p0 p1 p2 p3 p4 p5 p6 p7 p8 p9 s0 s1 hl
    cases b
    all_goals
      simp only [if_true, Bool.false_eq_true, if_false]
      go_wp2
      go_ret2
      exact ⟨rfl, H4.out.bel⟩
  · rw [d5 hl] at K3 ⊢
    clear d4 d5 d3
    have K3' : Hid (∀ W, Calls Try.prog 22 #[.agg (cfC c), .int .i64 q, .int .i64 i] W fun e w' => e = .returned (if b = true then .tuple #[.int .i64 T2, .int .i64 0] else .tuple #[.int .i64 0, .int .i64 1]) ∧ Below W.heap.size W w') := K3
    clear K3
    go_enter Try.func26, Try.ntmps26
    go_wp2_with (first | (refine wpList_gload_run rfl 23 _ rfl _ _ rfl HL.out ?_) | fail)
    refine K1.mono ?_
    rintro e w1 ⟨rfl, hb⟩
    have H1 : Hid (Cfg w w.heap.size c w1) := H0.out.step hb
    have H2 : Hid (Cfg w w.heap.size c (w1.alloc (.cells #[.int .i64 q, .int .i64 k, .int .i64 o] 32))) := H1.out.step (Go.Joins.below_alloc1 _ _)
    obtain ⟨p0, p1, p2, p3, p4, p5, p6, p7, p8, p9⟩ := H2.out.held.1
    have t0 := (Tri.new w1 q k o).c0
    clear K1 HL H0 hb H1
    go_wp2_with fail
    refine (K2.out _).mono ?_
    rintro e w2 ⟨rfl, hb⟩
    have H3 : Hid (Cfg w w.heap.size c w2) := H2.out.step hb
    clear K2 H2 hb p0 p1 p2 p3 p4 p5 p6 p7 p8 p9 t0
    obtain ⟨p0, p1, p2, p3, p4, p5, p6, p7, p8, p9⟩ := H3.out.held.1
    go_wp2_with fail
    refine (K3'.out _).mono ?_
    rintro e w3 ⟨rfl, hb⟩
    have H4 : Hid (Cfg w w.heap.size c w3) := H3.out.step hb
    clear K3' H3 hb p0 p1 p2 p3 p4 p5 p6 p7 p8 p9 s0 s1 hl
    cases b
    all_goals
      simp only [if_true, Bool.false_eq_true, if_false]
      go_wp2
      go_ret2
      exact ⟨rfl, H4.out.bel⟩
end Go.Proofs.Ytfbfbnhbagojgaa
