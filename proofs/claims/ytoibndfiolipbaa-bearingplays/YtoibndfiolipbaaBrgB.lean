/-
  What a table answers where no call made it; a table is made; Clear; what another node is; what is narrowed.
-/
import Derived.Test.YtoibndfiolipbaaBrgA
import Derived.Test.YtoibndfiolipbaaSchedD
import Derived.Test.YtoibndfiolipbaaIvalCalls2
namespace Go.Proofs.Ytoibndfiolipbaa
open Go.ChangeShapes Go.WideShapes Go.ChangeAt Go.RowKit

/-- A nil table, or one that no call made. -/
def NoB (w : World) (p : Value) : Prop := p = .pointer none ∨ ∃ g, p = .pointer (some ⟨g, 0, none⟩) ∧ w.cell? ⟨g, 11, none⟩ = some (.map none)
theorem NoB.below {w w' : World} {p : Value} (h : NoB w p) (hb : Below w.heap.size w w') : NoB w' p := by
  rcases h with h | ⟨g, h1, h2⟩
  · exact .inl h
  · exact .inr ⟨g, h1, by rw [hb.cell (p := ⟨g, 11, none⟩) (World.block_lt_of_cell? w _ h2), h2]⟩
theorem neq_nil (w : World) : (binOp .neq 62 (.map none) (.map none)).run Try.prog w = .ok (.bool false) w := by kernel_rfl
theorem neq_some (m : Nat) (w : World) : (binOp .neq 62 (.map (some m)) (.map none)).run Try.prog w = .ok (.bool true) w := by kernel_rfl
theorem made_no (w : World) (p : Value) (h : NoB w p) : Calls Try.prog 29 #[p] w fun e w' => e = .returned (.bool false) ∧ w' = w := by
  rcases h with rfl | ⟨g, rfl, hc⟩
  · go_enter Try.func29, Try.ntmps29
    go_wp2
    go_ret
    exact ⟨rfl, rfl⟩
  · have hn := neq_nil
    go_enter Try.func29, Try.ntmps29
    go_wp2
    go_ret
    exact ⟨rfl, rfl⟩
theorem made_ok (w : World) (g m : Nat) (h : w.cell? ⟨g, 11, none⟩ = some (.map (some m))) : Calls Try.prog 29 #[.pointer (some ⟨g, 0, none⟩)] w fun e w' => e = .returned (.bool true) ∧ w' = w := by
  have hn := neq_some m
  go_enter Try.func29, Try.ntmps29
  go_wp2
  go_ret
  exact ⟨rfl, rfl⟩
theorem other_ok (w : World) (g m : Nat) (v : Bt) (f : Int) (h : BA w g v m) : Calls Try.prog 30 #[.pointer (some ⟨g, 0, none⟩), .int .i64 f] w fun e w' => e = .returned (.bool (otherB v f)) ∧ w' = w := by
  have c0 := h.cfg.1
  have c10 := h.node
  unfold otherB
  clear h
  generalize v.c.n = n at *
  generalize v.i = i at *
  by_cases h0 : 0 ≤ f
  · by_cases h1 : f < n
    · by_cases h2 : f = i
      · rw [show decide (0 ≤ f ∧ f < n ∧ f ≠ i) = false by simp [h2]]
        go_enter Try.func30, Try.ntmps30
        go_wp2
        go_ret
        exact ⟨by first | rfl | simp [h2], rfl⟩
      · rw [show decide (0 ≤ f ∧ f < n ∧ f ≠ i) = true by simp [h0, h1, h2]]
        go_enter Try.func30, Try.ntmps30
        go_wp2
        go_ret
        exact ⟨by first | rfl | simp [h2], rfl⟩
    · rw [show decide (0 ≤ f ∧ f < n ∧ f ≠ i) = false by simp [h1]]
      go_enter Try.func30, Try.ntmps30
      go_wp2
      go_ret
      exact ⟨by first | rfl | simp [h0, h1], rfl⟩
  · rw [show decide (0 ≤ f ∧ f < n ∧ f ≠ i) = false by simp [h0]]
    go_enter Try.func30, Try.ntmps30
    go_wp2
    go_ret
    exact ⟨by first | rfl | simp [h0], rfl⟩
theorem time_ok (w : World) (t : Int) : Calls Try.prog 32 #[.int .i64 t] w fun e w' => e = .returned (.bool (timeB t)) ∧ w' = w := by
  unfold timeB
  by_cases h0 : 0 ≤ t
  · by_cases h1 : t ≤ 1099511627776
    · rw [show decide (0 ≤ t ∧ t ≤ 1099511627776) = true by simp [h0, h1]]
      go_enter Try.func32, Try.ntmps32
      go_wp2
      go_ret
      exact ⟨by first | rfl | simp [h0, h1], rfl⟩
    · rw [show decide (0 ≤ t ∧ t ≤ 1099511627776) = false by simp [h1]]
      go_enter Try.func32, Try.ntmps32
      go_wp2
      go_ret
      exact ⟨by first | rfl | simp [h0, h1], rfl⟩
  · rw [show decide (0 ≤ t ∧ t ≤ 1099511627776) = false by simp [h0]]
    go_enter Try.func32, Try.ntmps32
    go_wp2
    go_ret
    exact ⟨by first | rfl | simp [h0], rfl⟩

/-- An interval and an error, as a call answers them. -/
def anV (x : An) : Value := .tuple #[.agg #[.int .i64 x.a, .int .i64 x.b], .int .i64 x.e]
theorem met_eq (a b c d : Int) : meetV a b c d = anV (metA a b c d) := by
  unfold meetV metA
  split
  · split <;> rfl
  · rfl
theorem grw_eq (a b g d : Int) : growV a b g d = anV (grwA a b g d) := by
  unfold growV grwA
  split
  · unfold makeV; split <;> rfl
  · rfl

/-- What narrowed answers. -/
def nwA (x : An) (a b : Int) : An := if (metA x.a x.b a b).e = 0 then metA x.a x.b a b else ⟨a, b, 0⟩
theorem nar_eq {x : An} (h : x.e = 0) (a b : Int) : narA x a b = nwA x a b := by rw [narA, if_pos h]; rfl

set_option maxHeartbeats 1600000 in
set_option maxRecDepth 20000 in
theorem narrowed_ok (w : World) (x : An) (a b : Int) : Calls Try.prog 33 #[.agg #[.int .i64 a, .int .i64 b], .agg #[.int .i64 x.a, .int .i64 x.b]] w fun e w' => e = .returned (.agg #[.int .i64 (nwA x a b).a, .int .i64 (nwA x a b).b]) ∧ Below w.heap.size w w' := by
  have K1 : Hid (∀ W, Calls Try.prog 49 #[.agg #[.int .i64 x.a, .int .i64 x.b], .agg #[.int .i64 a, .int .i64 b]] W fun e w' => e = .returned (.tuple #[.agg #[.int .i64 (metA x.a x.b a b).a, .int .i64 (metA x.a x.b a b).b], .int .i64 (metA x.a x.b a b).e]) ∧ Below W.heap.size W w') := fun W => by
    have := meets_ok W x.a x.b a b
    rw [met_eq] at this
    exact this
  unfold nwA
  generalize metA x.a x.b a b = r at *
  obtain ⟨p, q, e0⟩ := r
  generalize x.a = c at *
  generalize x.b = d at *
  have HA : Hid (∀ w1, Below (((w.alloc (.cells #[.int .i64 a, .int .i64 b] 39)).alloc (.cells #[.int .i64 c, .int .i64 d] 39)).alloc (.cells #[.int .i64 0, .int .i64 0] 39)).heap.size (((w.alloc (.cells #[.int .i64 a, .int .i64 b] 39)).alloc (.cells #[.int .i64 c, .int .i64 d] 39)).alloc (.cells #[.int .i64 0, .int .i64 0] 39)) w1 →
      Pair w1 w.heap.size a b ∧ Pair w1 (w.heap.size + 1) c d ∧ Pair w1 (w.heap.size + 1 + 1) 0 0 ∧ Below w.heap.size w w1) := fun w1 hb => boxes3 hb
  dsimp only at *
  have HB : Hid (∀ w1, Pair w1 (w.heap.size + 1 + 1) 0 0 → Pair w1 w.heap.size a b → Below w.heap.size w w1 → ∀ W, W = w1.alloc (.cells #[.int .i64 p, .int .i64 q] 39) →
      Pair W (w.heap.size + 1 + 1) 0 0 ∧ Pair W w.heap.size a b ∧ Pair W w1.heap.size p q ∧ Below w.heap.size w W) := fun w1 h1 h2 h3 W hW => by
    subst hW
    exact ⟨h1.alloc _, h2.alloc _, Pair.new w1 p q, h3.alloc h3.size _⟩
  by_cases h0 : e0 = 0
  all_goals
    first
    | (subst h0; rw [if_pos rfl])
    | rw [if_neg h0]
    go_enter Try.func33, Try.ntmps33
    go_wp2_with fail
    refine (K1.out _).mono ?_
    rintro e w1 ⟨rfl, hb⟩
    clear K1
    obtain ⟨P2, P3, P4, bel1⟩ := HA.out _ hb
    clear hb HA P3
    go_upto_region 2 with fail
    obtain ⟨W, hW⟩ : ∃ W, W = w1.alloc (.cells #[.int .i64 p, .int .i64 q] 39) := ⟨_, rfl⟩
    obtain ⟨Q1, Q2, Q3, bel⟩ := HB.out w1 P4 P2 bel1 W hW
    rw [← hW]
    generalize w1.heap.size = k at *
    clear hW HB P2 P4 bel1 w1
    obtain ⟨x0, x1, x2, x3⟩ := Q1.facts
    obtain ⟨y0, y1, y2, y3⟩ := Q2.facts
    obtain ⟨z0, z1, z2, z3⟩ := Q3.facts
    have HP : Hid (Pair W (w.heap.size + 1 + 1) 0 0) := Q1
    clear Q1 Q2 Q3
    go_wp2
    refine bodyPost_ret (res_pair rfl rfl (HP.out.set _ _)) rfl ?_
    exact ⟨rfl, below_pair bel (by omega) _ _⟩

theorem buildTb (c : Cf) (i : Int) (m : Nat) (w : World) : (Instr.build 64 [(0, .agg (cfC c)), (1, .int .i64 i), (2, .map (some m))].toArray).run Try.prog w = .ok (.agg (brL (newT c i) m).toArray) w := by kernel_rfl

set_option maxHeartbeats 1600000 in
set_option maxRecDepth 20000 in
theorem new_ok (w : World) (c : Cf) (i : Int) (h : nodeB c i = true) : Calls Try.prog 7 #[.agg (cfC c), .int .i64 i] w fun e w' => ∃ g m, e = .returned (.tuple #[.pointer (some ⟨g, 0, none⟩), .int .i64 0]) ∧ Bd w' g m (newT c i) 0 ∧ w.heap.size ≤ g ∧ w.heap.size ≤ m ∧ Below w.heap.size w w' := by
  obtain ⟨ho, i0, i1⟩ := node_ok h
  have H0 : Hid (Cfg w w.heap.size c (w.alloc (.cells (cfC c) 23))) := Cfg.new w c
  have HL : Hid ((Instr.loadAt 23 (.pointer (some ⟨w.heap.size, 0, none⟩))).run Try.prog (w.alloc (.cells (cfC c) 23)) = .ok (.agg (cfC c)) (w.alloc (.cells (cfC c) 23))) := H0.out.own.loads
  have K1 := check_ok (w.alloc (.cells (cfC c) 23)) c
  rw [ho, if_pos rfl] at K1
  clear h ho
  go_enter Try.func7, Try.ntmps7
  go_wp2_with (first | (refine wpList_gload_run rfl 23 _ rfl _ _ rfl HL.out ?_) | fail)
  refine K1.mono ?_
  rintro e w1 ⟨rfl, hb⟩
  have H1 : Hid (Cfg w w.heap.size c w1) := H0.out.step hb
  have p0 := H1.out.own.c0
  have HL2 : Hid ((Instr.loadAt 23 (.pointer (some ⟨w.heap.size, 0, none⟩))).run Try.prog w1 = .ok (.agg (cfC c)) w1) := H1.out.own.loads
  have HBd : Hid (∀ W, (Instr.build 64 [(0, .agg (cfC c)), (1, .int .i64 i), (2, .map (some w1.heap.size))].toArray).run Try.prog W = .ok (.agg (brL (newT c i) w1.heap.size).toArray) W) := fun W => buildTb c i w1.heap.size W
  have hmm := @run_makeMap Try.prog
  clear K1 HL H0 hb
  go_wp2_with (first | (refine wpList_gload_run rfl 23 _ rfl _ _ rfl HL2.out ?_) | (refine wpList_build_run rfl 64 _ rfl _ _ rfl (HBd.out _) ?_) | fail)
  go_ret2
  have hb1 : Below w1.heap.size w1 (w1.alloc (.map #[] 0)) := Go.Joins.below_alloc1 _ _
  have hM : MapAt (w1.alloc (.map #[] 0)) w1.heap.size 0 (fun _ => none) := MapAt.new w1
  have hb2 : Below (w1.alloc (.map #[] 0)).heap.size (w1.alloc (.map #[] 0)) ((w1.alloc (.map #[] 0)).alloc (.cells (brL (newT c i) w1.heap.size).toArray 64)) := Go.Joins.below_alloc1 _ _
  have hs1 : w.heap.size ≤ w1.heap.size := H1.out.bel.size
  have e1 : (w1.alloc (.map #[] 0)).heap.size = w1.heap.size + 1 := by simp
  have hG := heap_alloc_new (w1.alloc (.map #[] 0)) (.cells (brL (newT c i) w1.heap.size).toArray 64)
  rw [e1] at hG
  refine ⟨w1.heap.size + 1, w1.heap.size, rfl, ⟨hG, hM.keep (hb2.block _ hM.lt)⟩, ?_, hs1, ?_⟩
  · omega
  · exact (H1.out.bel.alloc hs1 _).alloc (Nat.le_trans hs1 hb1.size) _

set_option maxHeartbeats 1600000 in
set_option maxRecDepth 20000 in
theorem new_no (w : World) (c : Cf) (i : Int) (h : nodeB c i = false) : Calls Try.prog 7 #[.agg (cfC c), .int .i64 i] w fun e w' => e = .returned (.tuple #[.pointer none, .int .i64 1]) ∧ Below w.heap.size w w' := by
  have H0 : Hid (Cfg w w.heap.size c (w.alloc (.cells (cfC c) 23))) := Cfg.new w c
  have HL : Hid ((Instr.loadAt 23 (.pointer (some ⟨w.heap.size, 0, none⟩))).run Try.prog (w.alloc (.cells (cfC c) 23)) = .ok (.agg (cfC c)) (w.alloc (.cells (cfC c) 23))) := H0.out.own.loads
  have K1 := check_ok (w.alloc (.cells (cfC c) 23)) c
  cases ho : okB c
  · rw [ho, if_neg Bool.false_ne_true] at K1
    clear h ho
    go_enter Try.func7, Try.ntmps7
    go_wp2_with (first | (refine wpList_gload_run rfl 23 _ rfl _ _ rfl HL.out ?_) | fail)
    refine K1.mono ?_
    rintro e w1 ⟨rfl, hb⟩
    have H1 : Hid (Cfg w w.heap.size c w1) := H0.out.step hb
    clear K1 HL H0 hb
    go_wp2
    go_ret2
    exact ⟨rfl, H1.out.bel⟩
  · rw [ho, if_pos rfl] at K1
    by_cases i0 : i < 0
    · clear h ho
      go_enter Try.func7, Try.ntmps7
      go_wp2_with (first | (refine wpList_gload_run rfl 23 _ rfl _ _ rfl HL.out ?_) | fail)
      refine K1.mono ?_
      rintro e w1 ⟨rfl, hb⟩
      have H1 : Hid (Cfg w w.heap.size c w1) := H0.out.step hb
      clear K1 HL H0 hb
      go_wp2
      go_ret2
      exact ⟨rfl, H1.out.bel⟩
    · have i1 : c.n ≤ i := by
        simp only [nodeB, ho, Bool.true_and, decide_eq_false_iff_not] at h
        omega
      clear h ho
      go_enter Try.func7, Try.ntmps7
      go_wp2_with (first | (refine wpList_gload_run rfl 23 _ rfl _ _ rfl HL.out ?_) | fail)
      refine K1.mono ?_
      rintro e w1 ⟨rfl, hb⟩
      have H1 : Hid (Cfg w w.heap.size c w1) := H0.out.step hb
      have p0 := H1.out.own.c0
      clear K1 HL H0 hb
      go_wp2
      go_ret2
      exact ⟨rfl, H1.out.bel⟩

theorem clear_no (w : World) (p : Value) (h : NoB w p) : Calls Try.prog 10 #[p] w fun e w' => e = .returned (.tuple #[]) ∧ w' = w := by
  have hs := made_no w p h
  clear h
  go_enter Try.func10, Try.ntmps10
  go_wp2_with fail
  refine hs.mono ?_
  rintro e w1 ⟨rfl, rfl⟩
  go_wp2
  go_end0
  exact ⟨rfl, rfl⟩
theorem clear_ok (w : World) (g m : Nat) (v : Bt) (n : Nat) (h : Bd w g m v n) : Calls Try.prog 10 #[.pointer (some ⟨g, 0, none⟩)] w fun e w' => e = .returned (.tuple #[]) ∧ Bd w' g m (clrT v) n ∧ Apart (fun k => k = m) w w' := by
  have hs := made_ok w g m h.at'.known
  have c11 := h.at'.known
  obtain ⟨w', hrun, h1, h2, h3⟩ := h.map.clear 0
  have HE : Hid (Bd w' g m (clrT v) n ∧ Apart (fun k => k = m) w w') := ⟨⟨h.at'.keep (h2.block g h.at'.lt h.gm), h1⟩, h2⟩
  clear h h1 h2 h3
  go_enter Try.func10, Try.ntmps10
  go_wp2_with fail
  refine hs.mono ?_
  rintro e w1 ⟨rfl, rfl⟩
  go_wp2
  go_end0
  exact ⟨rfl, HE.out⟩
end Go.Proofs.Ytoibndfiolipbaa
