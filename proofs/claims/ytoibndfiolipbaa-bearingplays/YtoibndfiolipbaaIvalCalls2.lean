/-
  The contracts of Holds, Inside and Grow, of the program and of the document, and of awake.
-/
import Derived.Test.YtoibndfiolipbaaIvalCalls
import Derived.Test.YtoibndfiolipbaaRateRef
namespace Go.Proofs.Ytoibndfiolipbaa
open Go.ChangeShapes Go.WideShapes Go.ChangeAt Go.RowKit

def growV (a b t d : Int) : Value := if mayB t d = true ∧ rightB a b = true then makeV (a - spreadN t d) (b + spreadN t d) else errV 1


set_option maxHeartbeats 1600000 in
set_option maxRecDepth 20000 in
theorem holds_ok (w : World) (a b n : Int) :
    Calls Try.prog 25 #[.agg #[.int .i64 a, .int .i64 b], .int .i64 n] w fun e w' => e = .returned (.bool (holdsB a b n)) ∧ Below w.heap.size w w' := by
  have K1 : Hid (∀ W, Calls Try.prog 31 #[.agg #[.int .i64 a, .int .i64 b]] W fun e w' => e = .returned (.bool (rightB a b)) ∧ Below W.heap.size W w') := fun W => isright_ok W a b
  have K2 : Hid (∀ W, Calls Try.prog 43 #[.agg #[.int .i64 n, .int .i64 n], .agg #[.int .i64 a, .int .i64 b]] W fun e w' => e = .returned (.bool (liesB n n a b)) ∧ Below W.heap.size W w') := fun W => lies_ok W n n a b
  cases h1 : rightB a b
  · rw [h1] at K1
    rw [holdsB_of_not h1]
    clear h1 K2
    go_enter Try.func25, Try.ntmps25
    go_wp2_with fail
    refine (K1.out _).mono ?_
    rintro e w1 ⟨rfl, hb⟩
    clear K1
    obtain ⟨P2, bel⟩ := boxes1 hb
    clear hb P2
    go_wp2
    go_ret
    exact ⟨rfl, bel⟩
  · rw [h1] at K1
    rw [holdsB_eq h1]
    rw [liesB] at K2
    generalize decide (a ≤ n ∧ n ≤ b) = r at *
    clear h1
    go_enter Try.func25, Try.ntmps25
    go_wp2_with fail
    refine (K1.out _).mono ?_
    rintro e w1 ⟨rfl, hb⟩
    clear K1
    obtain ⟨P2, bel⟩ := boxes1 hb
    obtain ⟨x0, x1, x2, x3⟩ := P2.facts
    clear hb P2
    go_wp2_with fail
    refine (K2.out _).mono ?_
    rintro e w2 ⟨rfl, hb⟩
    clear K2
    go_wp2
    go_ret
    exact ⟨rfl, bel.trans (hb.mono bel.size)⟩

set_option maxHeartbeats 1600000 in
set_option maxRecDepth 20000 in
theorem inside_ok (w : World) (a b n : Int) (hn : n ≤ 9223372036854775807) :
    Calls Try.prog 26 #[.agg #[.int .i64 a, .int .i64 b], .int .i64 n] w fun e w' => e = .returned (.bool (insideB a b n)) ∧ Below w.heap.size w w' := by
  have K1 : Hid (∀ W, Calls Try.prog 31 #[.agg #[.int .i64 a, .int .i64 b]] W fun e w' => e = .returned (.bool (rightB a b)) ∧ Below W.heap.size W w') := fun W => isright_ok W a b
  have K2 : Hid (∀ W, Calls Try.prog 43 #[.agg #[.int .i64 a, .int .i64 b], .agg #[.int .i64 (-n), .int .i64 n]] W fun e w' => e = .returned (.bool (liesB a b (-n) n)) ∧ Below W.heap.size W w') := fun W => lies_ok W a b _ _
  unfold insideB
  cases h1 : rightB a b
  · rw [h1] at K1
    clear h1 K2
    rw [Bool.false_and]
    go_enter Try.func26, Try.ntmps26
    go_wp2_with fail
    refine (K1.out _).mono ?_
    rintro e w1 ⟨rfl, hb⟩
    clear K1
    obtain ⟨P2, bel⟩ := boxes1 hb
    clear hb P2
    go_wp2
    go_ret
    exact ⟨rfl, bel⟩
  · rw [h1] at K1
    clear h1
    rw [Bool.true_and]
    by_cases g1 : 0 ≤ n
    · have e1 : decide (0 ≤ n ∧ -n ≤ a ∧ b ≤ n) = liesB a b (-n) n := by unfold liesB; simp only [g1, true_and]
      rw [e1]
      have e2 : IntKind.i64.wrap (-n) = -n := by rw [IntKind.wrap_i64]; omega
      generalize liesB a b (-n) n = r at *
      obtain ⟨m, hm⟩ : ∃ m, m = -n := ⟨_, rfl⟩
      rw [← hm] at K2 e2
      rw [hm] at e2
      rw [← hm] at e2
      have e3 : IntKind.i64.wrap (-n) = m := by rw [hm]; rw [hm] at e2; exact e2
      clear e1 e2 hm
      go_enter Try.func26, Try.ntmps26
      go_wp2_with fail
      refine (K1.out _).mono ?_
      rintro e w1 ⟨rfl, hb⟩
      clear K1
      obtain ⟨P2, bel⟩ := boxes1 hb
      obtain ⟨x0, x1, x2, x3⟩ := P2.facts
      clear hb P2
      go_wp2_with fail
      refine (K2.out _).mono ?_
      rintro e w2 ⟨rfl, hb⟩
      clear K2
      go_wp2
      go_ret
      exact ⟨rfl, bel.trans (hb.mono bel.size)⟩
    · rw [show decide (0 ≤ n ∧ -n ≤ a ∧ b ≤ n) = false by simp [g1]]
      clear K2
      go_enter Try.func26, Try.ntmps26
      go_wp2_with fail
      refine (K1.out _).mono ?_
      rintro e w1 ⟨rfl, hb⟩
      clear K1
      obtain ⟨P2, bel⟩ := boxes1 hb
      clear hb P2
      go_wp2
      go_ret
      exact ⟨rfl, bel⟩

set_option maxHeartbeats 1600000 in
set_option maxRecDepth 20000 in
theorem refinside_ok (w : World) (a b n : Int) (hn : n ≤ 9223372036854775807) :
    Calls Try.prog 42 #[.agg #[.int .i64 a, .int .i64 b], .int .i64 n] w fun e w' => e = .returned (.bool (insideB a b n)) ∧ Below w.heap.size w w' := by
  have K1 : Hid (∀ W, Calls Try.prog 35 #[.agg #[.int .i64 a, .int .i64 b]] W fun e w' => e = .returned (.bool (rightB a b)) ∧ Below W.heap.size W w') := fun W => refright_ok W a b
  unfold insideB
  cases h1 : rightB a b
  · rw [h1] at K1
    clear h1
    rw [Bool.false_and]
    go_enter Try.func42, Try.ntmps42
    go_wp2_with fail
    refine (K1.out _).mono ?_
    rintro e w1 ⟨rfl, hb⟩
    clear K1
    obtain ⟨P2, bel⟩ := boxes1 hb
    clear hb P2
    go_wp2
    go_ret
    exact ⟨rfl, bel⟩
  · rw [h1] at K1
    have hr := rightB_true h1
    clear h1
    rw [Bool.true_and]
    have e3 : 0 ≤ n → IntKind.i64.wrap (-n) = -n := by intro _; rw [IntKind.wrap_i64]; omega
    have fin : ∀ r : Bool, r = decide (0 ≤ n ∧ -n ≤ a ∧ b ≤ n) → (0 ≤ n → b ≤ n → (1099511627776 < n ∨ ¬ 1099511627776 < n)) := by intros; omega
    by_cases g1 : 0 ≤ n
    · have e4 := e3 g1
      clear e3 fin
      by_cases g2 : b ≤ n
      · by_cases g3 : 1099511627776 < n
        · rw [show decide (0 ≤ n ∧ -n ≤ a ∧ b ≤ n) = true by simp; omega]
          clear hr
          go_enter Try.func42, Try.ntmps42
          go_wp2_with fail
          refine (K1.out _).mono ?_
          rintro e w1 ⟨rfl, hb⟩
          clear K1
          obtain ⟨P2, bel⟩ := boxes1 hb
          obtain ⟨x0, x1, x2, x3⟩ := P2.facts
          clear hb P2
          go_wp2
          go_ret
          exact ⟨by first | rfl | (simp; done) | (simp; omega), bel⟩
        · by_cases g4 : -n ≤ a
          · rw [show decide (0 ≤ n ∧ -n ≤ a ∧ b ≤ n) = true by simp; omega]
            clear hr
            go_enter Try.func42, Try.ntmps42
            go_wp2_with fail
            refine (K1.out _).mono ?_
            rintro e w1 ⟨rfl, hb⟩
            clear K1
            obtain ⟨P2, bel⟩ := boxes1 hb
            obtain ⟨x0, x1, x2, x3⟩ := P2.facts
            clear hb P2
            go_wp2
            go_ret
            exact ⟨by first | rfl | (simp; done) | (simp; omega), bel⟩
          · rw [show decide (0 ≤ n ∧ -n ≤ a ∧ b ≤ n) = false by simp; omega]
            clear hr
            go_enter Try.func42, Try.ntmps42
            go_wp2_with fail
            refine (K1.out _).mono ?_
            rintro e w1 ⟨rfl, hb⟩
            clear K1
            obtain ⟨P2, bel⟩ := boxes1 hb
            obtain ⟨x0, x1, x2, x3⟩ := P2.facts
            clear hb P2
            go_wp2
            go_ret
            exact ⟨by first | rfl | (simp; done) | (simp; omega), bel⟩
      · rw [show decide (0 ≤ n ∧ -n ≤ a ∧ b ≤ n) = false by simp; omega]
        clear hr
        go_enter Try.func42, Try.ntmps42
        go_wp2_with fail
        refine (K1.out _).mono ?_
        rintro e w1 ⟨rfl, hb⟩
        clear K1
        obtain ⟨P2, bel⟩ := boxes1 hb
        obtain ⟨x0, x1, x2, x3⟩ := P2.facts
        clear hb P2
        go_wp2
        go_ret
        exact ⟨by first | rfl | (simp; done) | (simp; omega), bel⟩
    · rw [show decide (0 ≤ n ∧ -n ≤ a ∧ b ≤ n) = false by simp [g1]]
      clear hr e3 fin
      go_enter Try.func42, Try.ntmps42
      go_wp2_with fail
      refine (K1.out _).mono ?_
      rintro e w1 ⟨rfl, hb⟩
      clear K1
      obtain ⟨P2, bel⟩ := boxes1 hb
      clear hb P2
      go_wp2
      go_ret
      exact ⟨rfl, bel⟩

set_option maxHeartbeats 1600000 in
set_option maxRecDepth 20000 in
theorem grow_ok (w : World) (a b t d : Int) :
    Calls Try.prog 38 #[.agg #[.int .i64 a, .int .i64 b], .int .i64 t, .int .i64 d] w fun e w' => e = .returned (growV a b t d) ∧ Below w.heap.size w w' := by
  have K0 : Hid (∀ W, Calls Try.prog 52 #[.int .i64 t, .int .i64 d] W fun e w' => e = .returned (ansN t d (spreadN t d)) ∧ w' = W) := fun W => spread_ok W t d
  have K1 : Hid (∀ W, Calls Try.prog 31 #[.agg #[.int .i64 a, .int .i64 b]] W fun e w' => e = .returned (.bool (rightB a b)) ∧ Below W.heap.size W w') := fun W => isright_ok W a b
  have K2 : Hid (∀ W, Calls Try.prog 53 #[.int .i64 (a - spreadN t d), .int .i64 (b + spreadN t d)] W fun e w' => e = .returned (makeV (a - spreadN t d) (b + spreadN t d)) ∧ Below W.heap.size W w') := fun W => make_ok W _ _
  have HA : Hid (Pair ((w.alloc (.cells #[.int .i64 a, .int .i64 b] 39)).alloc (.cells #[.int .i64 0, .int .i64 0] 39)) (w.heap.size + 1) 0 0) := by
    have := Pair.new (w.alloc (.cells #[.int .i64 a, .int .i64 b] 39)) 0 0
    show Pair _ _ _ _
    simpa using this
  unfold growV
  rw [ansN] at K0
  by_cases hm : mayB t d = true
  · rw [if_pos hm] at K0
    cases h1 : rightB a b
    · rw [h1] at K1
      rw [if_neg (by simp)]
      clear h1 K2 hm
      generalize spreadN t d = s at *
      go_enter Try.func38, Try.ntmps38
      go_wp2_with fail
      refine (K0.out _).mono ?_
      rintro e w0 ⟨rfl, rfl⟩
      clear K0
      go_wp2_with fail
      refine (K1.out _).mono ?_
      rintro e w1 ⟨rfl, hb⟩
      clear K1
      obtain ⟨P2, P4, bel⟩ := boxes2 hb
      clear hb HA
      obtain ⟨x0, x1, x2, x3⟩ := P4.facts
      have HP : Hid (Pair w1 (w.heap.size + 1) 0 0) := P4
      clear P2 P4
      go_wp2
      refine bodyPost_ret (res_pair_tmp rfl rfl (HP.out.set _ _)) rfl ?_
      exact ⟨rfl, below_pair bel (by omega) _ _⟩
    · rw [h1] at K1
      rw [if_pos ⟨hm, rfl⟩]
      obtain ⟨m0, m1, m2, m3⟩ := mayB_true hm
      have hr := rightB_true h1
      have hs := spread_most (a := t) m0 m1 m2
      have hs0 := spread_nonneg (a := t) m0 m1 m2
      have hs1 := most_le3 (a := t) m0 m1 m2
      generalize spreadN t d = s at *
      obtain ⟨u, hu⟩ : ∃ u, u = a - s := ⟨_, rfl⟩
      obtain ⟨v, hv⟩ : ∃ v, v = b + s := ⟨_, rfl⟩
      rw [← hu, ← hv] at K2 ⊢
      have e1 : IntKind.i64.wrap (a - s) = u := by rw [hu, IntKind.wrap_i64]; omega
      have e2 : IntKind.i64.wrap (b + s) = v := by rw [hv, IntKind.wrap_i64]; omega
      unfold makeV at K2 ⊢
      clear hs hs0 hs1 hu hv hr h1 hm m0 m1 m2 m3
      cases h4 : rightB u v
      all_goals
        rw [h4] at K2
        first | rw [if_pos rfl] at K2 ⊢ | rw [if_neg Bool.false_ne_true] at K2 ⊢
        first | rw [okV] at K2 | rw [errV] at K2
        clear h4
        go_enter Try.func38, Try.ntmps38
        go_wp2_with fail
        refine (K0.out _).mono ?_
        rintro e w0 ⟨rfl, rfl⟩
        clear K0
        go_wp2_with fail
        refine (K1.out _).mono ?_
        rintro e w1 ⟨rfl, hb⟩
        clear K1
        obtain ⟨P2, P4, bel⟩ := boxes2 hb
        clear hb HA
        obtain ⟨y0, y1, y2, y3⟩ := P2.facts
        have HP : Hid (Pair w1 (w.heap.size + 1) 0 0) := P4
        clear P2 P4
        go_wp2_with fail
        refine (K2.out _).mono ?_
        rintro e w2 ⟨rfl, hb⟩
        clear K2 y0 y1 y2 y3
        have HR : Hid (Pair w2 (w.heap.size + 1) 0 0) := HP.out.below hb
        have bel3 := bel.trans (hb.mono bel.size)
        obtain ⟨x0, x1, x2, x3⟩ := HR.out.facts
        clear HP hb bel
        go_wp2
        refine bodyPost_ret (res_pair_tmp rfl rfl (HR.out.set _ _)) rfl ?_
        exact ⟨rfl, below_pair bel3 (by omega) _ _⟩
  · rw [if_neg hm] at K0
    rw [if_neg (fun h => hm h.1)]
    clear hm K1 K2
    go_enter Try.func38, Try.ntmps38
    go_wp2_with fail
    refine (K0.out _).mono ?_
    rintro e w0 ⟨rfl, rfl⟩
    clear K0
    go_wp2
    refine bodyPost_ret (res_pair_tmp rfl rfl HA.out) rfl ?_
    exact ⟨rfl, Go.Joins.below_alloc2 _ _ _⟩

set_option maxHeartbeats 1600000 in
set_option maxRecDepth 20000 in
theorem refgrow_ok (w : World) (a b t d : Int) :
    Calls Try.prog 40 #[.agg #[.int .i64 a, .int .i64 b], .int .i64 t, .int .i64 d] w fun e w' => e = .returned (growV a b t d) ∧ Below w.heap.size w w' := by
  have K0 : Hid (∀ W, Calls Try.prog 55 #[.int .i64 t, .int .i64 d] W fun e w' => e = .returned (ansN t d (spreadN t d)) ∧ w' = W) := fun W => refspread_ok W t d
  have K1 : Hid (∀ W, Calls Try.prog 35 #[.agg #[.int .i64 a, .int .i64 b]] W fun e w' => e = .returned (.bool (rightB a b)) ∧ Below W.heap.size W w') := fun W => refright_ok W a b
  have K2 : Hid (∀ W, Calls Try.prog 50 #[.int .i64 (a - spreadN t d), .int .i64 (b + spreadN t d)] W fun e w' => e = .returned (makeV (a - spreadN t d) (b + spreadN t d)) ∧ Below W.heap.size W w') := fun W => refmake_ok W _ _
  have HA : Hid (Pair ((w.alloc (.cells #[.int .i64 a, .int .i64 b] 39)).alloc (.cells #[.int .i64 0, .int .i64 0] 39)) (w.heap.size + 1) 0 0) := by
    have := Pair.new (w.alloc (.cells #[.int .i64 a, .int .i64 b] 39)) 0 0
    show Pair _ _ _ _
    simpa using this
  unfold growV
  rw [ansN] at K0
  by_cases hm : mayB t d = true
  · rw [if_pos hm] at K0
    cases h1 : rightB a b
    · rw [h1] at K1
      rw [if_neg (by simp)]
      clear h1 K2 hm
      generalize spreadN t d = s at *
      go_enter Try.func40, Try.ntmps40
      go_wp2_with fail
      refine (K0.out _).mono ?_
      rintro e w0 ⟨rfl, rfl⟩
      clear K0
      go_wp2_with fail
      refine (K1.out _).mono ?_
      rintro e w1 ⟨rfl, hb⟩
      clear K1
      obtain ⟨P2, P4, bel⟩ := boxes2 hb
      clear hb HA
      obtain ⟨x0, x1, x2, x3⟩ := P4.facts
      have HP : Hid (Pair w1 (w.heap.size + 1) 0 0) := P4
      clear P2 P4
      go_wp2
      refine bodyPost_ret (res_pair_tmp rfl rfl (HP.out.set _ _)) rfl ?_
      exact ⟨rfl, below_pair bel (by omega) _ _⟩
    · rw [h1] at K1
      rw [if_pos ⟨hm, rfl⟩]
      obtain ⟨m0, m1, m2, m3⟩ := mayB_true hm
      have hr := rightB_true h1
      have hs := spread_most (a := t) m0 m1 m2
      have hs0 := spread_nonneg (a := t) m0 m1 m2
      have hs1 := most_le3 (a := t) m0 m1 m2
      generalize spreadN t d = s at *
      obtain ⟨u, hu⟩ : ∃ u, u = a - s := ⟨_, rfl⟩
      obtain ⟨v, hv⟩ : ∃ v, v = b + s := ⟨_, rfl⟩
      rw [← hu, ← hv] at K2 ⊢
      have e1 : IntKind.i64.wrap (a - s) = u := by rw [hu, IntKind.wrap_i64]; omega
      have e2 : IntKind.i64.wrap (b + s) = v := by rw [hv, IntKind.wrap_i64]; omega
      unfold makeV at K2 ⊢
      clear hs hs0 hs1 hu hv hr h1 hm m0 m1 m2 m3
      cases h4 : rightB u v
      all_goals
        rw [h4] at K2
        first | rw [if_pos rfl] at K2 ⊢ | rw [if_neg Bool.false_ne_true] at K2 ⊢
        first | rw [okV] at K2 | rw [errV] at K2
        clear h4
        go_enter Try.func40, Try.ntmps40
        go_wp2_with fail
        refine (K0.out _).mono ?_
        rintro e w0 ⟨rfl, rfl⟩
        clear K0
        go_wp2_with fail
        refine (K1.out _).mono ?_
        rintro e w1 ⟨rfl, hb⟩
        clear K1
        obtain ⟨P2, P4, bel⟩ := boxes2 hb
        clear hb HA
        obtain ⟨y0, y1, y2, y3⟩ := P2.facts
        have HP : Hid (Pair w1 (w.heap.size + 1) 0 0) := P4
        clear P2 P4
        go_wp2_with fail
        refine (K2.out _).mono ?_
        rintro e w2 ⟨rfl, hb⟩
        clear K2 y0 y1 y2 y3
        have HR : Hid (Pair w2 (w.heap.size + 1) 0 0) := HP.out.below hb
        have bel3 := bel.trans (hb.mono bel.size)
        obtain ⟨x0, x1, x2, x3⟩ := HR.out.facts
        clear HP hb bel
        go_wp2
        refine bodyPost_ret (res_pair_tmp rfl rfl (HR.out.set _ _)) rfl ?_
        exact ⟨rfl, below_pair bel3 (by omega) _ _⟩
  · rw [if_neg hm] at K0
    rw [if_neg (fun h => hm h.1)]
    clear hm K1 K2
    go_enter Try.func40, Try.ntmps40
    go_wp2_with fail
    refine (K0.out _).mono ?_
    rintro e w0 ⟨rfl, rfl⟩
    clear K0
    go_wp2
    refine bodyPost_ret (res_pair_tmp rfl rfl HA.out) rfl ?_
    exact ⟨rfl, Go.Joins.below_alloc2 _ _ _⟩
end Go.Proofs.Ytoibndfiolipbaa
