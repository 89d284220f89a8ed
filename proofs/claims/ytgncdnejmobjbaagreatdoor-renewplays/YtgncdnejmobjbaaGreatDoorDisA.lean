/-
  The contracts of disclose.isRound, isKey, since, Index, Told, Over and of the statements' awake.
  The contracts of disclose.When and Secret.
-/
import Derived.Test.YtgncdnejmobjbaaGreatDoorPureB
import Derived.Test.YtgncdnejmobjbaaGreatDoorSchedC
namespace Go.Proofs.YtgncdnejmobjbaaGreatDoor
open Go.ChangeShapes Go.WideShapes Go.ChangeAt Go.RowKit
set_option maxRecDepth 20000

def two (a b : Int) : Value := .tuple #[.int .i64 a, .int .i64 b]
def sinV (c : Cf) (st r : Int) : Value := if sinB c st r = true then .tuple #[.int .i64 (r - st), .int .i64 0] else .tuple #[.int .i64 0, .int .i64 1]
def idxV (c : Cf) (st r : Int) : Value := if sinB c st r = true then (if keyB c (r - st) = true then .tuple #[.int .i64 (r - st), .int .i64 0] else .tuple #[.int .i64 0, .int .i64 6]) else .tuple #[.int .i64 0, .int .i64 1]
def tolV (c : Cf) (st r : Int) : Value := if sinB c st r = true then (if 1 ≤ r - st then .tuple #[.int .i64 (tolN c (r - st)), .int .i64 0] else .tuple #[.int .i64 0, .int .i64 6]) else .tuple #[.int .i64 0, .int .i64 1]

theorem isround_ok (w : World) (n : Int) : Calls Tryz.prog 61 #[.int .i64 n] w fun e w' => e = .returned (.bool (roundB n)) ∧ w' = w := by
  by_cases h0 : 0 ≤ n
  · have hN : roundB n = decide (n < 1048576) := by simp [roundB, h0]
    rw [hN]
    clear hN
    by_cases h1 : n < 1048576
    all_goals
      simp only [h1, decide_true, decide_false]
      go_enter Tryz.func61, Tryz.ntmps61
      go_wp2
      go_ret
      exact ⟨by first | rfl | (simp; done) | (simp; omega), rfl⟩
  · rw [show roundB n = false by simp [roundB, h0]]
    go_enter Tryz.func61, Tryz.ntmps61
    go_wp2
    go_ret
    exact ⟨by first | rfl | (simp; done) | (simp; omega), rfl⟩
theorem iskey_ok (w : World) (c : Cf) (i : Int) : Calls Tryz.prog 56 #[.agg (cfC c), .int .i64 i] w fun e w' => e = .returned (.bool (keyB c i)) ∧ Below w.heap.size w w' := by
  have H0 : Hid (Cfg w w.heap.size c (w.alloc (.cells (cfC c) 23))) := Cfg.new w c
  have p4 := H0.out.own.c4
  by_cases h0 : 1 ≤ i
  · have hN : keyB c i = decide (i ≤ c.k) := by simp [keyB, h0]
    rw [hN]
    clear hN
    by_cases h1 : i ≤ c.k
    all_goals
      simp only [h1, decide_true, decide_false]
      go_enter Tryz.func56, Tryz.ntmps56
      go_wp2
      go_ret
      exact ⟨by first | rfl | (simp; done) | (simp; omega), H0.out.bel⟩
  · rw [show keyB c i = false by simp [keyB, h0]]
    go_enter Tryz.func56, Tryz.ntmps56
    go_wp2
    go_ret
    exact ⟨by first | rfl | (simp; done) | (simp; omega), H0.out.bel⟩

theorem isslot_ok (w : World) (c : Cf) (sl : Int) : Calls Tryz.prog 62 #[.agg (cfC c), .int .i64 sl] w fun e w' => e = .returned (.bool (sltB c sl)) ∧ Below w.heap.size w w' := by
  have H0 : Hid (Cfg w w.heap.size c (w.alloc (.cells (cfC c) 23))) := Cfg.new w c
  have p4 := H0.out.own.c0
  by_cases h0 : 0 ≤ sl
  · have hN : sltB c sl = decide (sl < c.n) := by simp [sltB, h0]
    rw [hN]
    clear hN
    by_cases h1 : sl < c.n
    all_goals
      simp only [h1, decide_true, decide_false]
      go_enter Tryz.func62, Tryz.ntmps62
      go_wp2
      go_ret
      exact ⟨by first | rfl | (simp; done) | (simp; omega), H0.out.bel⟩
  · rw [show sltB c sl = false by simp [sltB, h0]]
    go_enter Tryz.func62, Tryz.ntmps62
    go_wp2
    go_ret
    exact ⟨by first | rfl | (simp; done) | (simp; omega), H0.out.bel⟩

set_option maxHeartbeats 1600000 in
set_option maxRecDepth 20000 in
theorem since_ok (w : World) (c : Cf) (st r : Int) : Calls Tryz.prog 55 #[.agg (cfC c), .int .i64 st, .int .i64 r] w fun e w' => e = .returned (sinV c st r) ∧ Below w.heap.size w w' := by
  have HL : Hid ((Instr.loadAt 23 (.pointer (some ⟨w.heap.size, 0, none⟩))).run Tryz.prog (w.alloc (.cells (cfC c) 23)) = .ok (.agg (cfC c)) (w.alloc (.cells (cfC c) 23))) := (CfAt.new w c).loads
  have K1 := scheck_ok (w.alloc (.cells (cfC c) 23)) c
  have H0 : Hid (Cfg w w.heap.size c (w.alloc (.cells (cfC c) 23))) := Cfg.new w c
  have K2 := fun W => isround_ok W st
  have K3 := fun W => isround_ok W r
  cases ho : okB c
  case false =>
    rw [ho, if_neg Bool.false_ne_true] at K1
    rw [sinV, if_neg (by simp [sinB, ho])]
    clear ho K2 K3
    go_enter Tryz.func55, Tryz.ntmps55
    go_wp2_with (first | (refine wpList_gload_run rfl 23 _ rfl _ _ rfl HL.out ?_) | fail)
    refine K1.mono ?_
    rintro e w1 ⟨rfl, hb⟩
    have H1 : Hid (Cfg w w.heap.size c w1) := H0.out.step hb
    clear K1 HL H0 hb
    go_wp2
    go_ret2
    exact ⟨rfl, H1.out.bel⟩
  rw [ho, if_pos rfl] at K1
  cases h2 : roundB st
  case false =>
    rw [h2] at K2
    have K2' : Hid (∀ W, Calls Tryz.prog 61 #[.int .i64 st] W fun e w' => e = .returned (.bool false) ∧ w' = W) := K2
    rw [sinV, if_neg (by simp [sinB, h2])]
    clear ho h2 K2 K3
    go_enter Tryz.func55, Tryz.ntmps55
    go_wp2_with (first | (refine wpList_gload_run rfl 23 _ rfl _ _ rfl HL.out ?_) | fail)
    refine K1.mono ?_
    rintro e w1 ⟨rfl, hb⟩
    have H1 : Hid (Cfg w w.heap.size c w1) := H0.out.step hb
    clear K1 HL H0 hb
    go_wp2_with fail
    refine (K2'.out _).mono ?_
    rintro e w2 ⟨rfl, rfl⟩
    clear K2'
    go_wp2
    go_ret2
    exact ⟨rfl, H1.out.bel⟩
  rw [h2] at K2
  have K2' : Hid (∀ W, Calls Tryz.prog 61 #[.int .i64 st] W fun e w' => e = .returned (.bool true) ∧ w' = W) := K2
  cases h3 : roundB r
  case false =>
    rw [h3] at K3
    have K3' : Hid (∀ W, Calls Tryz.prog 61 #[.int .i64 r] W fun e w' => e = .returned (.bool false) ∧ w' = W) := K3
    rw [sinV, if_neg (by simp [sinB, h3])]
    clear ho h2 h3 K2 K3
    go_enter Tryz.func55, Tryz.ntmps55
    go_wp2_with (first | (refine wpList_gload_run rfl 23 _ rfl _ _ rfl HL.out ?_) | fail)
    refine K1.mono ?_
    rintro e w1 ⟨rfl, hb⟩
    have H1 : Hid (Cfg w w.heap.size c w1) := H0.out.step hb
    clear K1 HL H0 hb
    go_wp2_with fail
    refine (K2'.out _).mono ?_
    rintro e w2 ⟨rfl, rfl⟩
    clear K2'
    go_wp2_with fail
    refine (K3'.out _).mono ?_
    rintro e w3 ⟨rfl, rfl⟩
    clear K3'
    go_wp2
    go_ret2
    exact ⟨rfl, H1.out.bel⟩
  rw [h3] at K3
  have K3' : Hid (∀ W, Calls Tryz.prog 61 #[.int .i64 r] W fun e w' => e = .returned (.bool true) ∧ w' = W) := K3
  have hs : sinB c st r = true := by simp [sinB, ho, h2, h3]
  rw [sinV, if_pos hs]
  obtain ⟨_, hst, hr⟩ := sin_in hs
  obtain ⟨A, hA⟩ : ∃ A, A = r - st := ⟨_, rfl⟩
  have e1 : IntKind.i64.wrap (r - st) = A := by rw [hA]; exact wrap_in (by omega) (by omega)
  rw [← hA]
  clear ho h2 h3 K2 K3 hs hst hr hA
  go_enter Tryz.func55, Tryz.ntmps55
  go_wp2_with (first | (refine wpList_gload_run rfl 23 _ rfl _ _ rfl HL.out ?_) | fail)
  refine K1.mono ?_
  rintro e w1 ⟨rfl, hb⟩
  have H1 : Hid (Cfg w w.heap.size c w1) := H0.out.step hb
  clear K1 HL H0 hb
  go_wp2_with fail
  refine (K2'.out _).mono ?_
  rintro e w2 ⟨rfl, rfl⟩
  clear K2'
  go_wp2_with fail
  refine (K3'.out _).mono ?_
  rintro e w3 ⟨rfl, rfl⟩
  clear K3'
  go_wp2
  go_ret2
  exact ⟨rfl, H1.out.bel⟩

set_option maxHeartbeats 1600000 in
set_option maxRecDepth 20000 in
theorem dindex_ok (w : World) (c : Cf) (st r : Int) : Calls Tryz.prog 30 #[.agg (cfC c), .int .i64 st, .int .i64 r] w fun e w' => e = .returned (idxV c st r) ∧ Below w.heap.size w w' := by
  have HL : Hid ((Instr.loadAt 23 (.pointer (some ⟨w.heap.size, 0, none⟩))).run Tryz.prog (w.alloc (.cells (cfC c) 23)) = .ok (.agg (cfC c)) (w.alloc (.cells (cfC c) 23))) := (CfAt.new w c).loads
  have K1 := since_ok (w.alloc (.cells (cfC c) 23)) c st r
  have H0 : Hid (Cfg w w.heap.size c (w.alloc (.cells (cfC c) 23))) := Cfg.new w c
  have K2 := fun W => iskey_ok W c (r - st)
  unfold sinV at K1
  unfold idxV
  cases hs : sinB c st r
  case false =>
    rw [hs, if_neg Bool.false_ne_true] at K1
    rw [if_neg Bool.false_ne_true]
    clear hs K2
    go_enter Tryz.func30, Tryz.ntmps30
    go_wp2_with (first | (refine wpList_gload_run rfl 23 _ rfl _ _ rfl HL.out ?_) | fail)
    refine K1.mono ?_
    rintro e w1 ⟨rfl, hb⟩
    have H1 : Hid (Cfg w w.heap.size c w1) := H0.out.step hb
    clear K1 HL H0 hb
    go_wp2
    go_ret2
    exact ⟨rfl, H1.out.bel⟩
  rw [hs, if_pos rfl] at K1
  rw [if_pos rfl]
  clear hs
  generalize r - st = A at *
  generalize keyB c A = b at *
  have K2' : Hid (∀ W, Calls Tryz.prog 56 #[.agg (cfC c), .int .i64 A] W fun e w' => e = .returned (.bool b) ∧ Below W.heap.size W w') := K2
  clear K2
  go_enter Tryz.func30, Tryz.ntmps30
  go_wp2_with (first | (refine wpList_gload_run rfl 23 _ rfl _ _ rfl HL.out ?_) | fail)
  refine K1.mono ?_
  rintro e w1 ⟨rfl, hb⟩
  have H1 : Hid (Cfg w w.heap.size c w1) := H0.out.step hb
  have HL1 : Hid ((Instr.loadAt 23 (.pointer (some ⟨w.heap.size, 0, none⟩))).run Tryz.prog w1 = .ok (.agg (cfC c)) w1) := H1.out.own.loads
  clear K1 HL H0 hb
  go_wp2_with (first | (refine wpList_gload_run rfl 23 _ rfl _ _ rfl HL1.out ?_) | fail)
  refine (K2'.out _).mono ?_
  rintro e w2 ⟨rfl, hb⟩
  have H2 : Hid (Cfg w w.heap.size c w2) := H1.out.step hb
  clear K2' HL1 H1 hb
  cases b
  all_goals
    go_wp2
    go_ret2
    exact ⟨rfl, H2.out.bel⟩

set_option maxHeartbeats 1600000 in
set_option maxRecDepth 20000 in
theorem told_ok (w : World) (c : Cf) (st r : Int) : Calls Tryz.prog 34 #[.agg (cfC c), .int .i64 st, .int .i64 r] w fun e w' => e = .returned (tolV c st r) ∧ Below w.heap.size w w' := by
  have HL : Hid ((Instr.loadAt 23 (.pointer (some ⟨w.heap.size, 0, none⟩))).run Tryz.prog (w.alloc (.cells (cfC c) 23)) = .ok (.agg (cfC c)) (w.alloc (.cells (cfC c) 23))) := (CfAt.new w c).loads
  have K1 := since_ok (w.alloc (.cells (cfC c) 23)) c st r
  have H0 : Hid (Cfg w w.heap.size c (w.alloc (.cells (cfC c) 23))) := Cfg.new w c
  unfold sinV at K1
  unfold tolV
  cases hs : sinB c st r
  case false =>
    rw [hs, if_neg Bool.false_ne_true] at K1
    rw [if_neg Bool.false_ne_true]
    clear hs
    go_enter Tryz.func34, Tryz.ntmps34
    go_wp2_with (first | (refine wpList_gload_run rfl 23 _ rfl _ _ rfl HL.out ?_) | fail)
    refine K1.mono ?_
    rintro e w1 ⟨rfl, hb⟩
    have H1 : Hid (Cfg w w.heap.size c w1) := H0.out.step hb
    clear K1 HL H0 hb
    go_wp2
    go_ret2
    exact ⟨rfl, H1.out.bel⟩
  rw [hs, if_pos rfl] at K1
  rw [if_pos rfl]
  obtain ⟨ho, hst, hr⟩ := sin_in hs
  have g := right_of ho
  have hd0 := g.d0
  have hd1 := g.d1
  obtain ⟨A, hA⟩ : ∃ A, A = r - st := ⟨_, rfl⟩
  rw [← hA] at K1 ⊢
  by_cases h1 : 1 ≤ A
  case neg =>
    rw [if_neg h1]
    clear hs ho hst hr g hd0 hd1 hA
    go_enter Tryz.func34, Tryz.ntmps34
    go_wp2_with (first | (refine wpList_gload_run rfl 23 _ rfl _ _ rfl HL.out ?_) | fail)
    refine K1.mono ?_
    rintro e w1 ⟨rfl, hb⟩
    have H1 : Hid (Cfg w w.heap.size c w1) := H0.out.step hb
    clear K1 HL H0 hb
    go_wp2
    go_ret2
    exact ⟨rfl, H1.out.bel⟩
  rw [if_pos h1]
  have e1 : IntKind.i64.wrap (A - c.d) = A - c.d := wrap_in (by omega) (by omega)
  obtain ⟨B, hB⟩ : ∃ B, B = A - c.d := ⟨_, rfl⟩
  unfold tolN mnN mxN
  rw [← hB] at e1 ⊢
  have e2 : IntKind.i64.wrap (A - c.d) = B := by rw [← hB]; exact e1
  clear hs ho hst hr g hd0 hd1 hA hB e1
  go_enter Tryz.func34, Tryz.ntmps34
  go_wp2_with (first | (refine wpList_gload_run rfl 23 _ rfl _ _ rfl HL.out ?_) | fail)
  refine K1.mono ?_
  rintro e w1 ⟨rfl, hb⟩
  have H1 : Hid (Cfg w w.heap.size c w1) := H0.out.step hb
  have p3 := H1.out.own.c3
  have p4 := H1.out.own.c4
  clear K1 HL H0 hb
  go_wp2
  all_goals
    go_ret2
    exact ⟨rfl, H1.out.bel⟩

set_option maxHeartbeats 1600000 in
set_option maxRecDepth 20000 in
theorem over_ok (w : World) (c : Cf) (st r : Int) : Calls Tryz.prog 38 #[.agg (cfC c), .int .i64 st, .int .i64 r] w fun e w' => e = .returned (.bool (ovB c st r)) ∧ Below w.heap.size w w' := by
  have HL : Hid ((Instr.loadAt 23 (.pointer (some ⟨w.heap.size, 0, none⟩))).run Tryz.prog (w.alloc (.cells (cfC c) 23)) = .ok (.agg (cfC c)) (w.alloc (.cells (cfC c) 23))) := (CfAt.new w c).loads
  have K1 := since_ok (w.alloc (.cells (cfC c) 23)) c st r
  have H0 : Hid (Cfg w w.heap.size c (w.alloc (.cells (cfC c) 23))) := Cfg.new w c
  unfold sinV at K1
  unfold ovB
  cases hs : sinB c st r
  case false =>
    rw [hs, if_neg Bool.false_ne_true] at K1
    rw [Bool.false_and]
    clear hs
    go_enter Tryz.func38, Tryz.ntmps38
    go_wp2_with (first | (refine wpList_gload_run rfl 23 _ rfl _ _ rfl HL.out ?_) | fail)
    refine K1.mono ?_
    rintro e w1 ⟨rfl, hb⟩
    have H1 : Hid (Cfg w w.heap.size c w1) := H0.out.step hb
    clear K1 HL H0 hb
    go_wp2
    go_ret
    exact ⟨rfl, H1.out.bel⟩
  rw [hs, if_pos rfl] at K1
  rw [Bool.true_and]
  obtain ⟨ho, hst, hr⟩ := sin_in hs
  have g := right_of ho
  have hd0 := g.d0
  have hd1 := g.d1
  have hk0 := g.k0
  have hk1 := g.k1
  obtain ⟨A, hA⟩ : ∃ A, A = r - st := ⟨_, rfl⟩
  obtain ⟨B, hB⟩ : ∃ B, B = c.k - c.d := ⟨_, rfl⟩
  rw [← hA] at K1 ⊢
  have e2 : IntKind.i64.wrap (c.k - c.d) = B := by rw [hB]; exact wrap_in (by omega) (by omega)
  rw [← hB]
  clear hs ho hst hr g hd0 hd1 hk0 hk1 hA hB
  go_enter Tryz.func38, Tryz.ntmps38
  go_wp2_with (first | (refine wpList_gload_run rfl 23 _ rfl _ _ rfl HL.out ?_) | fail)
  refine K1.mono ?_
  rintro e w1 ⟨rfl, hb⟩
  have H1 : Hid (Cfg w w.heap.size c w1) := H0.out.step hb
  have p3 := H1.out.own.c3
  have p4 := H1.out.own.c4
  clear K1 HL H0 hb
  go_wp2
  go_ret
  exact ⟨rfl, H1.out.bel⟩

end Go.Proofs.YtgncdnejmobjbaaGreatDoor

namespace Go.Proofs.YtgncdnejmobjbaaGreatDoor
open Go.ChangeShapes Go.WideShapes Go.ChangeAt Go.RowKit
set_option maxRecDepth 20000

def whV (c : Cf) (sl st i : Int) : Value := if whB c sl st i = true then .tuple #[.int .i64 (whN c sl st i), .int .i64 0] else .tuple #[.int .i64 0, .int .i64 1]

set_option maxHeartbeats 1600000 in
set_option maxRecDepth 20000 in
theorem when_ok (w : World) (c : Cf) (sl st i : Int) : Calls Tryz.prog 81 #[.agg (cfC c), .int .i64 sl, .int .i64 st, .int .i64 i] w fun e w' => e = .returned (whV c sl st i) ∧ Below w.heap.size w w' := by
  have HL : Hid ((Instr.loadAt 23 (.pointer (some ⟨w.heap.size, 0, none⟩))).run Tryz.prog (w.alloc (.cells (cfC c) 23)) = .ok (.agg (cfC c)) (w.alloc (.cells (cfC c) 23))) := (CfAt.new w c).loads
  have K1 := scheck_ok (w.alloc (.cells (cfC c) 23)) c
  have H0 : Hid (Cfg w w.heap.size c (w.alloc (.cells (cfC c) 23))) := Cfg.new w c
  have K2 := fun W => isround_ok W st
  have K3 := fun W => iskey_ok W c i
  cases ho : okB c
  case false =>
    rw [ho, if_neg Bool.false_ne_true] at K1
    rw [whV, if_neg (by simp [whB, ho])]
    clear ho K2 K3
    go_enter Tryz.func81, Tryz.ntmps81
    go_wp2_with (first | (refine wpList_gload_run rfl 23 _ rfl _ _ rfl HL.out ?_) | fail)
    refine K1.mono ?_
    rintro e w1 ⟨rfl, hb⟩
    have H1 : Hid (Cfg w w.heap.size c w1) := H0.out.step hb
    clear K1 HL H0 hb
    go_wp2
    go_ret2
    exact ⟨rfl, H1.out.bel⟩
  rw [ho, if_pos rfl] at K1
  cases h2 : roundB st
  case false =>
    rw [h2] at K2
    have K2' : Hid (∀ W, Calls Tryz.prog 61 #[.int .i64 st] W fun e w' => e = .returned (.bool false) ∧ w' = W) := K2
    rw [whV, if_neg (by simp [whB, h2])]
    clear ho h2 K2 K3
    go_enter Tryz.func81, Tryz.ntmps81
    go_wp2_with (first | (refine wpList_gload_run rfl 23 _ rfl _ _ rfl HL.out ?_) | fail)
    refine K1.mono ?_
    rintro e w1 ⟨rfl, hb⟩
    have H1 : Hid (Cfg w w.heap.size c w1) := H0.out.step hb
    clear K1 HL H0 hb
    go_wp2_with fail
    refine (K2'.out _).mono ?_
    rintro e w2 ⟨rfl, rfl⟩
    clear K2'
    go_wp2
    go_ret2
    exact ⟨rfl, H1.out.bel⟩
  rw [h2] at K2
  have K2' : Hid (∀ W, Calls Tryz.prog 61 #[.int .i64 st] W fun e w' => e = .returned (.bool true) ∧ w' = W) := K2
  cases h3 : keyB c i
  case false =>
    rw [h3] at K3
    have K3' : Hid (∀ W, Calls Tryz.prog 56 #[.agg (cfC c), .int .i64 i] W fun e w' => e = .returned (.bool false) ∧ Below W.heap.size W w') := K3
    rw [whV, if_neg (by simp [whB, h3])]
    clear ho h2 h3 K2 K3
    go_enter Tryz.func81, Tryz.ntmps81
    go_wp2_with (first | (refine wpList_gload_run rfl 23 _ rfl _ _ rfl HL.out ?_) | fail)
    refine K1.mono ?_
    rintro e w1 ⟨rfl, hb⟩
    have H1 : Hid (Cfg w w.heap.size c w1) := H0.out.step hb
    have HL1 : Hid ((Instr.loadAt 23 (.pointer (some ⟨w.heap.size, 0, none⟩))).run Tryz.prog w1 = .ok (.agg (cfC c)) w1) := H1.out.own.loads
    clear K1 HL H0 hb
    go_wp2_with fail
    refine (K2'.out _).mono ?_
    rintro e w2 ⟨rfl, rfl⟩
    clear K2'
    go_wp2_with (first | (refine wpList_gload_run rfl 23 _ rfl _ _ rfl HL1.out ?_) | fail)
    refine (K3'.out _).mono ?_
    rintro e w3 ⟨rfl, hb⟩
    have H3 : Hid (Cfg w w.heap.size c w3) := H1.out.step hb
    clear K3' HL1 H1 hb
    go_wp2
    go_ret2
    exact ⟨rfl, H3.out.bel⟩
  rw [h3] at K3
  have K3' : Hid (∀ W, Calls Tryz.prog 56 #[.agg (cfC c), .int .i64 i] W fun e w' => e = .returned (.bool true) ∧ Below W.heap.size W w') := K3
  have hv : whV c sl st i = atV c (st + i + c.d) sl := by
    unfold whV atV whN
    rw [show whB c sl st i = cellB c (st + i + c.d) sl by simp [whB, ho, h2, h3]]
  rw [hv]
  have g := right_of ho
  have hd0 := g.d0
  have hd1 := g.d1
  have hk1 := g.k1
  have hst := round_in h2
  have hi := key_in h3
  obtain ⟨A, hA⟩ : ∃ A, A = st + i := ⟨_, rfl⟩
  obtain ⟨B, hB⟩ : ∃ B, B = st + i + c.d := ⟨_, rfl⟩
  have e1 : IntKind.i64.wrap (st + i) = A := by rw [hA]; exact wrap_in (by omega) (by omega)
  have e2 : IntKind.i64.wrap (A + c.d) = B := by rw [hA, hB]; exact wrap_in (by omega) (by omega)
  have K4 : Hid (∀ W, Calls Tryz.prog 92 #[.agg (cfC c), .int .i64 B, .int .i64 sl] W fun e w' => ∃ a b, e = .returned (.tuple #[.int .i64 a, .int .i64 b]) ∧ atV c B sl = .tuple #[.int .i64 a, .int .i64 b] ∧ Below W.heap.size W w') := fun W =>
    (at_ok W c B sl).mono fun e w' h => by
      obtain ⟨rfl, hb⟩ := h
      cases hc : cellB c B sl
      · exact ⟨0, 1, by simp [atV, hc], by simp [atV, hc], hb⟩
      · exact ⟨_, _, by simp [atV, hc]; exact ⟨rfl, rfl⟩, by simp [atV, hc], hb⟩
  rw [← hB]
  clear ho h2 h3 K2 K3 hv g hd0 hd1 hk1 hst hi hA hB
  go_enter Tryz.func81, Tryz.ntmps81
  go_wp2_with (first | (refine wpList_gload_run rfl 23 _ rfl _ _ rfl HL.out ?_) | fail)
  refine K1.mono ?_
  rintro e w1 ⟨rfl, hb⟩
  have H1 : Hid (Cfg w w.heap.size c w1) := H0.out.step hb
  have HL1 : Hid ((Instr.loadAt 23 (.pointer (some ⟨w.heap.size, 0, none⟩))).run Tryz.prog w1 = .ok (.agg (cfC c)) w1) := H1.out.own.loads
  clear K1 HL H0 hb
  go_wp2_with fail
  refine (K2'.out _).mono ?_
  rintro e w2 ⟨rfl, rfl⟩
  clear K2'
  go_wp2_with (first | (refine wpList_gload_run rfl 23 _ rfl _ _ rfl HL1.out ?_) | fail)
  refine (K3'.out _).mono ?_
  rintro e w3 ⟨rfl, hb⟩
  have H3 : Hid (Cfg w w.heap.size c w3) := H1.out.step hb
  have HL3 : Hid ((Instr.loadAt 23 (.pointer (some ⟨w.heap.size, 0, none⟩))).run Tryz.prog w3 = .ok (.agg (cfC c)) w3) := H3.out.own.loads
  have p3 := H3.out.own.c3
  clear K3' HL1 H1 hb
  go_wp2_with (first | (refine wpList_gload_run rfl 23 _ rfl _ _ rfl HL3.out ?_) | fail)
  refine (K4.out _).mono ?_
  rintro e w4 ⟨a, b, rfl, hv, hb⟩
  have H4 : Hid (Cfg w w.heap.size c w4) := H3.out.step hb
  have HV : Hid (atV c B sl = .tuple #[.int .i64 a, .int .i64 b]) := hv
  clear K4 HL3 H3 hb hv p3
  go_wp2
  go_ret2
  exact ⟨by rw [HV.out]; rfl, H4.out.bel⟩

end Go.Proofs.YtgncdnejmobjbaaGreatDoor
