/-
  The contracts of disclose.isRound, isKey, since, Index, Told, Over and of the statements' awake.
-/
import Derived.Test.YtiolkbdjphhajaaDisM
import Derived.Test.YtiolkbdjphhajaaSchedH
namespace Go.Proofs.Ytiolkbdjphhajaa
open Go.ChangeShapes Go.WideShapes Go.ChangeAt Go.RowKit

def two (a b : Int) : Value := .tuple #[.int .i64 a, .int .i64 b]
def sinV (c : Cf) (st r : Int) : Value := if sinB c st r = true then .tuple #[.int .i64 (r - st), .int .i64 0] else .tuple #[.int .i64 0, .int .i64 1]
def idxV (c : Cf) (st r : Int) : Value := if sinB c st r = true then (if keyB c (r - st) = true then .tuple #[.int .i64 (r - st), .int .i64 0] else .tuple #[.int .i64 0, .int .i64 6]) else .tuple #[.int .i64 0, .int .i64 1]
def tolV (c : Cf) (st r : Int) : Value := if sinB c st r = true then (if 1 ≤ r - st then .tuple #[.int .i64 (tolN c (r - st)), .int .i64 0] else .tuple #[.int .i64 0, .int .i64 6]) else .tuple #[.int .i64 0, .int .i64 1]

theorem isround_ok (w : World) (n : Int) : Calls Try.prog 26 #[.int .i64 n] w fun e w' => e = .returned (.bool (roundB n)) ∧ w' = w := by
  by_cases h0 : 0 ≤ n
  · have hN : roundB n = decide (n < 1048576) := by simp [roundB, h0]
    rw [hN]
    clear hN
    by_cases h1 : n < 1048576
    all_goals
      simp only [h1, decide_true, decide_false]
      go_enter Try.func26, Try.ntmps26
      go_wp2
      go_ret
      exact ⟨by first | rfl | (simp; done) | (simp; omega), rfl⟩
  · rw [show roundB n = false by simp [roundB, h0]]
    go_enter Try.func26, Try.ntmps26
    go_wp2
    go_ret
    exact ⟨by first | rfl | (simp; done) | (simp; omega), rfl⟩
theorem iskey_ok (w : World) (c : Cf) (i : Int) : Calls Try.prog 23 #[.agg (cfC c), .int .i64 i] w fun e w' => e = .returned (.bool (keyB c i)) ∧ Below w.heap.size w w' := by
  have H0 : Hid (Cfg w w.heap.size c (w.alloc (.cells (cfC c) 23))) := Cfg.new w c
  have p4 := H0.out.own.c4
  by_cases h0 : 1 ≤ i
  · have hN : keyB c i = decide (i ≤ c.k) := by simp [keyB, h0]
    rw [hN]
    clear hN
    by_cases h1 : i ≤ c.k
    all_goals
      simp only [h1, decide_true, decide_false]
      go_enter Try.func23, Try.ntmps23
      go_wp2
      go_ret
      exact ⟨by first | rfl | (simp; done) | (simp; omega), H0.out.bel⟩
  · rw [show keyB c i = false by simp [keyB, h0]]
    go_enter Try.func23, Try.ntmps23
    go_wp2
    go_ret
    exact ⟨by first | rfl | (simp; done) | (simp; omega), H0.out.bel⟩

theorem isslot_ok (w : World) (c : Cf) (sl : Int) : Calls Try.prog 29 #[.agg (cfC c), .int .i64 sl] w fun e w' => e = .returned (.bool (sltB c sl)) ∧ Below w.heap.size w w' := by
  have H0 : Hid (Cfg w w.heap.size c (w.alloc (.cells (cfC c) 23))) := Cfg.new w c
  have p4 := H0.out.own.c0
  by_cases h0 : 0 ≤ sl
  · have hN : sltB c sl = decide (sl < c.n) := by simp [sltB, h0]
    rw [hN]
    clear hN
    by_cases h1 : sl < c.n
    all_goals
      simp only [h1, decide_true, decide_false]
      go_enter Try.func29, Try.ntmps29
      go_wp2
      go_ret
      exact ⟨by first | rfl | (simp; done) | (simp; omega), H0.out.bel⟩
  · rw [show sltB c sl = false by simp [sltB, h0]]
    go_enter Try.func29, Try.ntmps29
    go_wp2
    go_ret
    exact ⟨by first | rfl | (simp; done) | (simp; omega), H0.out.bel⟩

set_option maxHeartbeats 1600000 in
set_option maxRecDepth 20000 in
theorem since_ok (w : World) (c : Cf) (st r : Int) : Calls Try.prog 22 #[.agg (cfC c), .int .i64 st, .int .i64 r] w fun e w' => e = .returned (sinV c st r) ∧ Below w.heap.size w w' := by
  have HL : Hid ((Instr.loadAt 23 (.pointer (some ⟨w.heap.size, 0, none⟩))).run Try.prog (w.alloc (.cells (cfC c) 23)) = .ok (.agg (cfC c)) (w.alloc (.cells (cfC c) 23))) := (CfAt.new w c).loads
  have K1 := check_ok (w.alloc (.cells (cfC c) 23)) c
  have H0 : Hid (Cfg w w.heap.size c (w.alloc (.cells (cfC c) 23))) := Cfg.new w c
  have K2 := fun W => isround_ok W st
  have K3 := fun W => isround_ok W r
  cases ho : okB c
  case false =>
    rw [ho, if_neg Bool.false_ne_true] at K1
    rw [sinV, if_neg (by simp [sinB, ho])]
    clear ho K2 K3
    go_enter Try.func22, Try.ntmps22
    go_wp2_with (first | (refine wpList_gload_run rfl 23 _ rfl _ _ rfl HL.out ?_) | fail)
    refine K1.mono ?_
    rintro e w1 ⟨rfl, hb⟩
    have H1 : Hid (Cfg w w.heap.size c w1) := H0.out.step hb
    clear K1 HL H0 hb
    go_wp2
    go_ret2
    exact ⟨rfl, H1.out.bel⟩
  rw [ho, if_pos rfl] at K1
  cases h2 : roundB st
  case false =>
    rw [h2] at K2
    have K2' : Hid (∀ W, Calls Try.prog 26 #[.int .i64 st] W fun e w' => e = .returned (.bool false) ∧ w' = W) := K2
    rw [sinV, if_neg (by simp [sinB, h2])]
    clear ho h2 K2 K3
    go_enter Try.func22, Try.ntmps22
    go_wp2_with (first | (refine wpList_gload_run rfl 23 _ rfl _ _ rfl HL.out ?_) | fail)
    refine K1.mono ?_
    rintro e w1 ⟨rfl, hb⟩
    have H1 : Hid (Cfg w w.heap.size c w1) := H0.out.step hb
    clear K1 HL H0 hb
    go_wp2_with fail
    refine (K2'.out _).mono ?_
    rintro e w2 ⟨rfl, rfl⟩
    clear K2'
    go_wp2
    go_ret2
    exact ⟨rfl, H1.out.bel⟩
  rw [h2] at K2
  have K2' : Hid (∀ W, Calls Try.prog 26 #[.int .i64 st] W fun e w' => e = .returned (.bool true) ∧ w' = W) := K2
  cases h3 : roundB r
  case false =>
    rw [h3] at K3
    have K3' : Hid (∀ W, Calls Try.prog 26 #[.int .i64 r] W fun e w' => e = .returned (.bool false) ∧ w' = W) := K3
    rw [sinV, if_neg (by simp [sinB, h3])]
    clear ho h2 h3 K2 K3
    go_enter Try.func22, Try.ntmps22
    go_wp2_with (first | (refine wpList_gload_run rfl 23 _ rfl _ _ rfl HL.out ?_) | fail)
    refine K1.mono ?_
    rintro e w1 ⟨rfl, hb⟩
    have H1 : Hid (Cfg w w.heap.size c w1) := H0.out.step hb
    clear K1 HL H0 hb
    go_wp2_with fail
    refine (K2'.out _).mono ?_
    rintro e w2 ⟨rfl, rfl⟩
    clear K2'
    go_wp2_with fail
    refine (K3'.out _).mono ?_
    rintro e w3 ⟨rfl, rfl⟩
    clear K3'
    go_wp2
    go_ret2
    exact ⟨rfl, H1.out.bel⟩
  rw [h3] at K3
  have K3' : Hid (∀ W, Calls Try.prog 26 #[.int .i64 r] W fun e w' => e = .returned (.bool true) ∧ w' = W) := K3
  have hs : sinB c st r = true := by simp [sinB, ho, h2, h3]
  rw [sinV, if_pos hs]
  obtain ⟨_, hst, hr⟩ := sin_in hs
  obtain ⟨A, hA⟩ : ∃ A, A = r - st := ⟨_, rfl⟩
  have e1 : IntKind.i64.wrap (r - st) = A := by rw [hA]; exact wrap_in (by omega) (by omega)
  rw [← hA]
  clear ho h2 h3 K2 K3 hs hst hr hA
  go_enter Try.func22, Try.ntmps22
  go_wp2_with (first | (refine wpList_gload_run rfl 23 _ rfl _ _ rfl HL.out ?_) | fail)
  refine K1.mono ?_
  rintro e w1 ⟨rfl, hb⟩
  have H1 : Hid (Cfg w w.heap.size c w1) := H0.out.step hb
  clear K1 HL H0 hb
  go_wp2_with fail
  refine (K2'.out _).mono ?_
  rintro e w2 ⟨rfl, rfl⟩
  clear K2'
  go_wp2_with fail
  refine (K3'.out _).mono ?_
  rintro e w3 ⟨rfl, rfl⟩
  clear K3'
  go_wp2
  go_ret2
  exact ⟨rfl, H1.out.bel⟩

set_option maxHeartbeats 1600000 in
set_option maxRecDepth 20000 in
theorem index_ok (w : World) (c : Cf) (st r : Int) : Calls Try.prog 7 #[.agg (cfC c), .int .i64 st, .int .i64 r] w fun e w' => e = .returned (idxV c st r) ∧ Below w.heap.size w w' := by
  have HL : Hid ((Instr.loadAt 23 (.pointer (some ⟨w.heap.size, 0, none⟩))).run Try.prog (w.alloc (.cells (cfC c) 23)) = .ok (.agg (cfC c)) (w.alloc (.cells (cfC c) 23))) := (CfAt.new w c).loads
  have K1 := since_ok (w.alloc (.cells (cfC c) 23)) c st r
  have H0 : Hid (Cfg w w.heap.size c (w.alloc (.cells (cfC c) 23))) := Cfg.new w c
  have K2 := fun W => iskey_ok W c (r - st)
  unfold sinV at K1
  unfold idxV
  cases hs : sinB c st r
  case false =>
    rw [hs, if_neg Bool.false_ne_true] at K1
    rw [if_neg Bool.false_ne_true]
    clear hs K2
    go_enter Try.func7, Try.ntmps7
    go_wp2_with (first | (refine wpList_gload_run rfl 23 _ rfl _ _ rfl HL.out ?_) | fail)
    refine K1.mono ?_
    rintro e w1 ⟨rfl, hb⟩
    have H1 : Hid (Cfg w w.heap.size c w1) := H0.out.step hb
    clear K1 HL H0 hb
    go_wp2
    go_ret2
    exact ⟨rfl, H1.out.bel⟩
  rw [hs, if_pos rfl] at K1
  rw [if_pos rfl]
  clear hs
  generalize r - st = A at *
  generalize keyB c A = b at *
  have K2' : Hid (∀ W, Calls Try.prog 23 #[.agg (cfC c), .int .i64 A] W fun e w' => e = .returned (.bool b) ∧ Below W.heap.size W w') := K2
  clear K2
  go_enter Try.func7, Try.ntmps7
  go_wp2_with (first | (refine wpList_gload_run rfl 23 _ rfl _ _ rfl HL.out ?_) | fail)
  refine K1.mono ?_
  rintro e w1 ⟨rfl, hb⟩
  have H1 : Hid (Cfg w w.heap.size c w1) := H0.out.step hb
  have HL1 : Hid ((Instr.loadAt 23 (.pointer (some ⟨w.heap.size, 0, none⟩))).run Try.prog w1 = .ok (.agg (cfC c)) w1) := H1.out.own.loads
  clear K1 HL H0 hb
  go_wp2_with (first | (refine wpList_gload_run rfl 23 _ rfl _ _ rfl HL1.out ?_) | fail)
  refine (K2'.out _).mono ?_
  rintro e w2 ⟨rfl, hb⟩
  have H2 : Hid (Cfg w w.heap.size c w2) := H1.out.step hb
  clear K2' HL1 H1 hb
  cases b
  all_goals
    go_wp2
    go_ret2
    exact ⟨rfl, H2.out.bel⟩

set_option maxHeartbeats 1600000 in
set_option maxRecDepth 20000 in
theorem told_ok (w : World) (c : Cf) (st r : Int) : Calls Try.prog 9 #[.agg (cfC c), .int .i64 st, .int .i64 r] w fun e w' => e = .returned (tolV c st r) ∧ Below w.heap.size w w' := by
  have HL : Hid ((Instr.loadAt 23 (.pointer (some ⟨w.heap.size, 0, none⟩))).run Try.prog (w.alloc (.cells (cfC c) 23)) = .ok (.agg (cfC c)) (w.alloc (.cells (cfC c) 23))) := (CfAt.new w c).loads
  have K1 := since_ok (w.alloc (.cells (cfC c) 23)) c st r
  have H0 : Hid (Cfg w w.heap.size c (w.alloc (.cells (cfC c) 23))) := Cfg.new w c
  unfold sinV at K1
  unfold tolV
  cases hs : sinB c st r
  case false =>
    rw [hs, if_neg Bool.false_ne_true] at K1
    rw [if_neg Bool.false_ne_true]
    clear hs
    go_enter Try.func9, Try.ntmps9
    go_wp2_with (first | (refine wpList_gload_run rfl 23 _ rfl _ _ rfl HL.out ?_) | fail)
    refine K1.mono ?_
    rintro e w1 ⟨rfl, hb⟩
    have H1 : Hid (Cfg w w.heap.size c w1) := H0.out.step hb
    clear K1 HL H0 hb
    go_wp2
    go_ret2
    exact ⟨rfl, H1.out.bel⟩
  rw [hs, if_pos rfl] at K1
  rw [if_pos rfl]
  obtain ⟨ho, hst, hr⟩ := sin_in hs
  have g := right_of ho
  have hd0 := g.d0
  have hd1 := g.d1
  obtain ⟨A, hA⟩ : ∃ A, A = r - st := ⟨_, rfl⟩
  rw [← hA] at K1 ⊢
  by_cases h1 : 1 ≤ A
  case neg =>
    rw [if_neg h1]
    clear hs ho hst hr g hd0 hd1 hA
    go_enter Try.func9, Try.ntmps9
    go_wp2_with (first | (refine wpList_gload_run rfl 23 _ rfl _ _ rfl HL.out ?_) | fail)
    refine K1.mono ?_
    rintro e w1 ⟨rfl, hb⟩
    have H1 : Hid (Cfg w w.heap.size c w1) := H0.out.step hb
    clear K1 HL H0 hb
    go_wp2
    go_ret2
    exact ⟨rfl, H1.out.bel⟩
  rw [if_pos h1]
  have e1 : IntKind.i64.wrap (A - c.d) = A - c.d := wrap_in (by omega) (by omega)
  obtain ⟨B, hB⟩ : ∃ B, B = A - c.d := ⟨_, rfl⟩
  unfold tolN mnN mxN
  rw [← hB] at e1 ⊢
  have e2 : IntKind.i64.wrap (A - c.d) = B := by rw [← hB]; exact e1
  clear hs ho hst hr g hd0 hd1 hA hB e1
  go_enter Try.func9, Try.ntmps9
  go_wp2_with (first | (refine wpList_gload_run rfl 23 _ rfl _ _ rfl HL.out ?_) | fail)
  refine K1.mono ?_
  rintro e w1 ⟨rfl, hb⟩
  have H1 : Hid (Cfg w w.heap.size c w1) := H0.out.step hb
  have p3 := H1.out.own.c3
  have p4 := H1.out.own.c4
  clear K1 HL H0 hb
  go_wp2
  all_goals
    go_ret2
    exact ⟨rfl, H1.out.bel⟩

set_option maxHeartbeats 1600000 in
set_option maxRecDepth 20000 in
theorem over_ok (w : World) (c : Cf) (st r : Int) : Calls Try.prog 17 #[.agg (cfC c), .int .i64 st, .int .i64 r] w fun e w' => e = .returned (.bool (ovB c st r)) ∧ Below w.heap.size w w' := by
  have HL : Hid ((Instr.loadAt 23 (.pointer (some ⟨w.heap.size, 0, none⟩))).run Try.prog (w.alloc (.cells (cfC c) 23)) = .ok (.agg (cfC c)) (w.alloc (.cells (cfC c) 23))) := (CfAt.new w c).loads
  have K1 := since_ok (w.alloc (.cells (cfC c) 23)) c st r
  have H0 : Hid (Cfg w w.heap.size c (w.alloc (.cells (cfC c) 23))) := Cfg.new w c
  unfold sinV at K1
  unfold ovB
  cases hs : sinB c st r
  case false =>
    rw [hs, if_neg Bool.false_ne_true] at K1
    rw [Bool.false_and]
    clear hs
    go_enter Try.func17, Try.ntmps17
    go_wp2_with (first | (refine wpList_gload_run rfl 23 _ rfl _ _ rfl HL.out ?_) | fail)
    refine K1.mono ?_
    rintro e w1 ⟨rfl, hb⟩
    have H1 : Hid (Cfg w w.heap.size c w1) := H0.out.step hb
    clear K1 HL H0 hb
    go_wp2
    go_ret
    exact ⟨rfl, H1.out.bel⟩
  rw [hs, if_pos rfl] at K1
  rw [Bool.true_and]
  obtain ⟨ho, hst, hr⟩ := sin_in hs
  have g := right_of ho
  have hd0 := g.d0
  have hd1 := g.d1
  have hk0 := g.k0
  have hk1 := g.k1
  obtain ⟨A, hA⟩ : ∃ A, A = r - st := ⟨_, rfl⟩
  obtain ⟨B, hB⟩ : ∃ B, B = c.k - c.d := ⟨_, rfl⟩
  rw [← hA] at K1 ⊢
  have e2 : IntKind.i64.wrap (c.k - c.d) = B := by rw [hB]; exact wrap_in (by omega) (by omega)
  rw [← hB]
  clear hs ho hst hr g hd0 hd1 hk0 hk1 hA hB
  go_enter Try.func17, Try.ntmps17
  go_wp2_with (first | (refine wpList_gload_run rfl 23 _ rfl _ _ rfl HL.out ?_) | fail)
  refine K1.mono ?_
  rintro e w1 ⟨rfl, hb⟩
  have H1 : Hid (Cfg w w.heap.size c w1) := H0.out.step hb
  have p3 := H1.out.own.c3
  have p4 := H1.out.own.c4
  clear K1 HL H0 hb
  go_wp2
  go_ret
  exact ⟨rfl, H1.out.bel⟩

theorem usual_ok (w : World) : Calls Try.prog 32 #[] w fun e w' => e = .returned (.agg (cfC usualC)) ∧ Below w.heap.size w w' := by
  have hb : ∀ W, (Instr.build 23 #[(0, .int .i64 3), (2, .int .i64 400), (3, .int .i64 1), (4, .int .i64 16), (5, .int .i64 400), (6, .int .i64 400), (7, .int .i64 1), (8, .int .i64 2), (9, .int .i64 8)]).run Try.prog W = .ok (.agg (cfC usualC)) W := fun W => by
    kernel_rfl
  have h0 : CfAt (w.alloc (.cells (cfC Cf.zero) 23)) w.heap.size Cf.zero := CfAt.new w _
  have HB : Hid ((Instr.build 23 #[(0, .int .i64 3), (2, .int .i64 400), (3, .int .i64 1), (4, .int .i64 16), (5, .int .i64 400), (6, .int .i64 400), (7, .int .i64 1), (8, .int .i64 2), (9, .int .i64 8)]).run Try.prog (w.alloc (.cells (cfC Cf.zero) 23)) = .ok (.agg (cfC usualC)) (w.alloc (.cells (cfC Cf.zero) 23))) := hb _
  have HS : Hid ((Instr.storeAt 23 (.pointer (some ⟨w.heap.size, 0, none⟩)) (.agg (cfC usualC))).run Try.prog (w.alloc (.cells (cfC Cf.zero) 23)) = .ok () ((w.alloc (.cells (cfC Cf.zero) 23)).setRow w.heap.size (cfC usualC))) := h0.stores usualC
  have HE : Hid (CfAt ((w.alloc (.cells (cfC Cf.zero) 23)).setRow w.heap.size (cfC usualC)) w.heap.size usualC ∧ Below w.heap.size w ((w.alloc (.cells (cfC Cf.zero) 23)).setRow w.heap.size (cfC usualC))) :=
    ⟨h0.stored usualC, below_setRow (Go.Joins.below_alloc1 _ _) (Nat.le_refl _) _⟩
  clear hb h0
  go_enter Try.func32, Try.ntmps32
  go_wp2_with (first | (refine wpList_build_run rfl 23 _ rfl [(0, .int .i64 3), (2, .int .i64 400), (3, .int .i64 1), (4, .int .i64 16), (5, .int .i64 400), (6, .int .i64 400), (7, .int .i64 1), (8, .int .i64 2), (9, .int .i64 8)] _ rfl HB.out ?_) | (refine wpList_store_run rfl 23 _ _ rfl _ _ rfl rfl HS.out ?_) | fail)
  refine bodyPost_ret (res_cf rfl rfl HE.out.1) rfl ?_
  exact ⟨rfl, HE.out.2⟩
theorem awake_ok (w : World) : Calls Try.prog 19 #[] w fun e w' => e = .returned (.bool true) ∧ Below w.heap.size w w' := by
  have k1 := usual_ok w
  have K2 : Hid (∀ W, Calls Try.prog 7 #[.agg (cfC usualC), .int .i64 3, .int .i64 6] W fun e w' => e = .returned (.tuple #[.int .i64 3, .int .i64 0]) ∧ Below W.heap.size W w') := fun W => by
    have := index_ok W usualC 3 6
    rw [show idxV usualC 3 6 = .tuple #[.int .i64 3, .int .i64 0] by rw [idxV, if_pos (by decide), if_pos (by decide)]; rfl] at this
    exact this
  generalize usualC = c at *
  go_enter Try.func19, Try.ntmps19
  go_wp2_with fail
  refine k1.mono ?_
  rintro e w1 ⟨rfl, hb1⟩
  clear k1
  go_wp2_with fail
  refine (K2.out _).mono ?_
  rintro e w2 ⟨rfl, hb2⟩
  clear K2
  go_wp2
  go_ret
  exact ⟨rfl, hb1.trans (hb2.mono hb1.size)⟩
end Go.Proofs.Ytiolkbdjphhajaa
