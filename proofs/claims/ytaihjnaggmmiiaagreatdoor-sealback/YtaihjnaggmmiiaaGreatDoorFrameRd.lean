/-
  The hand that reads.
-/
import Derived.Test.YtaihjnaggmmiiaaGreatDoorFrameC
import Derived.Test.YtaihjnaggmmiiaaGreatDoorBitsRd
namespace Go.Proofs.YtaihjnaggmmiiaaGreatDoor
open Go.ChangeShapes Go.WideShapes Go.ChangeAt Go.RowKit

/-- A reader of frames at block q, which holds the reader of bits at block c, of the bytes l. -/
def FrM (l : List UInt8) (c : Nat) (w : World) (q : Nat) (s : Rs) (F : Nat → Prop) : Prop :=
  w.heap[q]? = some (.cells #[.pointer (some ⟨c, 0, none⟩), .bool s.miss] 119 (0, 0)) ∧ s.at_ ≤ 8 * l.length ∧ l.length ≤ 140737488355328 ∧ ∃ F', RdM l w c s.at_ F' ∧ ¬ F' q ∧ (∀ k, F' k → F k) ∧ F q ∧ ∀ k, F k → k < w.heap.size
theorem frm_kept (l : List UInt8) (c : Nat) : Kept (FrM l c) where
  lt := fun ⟨_, _, _, _, _, _, _, _, h⟩ => h
  keep := fun {w w' b s F} ⟨h1, h2, hl, F', h3, h4, h5, h6, h7⟩ hk => ⟨(hk b h6).trans h1, h2, hl, F', (rd_kept l).keep h3 (fun k hF => hk k (h5 k hF)), h4, h5, h6, fun k hF => by
    have h8 : w'.heap[k]? = some (w.heap[k]'(h7 k hF)) := by rw [hk k hF]; simp [h7 k hF]
    exact (Array.getElem?_eq_some_iff.1 h8).1⟩
theorem FrM.cells {l : List UInt8} {c : Nat} {w : World} {q : Nat} {s : Rs} {F : Nat → Prop} (h : FrM l c w q s F) : w.cell? ⟨q, 0, none⟩ = some (.pointer (some ⟨c, 0, none⟩)) ∧ w.cell? ⟨q, 1, none⟩ = some (.bool s.miss) ∧ w.frozen? ⟨q, 1, none⟩ = false :=
  ⟨cell_of_row _ _ 0 _ _ _ h.1, cell_of_row _ _ 1 _ _ _ h.1, frozen_of_row _ _ 1 _ _ h.1⟩
/-- The bits' reader has gone on. -/
theorem FrM.went {l : List UInt8} {c : Nat} {w w1 : World} {q : Nat} {s : Rs} {F F' : Nat → Prop} (h : FrM l c w q s F) (hn : ¬ F' q) (hs : ∀ k, F' k → F k) (m : Nat) (hm : m ≤ 8 * l.length) (hL : Stay (RdM l) w F' c m w1) (t : Bool) :
    (w1.cell? ⟨q, 1, none⟩ = some (.bool s.miss) ∧ w1.frozen? ⟨q, 1, none⟩ = false) ∧ FrM l c (w1.setCell ⟨q, 1, none⟩ (.bool t)) q ⟨m, t⟩ F ∧ Apart F w (w1.setCell ⟨q, 1, none⟩ (.bool t)) := by
  obtain ⟨h1, h2, hl, _, _, _, _, h6, h7⟩ := h
  obtain ⟨hr, ha⟩ := hL
  have h8 : w1.heap[q]? = some (.cells #[.pointer (some ⟨c, 0, none⟩), .bool s.miss] 119 (0, 0)) := by rw [ha.block q (h7 q h6) hn]; exact h1
  refine ⟨⟨cell_of_row _ _ 1 _ _ _ h8, frozen_of_row _ _ 1 _ _ h8⟩, ⟨by rw [heap_setCell_same _ _ _ _ _ _ h8]; rfl, hm, hl, F', (rd_kept l).keep hr (fun k hk => heap_setCell_other _ _ _ _ (fun e => hn (by have e2 : k = q := e; rw [← e2]; exact hk))), hn, hs, h6, fun k hk => ?_⟩, ?_⟩
  · have := h7 k hk; have := ha.size; simp; omega
  · exact (ha.mono hs).setCell (.inl h6) 1 _
theorem takeAt_le (l : List UInt8) (at_ : Nat) (n : Int) (h : at_ ≤ 8 * l.length) : takeAt l at_ n ≤ 8 * l.length := by
  unfold takeAt
  by_cases h0 : takeP (8 * l.length - at_) n = 0
  · rw [if_pos h0]
    unfold takeP at h0
    by_cases h1 : n < 0 ∨ 1024 < n
    · rw [if_pos h1] at h0; cases h0
    · rw [if_neg h1] at h0
      by_cases h2 : ((8 * l.length - at_ : Nat) : Int) < 8 * n
      · rw [if_pos h2] at h0; cases h0
      · omega
  · rw [if_neg h0]; exact h

set_option maxHeartbeats 1600000 in
set_option maxRecDepth 20000 in
theorem rnum_ok (l : List UInt8) (c : Nat) (w : World) (q : Nat) (s : Rs) (F : Nat → Prop) (x : Int) (V : Nat) (hm : FrM l c w q s F) :
    Calls Tryz.prog 103 #[.pointer (some ⟨q, 0, none⟩), .int .u64 x, .int .i64 (V : Int)] w fun e w' => e = .returned (.int .u64 ((numN l s V : Nat) : Int)) ∧ FrM l c w' q (numS l s V) F ∧ Apart F w w' := by
  obtain ⟨c0, c1, f1⟩ := hm.cells
  have hm0 := hm
  obtain ⟨_, hle, hl, F', hr, hn, hs, _, _⟩ := hm
  have hc := rdget_ok l w c s.at_ F' hr hl (V : Int) hle
  have hat := getAt_le l s.at_ (V : Int) hle
  unfold numN numS
  obtain ⟨N, hN⟩ : ∃ N, N = getN l s.at_ (V : Int) := ⟨_, rfl⟩
  obtain ⟨m, hm1⟩ : ∃ m, m = getAt l s.at_ (V : Int) := ⟨_, rfl⟩
  obtain ⟨P, hP⟩ : ∃ P, P = getP (8 * l.length - s.at_) (V : Int) := ⟨_, rfl⟩
  rw [← hN, ← hm1, ← hP]
  rw [← hN, ← hm1, ← hP] at hc
  rw [← hm1] at hat
  have HW : Hid (∀ w1, Stay (RdM l) w F' c m w1 → ∀ t, (w1.cell? ⟨q, 1, none⟩ = some (.bool s.miss) ∧ w1.frozen? ⟨q, 1, none⟩ = false) ∧ FrM l c (w1.setCell ⟨q, 1, none⟩ (.bool t)) q ⟨m, t⟩ F ∧ Apart F w (w1.setCell ⟨q, 1, none⟩ (.bool t))) := fun w1 hL t => hm0.went hn hs m hat hL t
  generalize s.miss = b at *
  clear hm0 hr hn hs hat hN hm1 hP hle hl f1
  cases b
  · by_cases h0 : P = 0
    · have g0 : ((P : Int) != 0) = false := by simp [h0]
      have e0 : (false || decide (P ≠ 0)) = false := by simp [h0]
      rw [e0]
      clear h0 e0
      go_enter Tryz.func103, Tryz.ntmps103
      go_wp2_with fail
      refine hc.mono ?_
      rintro e w1 ⟨rfl, hL⟩
      obtain ⟨⟨d1, z1⟩, hX⟩ := HW.out w1 hL false
      have HX : Hid (FrM l c (w1.setCell ⟨q, 1, none⟩ (.bool false)) q ⟨m, false⟩ F ∧ Apart F w (w1.setCell ⟨q, 1, none⟩ (.bool false))) := hX
      clear hc hL HW c0 c1 hX
      go_wp2
      go_ret
      exact ⟨rfl, HX.out⟩
    · have g0 : ((P : Int) != 0) = true := by simp; omega
      have e0 : (false || decide (P ≠ 0)) = true := by simp [h0]
      rw [e0]
      clear h0 e0
      go_enter Tryz.func103, Tryz.ntmps103
      go_wp2_with fail
      refine hc.mono ?_
      rintro e w1 ⟨rfl, hL⟩
      obtain ⟨⟨d1, z1⟩, hX⟩ := HW.out w1 hL true
      have HX : Hid (FrM l c (w1.setCell ⟨q, 1, none⟩ (.bool true)) q ⟨m, true⟩ F ∧ Apart F w (w1.setCell ⟨q, 1, none⟩ (.bool true))) := hX
      clear hc hL HW c0 c1 hX
      go_wp2
      go_ret
      exact ⟨rfl, HX.out⟩
  · rw [Bool.true_or]
    go_enter Tryz.func103, Tryz.ntmps103
    go_wp2_with fail
    refine hc.mono ?_
    rintro e w1 ⟨rfl, hL⟩
    obtain ⟨⟨d1, z1⟩, hX⟩ := HW.out w1 hL true
    have HX : Hid (FrM l c (w1.setCell ⟨q, 1, none⟩ (.bool true)) q ⟨m, true⟩ F ∧ Apart F w (w1.setCell ⟨q, 1, none⟩ (.bool true))) := hX
    clear hc hL HW c0 c1 hX
    go_wp2
    go_ret
    exact ⟨rfl, HX.out⟩

set_option maxHeartbeats 1600000 in
set_option maxRecDepth 20000 in
theorem rlist_ok (l : List UInt8) (c : Nat) (w : World) (q : Nat) (s : Rs) (F : Nat → Prop) (x : Value) (n : Nat) (hm : FrM l c w q s F) :
    Calls Tryz.prog 104 #[.pointer (some ⟨q, 0, none⟩), x, .int .i64 (n : Int)] w fun e w' => ∃ d cd y, Hid (y = lstN l s n) ∧ e = .returned (.slice d y.length cd) ∧ Sees w' d cd y ∧ (∀ g o, d = some ⟨g, o, none⟩ → w.heap.size ≤ g) ∧ FrM l c w' q (lstS l s n) F ∧ Apart F w w' := by
  obtain ⟨c0, c1, f1⟩ := hm.cells
  have hm0 := hm
  obtain ⟨_, hle, hl, F', hr, hn, hs, hFq, hFlt⟩ := hm
  have hc := rdtake_fresh l w c s.at_ F' hr hl (n : Int) hle
  have hat := takeAt_le l s.at_ (n : Int) hle
  unfold lstN lstS
  obtain ⟨N, hN⟩ : ∃ N, N = takeL l s.at_ (n : Int) := ⟨_, rfl⟩
  obtain ⟨m, hm1⟩ : ∃ m, m = takeAt l s.at_ (n : Int) := ⟨_, rfl⟩
  obtain ⟨P, hP⟩ : ∃ P, P = takeP (8 * l.length - s.at_) (n : Int) := ⟨_, rfl⟩
  rw [← hN, ← hm1, ← hP]
  rw [← hN, ← hm1, ← hP] at hc
  rw [← hm1] at hat
  have HW : Hid (∀ w1 (d : Option Addr) (cd : Nat) (y : List UInt8), Stay (RdM l) w F' c m w1 → Sees w1 d cd y → (∀ g o, d = some ⟨g, o, none⟩ → w.heap.size ≤ g) → ∀ t, (w1.cell? ⟨q, 1, none⟩ = some (.bool s.miss) ∧ w1.frozen? ⟨q, 1, none⟩ = false) ∧ Sees (w1.setCell ⟨q, 1, none⟩ (.bool t)) d cd y ∧ FrM l c (w1.setCell ⟨q, 1, none⟩ (.bool t)) q ⟨m, t⟩ F ∧ Apart F w (w1.setCell ⟨q, 1, none⟩ (.bool t))) := fun w1 d cd y hL hy hd t => by
    obtain ⟨h1, h2⟩ := hm0.went hn hs m hat hL t
    refine ⟨h1, hy.set _ (fun b off e _ => ?_), h2⟩
    have := hd b off e
    have := hFlt q hFq
    omega
  generalize s.miss = b at *
  clear hm0 hr hn hs hat hN hm1 hP hle hl f1 hFq hFlt
  cases b
  · by_cases h0 : P = 0
    · have g0 : ((P : Int) != 0) = false := by simp [h0]
      have e0 : (false || decide (P ≠ 0)) = false := by simp [h0]
      rw [e0]
      clear h0 e0
      go_enter Tryz.func104, Tryz.ntmps104
      go_wp2_with fail
      refine hc.mono ?_
      rintro e w1 ⟨d, cd, y, hy, rfl, hsy, hL, hd⟩
      obtain ⟨⟨d1, z1⟩, hX⟩ := HW.out w1 d cd y hL hsy hd false
      have HX : Hid ((∀ g o, d = some ⟨g, o, none⟩ → w.heap.size ≤ g) ∧ Sees (w1.setCell ⟨q, 1, none⟩ (.bool false)) d cd y ∧ FrM l c (w1.setCell ⟨q, 1, none⟩ (.bool false)) q ⟨m, false⟩ F ∧ Apart F w (w1.setCell ⟨q, 1, none⟩ (.bool false))) := ⟨hd, hX⟩
      clear hc hL HW c0 c1 hX hsy hd
      go_wp2
      go_ret
      exact ⟨d, cd, y, hy, rfl, HX.out.2.1, HX.out.1, HX.out.2.2⟩
    · have g0 : ((P : Int) != 0) = true := by simp; omega
      have e0 : (false || decide (P ≠ 0)) = true := by simp [h0]
      rw [e0]
      clear h0 e0
      go_enter Tryz.func104, Tryz.ntmps104
      go_wp2_with fail
      refine hc.mono ?_
      rintro e w1 ⟨d, cd, y, hy, rfl, hsy, hL, hd⟩
      obtain ⟨⟨d1, z1⟩, hX⟩ := HW.out w1 d cd y hL hsy hd true
      have HX : Hid ((∀ g o, d = some ⟨g, o, none⟩ → w.heap.size ≤ g) ∧ Sees (w1.setCell ⟨q, 1, none⟩ (.bool true)) d cd y ∧ FrM l c (w1.setCell ⟨q, 1, none⟩ (.bool true)) q ⟨m, true⟩ F ∧ Apart F w (w1.setCell ⟨q, 1, none⟩ (.bool true))) := ⟨hd, hX⟩
      clear hc hL HW c0 c1 hX hsy hd
      go_wp2
      go_ret
      exact ⟨d, cd, y, hy, rfl, HX.out.2.1, HX.out.1, HX.out.2.2⟩
  · rw [Bool.true_or]
    go_enter Tryz.func104, Tryz.ntmps104
    go_wp2_with fail
    refine hc.mono ?_
    rintro e w1 ⟨d, cd, y, hy, rfl, hsy, hL, hd⟩
    obtain ⟨⟨d1, z1⟩, hX⟩ := HW.out w1 d cd y hL hsy hd true
    have HX : Hid ((∀ g o, d = some ⟨g, o, none⟩ → w.heap.size ≤ g) ∧ Sees (w1.setCell ⟨q, 1, none⟩ (.bool true)) d cd y ∧ FrM l c (w1.setCell ⟨q, 1, none⟩ (.bool true)) q ⟨m, true⟩ F ∧ Apart F w (w1.setCell ⟨q, 1, none⟩ (.bool true))) := ⟨hd, hX⟩
    clear hc hL HW c0 c1 hX hsy hd
    go_wp2
    go_ret
    exact ⟨d, cd, y, hy, rfl, HX.out.2.1, HX.out.1, HX.out.2.2⟩

theorem hand_rd (l : List UInt8) (c q : Nat) : Hand 103 104 (.pointer (some ⟨q, 0, none⟩)) (FrM l c) q (fun s _ V => numN l s V) (fun s _ V => numS l s V) (fun s _ n => lstN l s n) (fun s _ n => lstS l s n) where
  kept := frm_kept l c
  ei := fun args w => by simp [callFunc, Tryz.func103, Tryz.f103]
  ej := fun args w => by simp [callFunc, Tryz.func104, Tryz.f104]
  lt := fun s _ V _ hV => Nat.lt_of_lt_of_le (num_lt2 l s V) (Nat.le_trans (Nat.pow_le_pow_right (by omega) hV) (by decide))
  lt5 := fun s _ _ => by have := num_lt2 l s 5; omega
  lt64 := fun s _ V _ hV => Nat.lt_of_lt_of_le (num_lt2 l s V) (Nat.pow_le_pow_right (n := 2) (i := V) (j := 64) (by omega) hV)
  num := fun w s F n V hm _ _ => (rnum_ok l c w q s F n V hm).mono fun e w' ⟨he, h1, h2⟩ => ⟨he, F, h1, h2, fun _ h => .inl h⟩
  list := fun w s F x cx m n hm _ _ _ => (rlist_ok l c w q s F _ n hm).mono fun e w' ⟨d, cd, y, hy, he, h1, h2, h3, h4⟩ => ⟨d, cd, y, hy, he, h1, F, h3, h4, fun _ h => .inl h, fun b off e _ hb => by
    have := h2 b off e
    have := (frm_kept l c).lt hm b hb
    omega⟩

set_option maxHeartbeats 800000 in
set_option maxRecDepth 20000 in
theorem reading_ok (w : World) (q : Nat) : Calls Tryz.prog 77 #[.pointer (some ⟨q, 0, none⟩)] w fun e w' => e = .returned (.agg #[.func (.func 103) #[.pointer (some ⟨q, 0, none⟩)] #[], .func (.func 104) #[.pointer (some ⟨q, 0, none⟩)] #[]]) ∧ Below w.heap.size w w' := by
  have hmf : ∀ (fn : Fn) (first cap : Array Value) (w : World), (Instr.makeFunc fn first cap).run Tryz.prog w = .ok (.func fn first cap) w := fun _ _ _ _ => rfl
  obtain ⟨W, hst, hW, hb⟩ := hand_laid1 w (.func 103) (.func 104) (.pointer (some ⟨q, 0, none⟩))
  have HST : Hid ((Instr.storeAt 59 (.pointer (some ⟨w.heap.size, 0, none⟩)) (.agg #[.func (.func 103) #[.pointer (some ⟨q, 0, none⟩)] #[], .func (.func 104) #[.pointer (some ⟨q, 0, none⟩)] #[]])).run Tryz.prog (w.alloc (.cells #[.nilFunc, .nilFunc] 59)) = .ok () W) := hst
  have HW : Hid (W.heap[w.heap.size]? = some (.cells #[.func (.func 103) #[.pointer (some ⟨q, 0, none⟩)] #[], .func (.func 104) #[.pointer (some ⟨q, 0, none⟩)] #[]] 59 (0, 0)) ∧ Below w.heap.size w W) := ⟨hW, hb⟩
  clear hst hW hb
  go_enter Tryz.func77, Tryz.ntmps77
  go_wp2_with (first | (refine wpList_store_run rfl 59 _ _ rfl _ _ rfl rfl HST.out ?_) | fail)
  refine bodyPost_ret (results_cell_row rfl _ W w.heap.size 59 _ (0, 0) _ rfl HW.out.1 Tryz.underlying59 rfl (by kernel_rfl)) rfl ?_
  exact ⟨rfl, HW.out.2⟩
end Go.Proofs.YtaihjnaggmmiiaaGreatDoor
