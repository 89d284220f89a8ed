/-
  The document's New and Clear.
-/
import Derived.Test.YtoibndfiolipbaaBrfA
namespace Go.Proofs.Ytoibndfiolipbaa
open Go.ChangeShapes Go.WideShapes Go.ChangeAt Go.RowKit
set_option maxRecDepth 20000

theorem dbuild (w : World) (c : Cf) (i : Int) (g n : Nat) : (Instr.build 70 [(0, .agg (cfC c)), (1, .int .i64 i), (2, .slice (some ⟨g, 0, none⟩) n n)].toArray).run Try.prog w = .ok (.agg (rbL (newT c i) (.slice (some ⟨g, 0, none⟩) n n)).toArray) w := run_build w 70 _ _ (by kernel_rfl)

set_option maxHeartbeats 1600000 in
theorem dnew_ok (w : World) (c : Cf) (i : Int) (h : nodeB c i = true) : Calls Try.prog 8 #[.agg (cfC c), .int .i64 i] w fun e w' => ∃ g q, e = .returned (.tuple #[.pointer (some ⟨g, 0, none⟩), .int .i64 0]) ∧ Rd w' g q (newT c i) ∧ w.heap.size ≤ g ∧ w.heap.size ≤ q ∧ Below w.heap.size w w' := by
  obtain ⟨ho, i0, i1⟩ := node_ok h
  obtain ⟨N, hN⟩ : ∃ N : Nat, c.n = (N : Int) := ⟨c.n.toNat, by omega⟩
  have hN8 : N ≤ 8 := by have := (right_of ho).n1; omega
  have H0 : Hid (Cfg w w.heap.size c (w.alloc (.cells (cfC c) 23))) := Cfg.new w c
  have HL : Hid ((Instr.loadAt 23 (.pointer (some ⟨w.heap.size, 0, none⟩))).run Try.prog (w.alloc (.cells (cfC c) 23)) = .ok (.agg (cfC c)) (w.alloc (.cells (cfC c) 23))) := H0.out.own.loads
  have K1 := rcheck_ok (w.alloc (.cells (cfC c) 23)) c
  rw [ho, if_pos rfl] at K1
  have HB : Hid (∀ V g, (Instr.build 70 [(0, .agg (cfC c)), (1, .int .i64 i), (2, .slice (some ⟨g, 0, none⟩) N N)].toArray).run Try.prog V = .ok (.agg (rbL (newT c i) (.slice (some ⟨g, 0, none⟩) N N)).toArray) V) := fun V g => dbuild V c i g N
  have HS : Hid (c.n = (N : Int) ∧ N ≤ 8) := ⟨hN, hN8⟩
  have g1 : ¬ ((N : Int) ≤ i) := by omega
  have g0 : ¬ (i < 0) := by omega
  clear h ho i0 i1 hN hN8
  go_enter Try.func8, Try.ntmps8
  go_wp2_with (first | (refine wpList_gload_run rfl 23 _ rfl _ _ rfl HL.out ?_) | fail)
  refine K1.mono ?_
  rintro e w1 ⟨rfl, hb⟩
  have H1 : Hid (Cfg w w.heap.size c w1) := H0.out.step hb
  have p0 := H1.out.own.c0
  rw [HS.out.1] at p0
  clear K1 HL H0 hb
  have HQ : Hid (∀ V, Below w1.heap.size w1 V → ((Instr.loadAt 23 (.pointer (some ⟨w.heap.size, 0, none⟩))).run Try.prog V = .ok (.agg (cfC c)) V ∧ V.cell? ⟨w.heap.size, 0, none⟩ = some (.int .i64 (N : Int)))) := fun V hV => ⟨(H1.out.own.below hV).loads, by rw [← HS.out.1]; exact (H1.out.own.below hV).c0⟩
  have hS0 := HQ.out w1.drew (Below.refl _ _).drew
  go_upto_region 3 with fail
  refine wp_region_noPanic ?_
  refine wp_region_held (S := fun V => (Instr.loadAt 23 (.pointer (some ⟨w.heap.size, 0, none⟩))).run Try.prog V = .ok (.agg (cfC c)) V ∧ V.cell? ⟨w.heap.size, 0, none⟩ = some (.int .i64 (N : Int))) (by kernel_rfl) ?_
  have hS := hS0
  refine any_take 0 (Value.agg (cfC c)) rfl (by kernel_rfl) (by kernel_rfl) (by kernel_rfl) (fun _ _ _ h => h) (by rfl) (fun W hW => exec_load 23 (.tmp 2) rfl _ _ rfl hW.1) hS ?_
  (try simp only [Act.put, List.setIfInBounds_toArray, List.set_cons_zero, List.set_cons_succ])
  refine any_take 1 ?vrnn1 rfl (by kernel_rfl) (by kernel_rfl) (by kernel_rfl) (fun _ _ _ h => h) (by rfl) ?hrnn1 hS ?_
  case hrnn1 => (intro w hSw; (try dsimp only at hSw); go_split_ands; go_simp; (try with_reducible rfl))
  (try simp only [Act.put, List.setIfInBounds_toArray, List.set_cons_zero, List.set_cons_succ])
  refine any_take 2 ?vrnn2 rfl (by kernel_rfl) (by kernel_rfl) (by kernel_rfl) (fun _ _ _ h => h) (by rfl) ?hrnn2 hS ?_
  case hrnn2 => (intro w hSw; (try dsimp only at hSw); go_split_ands; go_simp; (try with_reducible rfl))
  (try simp only [Act.put, List.setIfInBounds_toArray, List.set_cons_zero, List.set_cons_succ])
  refine any_take 3 ?vrnn3 rfl (by kernel_rfl) (by kernel_rfl) (by kernel_rfl) (fun _ _ _ h => h) (by rfl) ?hrnn3 hS ?_
  case hrnn3 => (intro w hSw; (try dsimp only at hSw); go_split_ands; go_simp; (try with_reducible rfl))
  (try simp only [Act.put, List.setIfInBounds_toArray, List.set_cons_zero, List.set_cons_succ])
  refine any_one 4 rfl (by kernel_rfl) (by rfl) (fun K hK => ?_)
  clear hS
  refine op_makeK _ _ N HS.out.2 rfl rfl rfl ?_
  intro wm hwm hbm
  have hbm2 : Below w1.heap.size w1 wm := (Below.refl w1.heap.size w1).drew.trans hbm
  have hQ2 := HQ.out wm hbm2
  refine hK.out _ _ (hQ2) (fun hS => ?_)
  clear hK
  (try simp only [Act.put, List.setIfInBounds_toArray, List.set_cons_zero, List.set_cons_succ])
  refine any_take 5 (Value.agg (rbL (newT c i) (.slice (some ⟨w1.heap.size, 0, none⟩) N N)).toArray) rfl (by kernel_rfl) (by kernel_rfl) (by kernel_rfl) (fun _ _ _ h => h) (by rfl) (fun W _ => rexec_build 70 _ rfl [(0, .agg (cfC c)), (1, .int .i64 i), (2, .slice (some ⟨w1.heap.size, 0, none⟩) N N)] _ rfl (HB.out W _)) hS ?_
  (try simp only [Act.put, List.setIfInBounds_toArray, List.set_cons_zero, List.set_cons_succ])
  refine any_one 6 rfl (by kernel_rfl) (by rfl) (fun K hK => ?_)
  clear hS
  go_simp
  obtain ⟨W3, hW3⟩ : ∃ W3, W3 = wm.alloc (.cells (rbL (newT c i) (.slice (some ⟨w1.heap.size, 0, none⟩) N N)).toArray 70) := ⟨_, rfl⟩
  have hb3 : Below wm.heap.size wm W3 := by rw [hW3]; exact (Below.refl _ _).alloc (Nat.le_refl _) _
  have hb13 : Below w1.heap.size w1 W3 := hbm2.trans (hb3.mono hbm2.size)
  have hfin : Rd W3 wm.heap.size w1.heap.size (newT c i) ∧ w.heap.size ≤ wm.heap.size ∧ w.heap.size ≤ w1.heap.size ∧ Below w.heap.size w W3 := by
    have hz := H1.out.bel.size
    have hz2 := hbm2.size
    have hn : (newT c i).c.n.toNat = N := by show c.n.toNat = N; rw [HS.out.1]; rfl
    refine ⟨⟨?_, ?_⟩, by omega, hz, H1.out.bel.trans (hb13.mono hz)⟩
    · show RA W3 _ _ (.slice (some ⟨w1.heap.size, 0, none⟩) (newT c i).c.n.toNat (newT c i).c.n.toNat)
      rw [hn, hW3]; exact heap_alloc_new _ _
    · rw [rowK_none (v := newT c i) (fun _ => rfl), hn]
      exact (hb3.block _ hwm.lt).trans hwm
  rw [← hW3]
  have hQ3 := HQ.out W3 hb13
  clear hW3 hb3 hb13 hwm hbm hbm2
  refine hK.out _ _ (hQ3) (fun hS => ?_)
  clear hK
  (try simp only [Act.put, List.setIfInBounds_toArray, List.set_cons_zero, List.set_cons_succ])
  refine any_take 7 ?vrnn4 rfl (by kernel_rfl) (by kernel_rfl) (by kernel_rfl) (fun _ _ _ h => h) (by rfl) ?hrnn4 hS ?_
  case hrnn4 => (intro w hSw; (try dsimp only at hSw); go_split_ands; go_simp; (try with_reducible rfl))
  (try simp only [Act.put, List.setIfInBounds_toArray, List.set_cons_zero, List.set_cons_succ])
  refine any_take 8 ?vrnn5 rfl (by kernel_rfl) (by kernel_rfl) (by kernel_rfl) (fun _ _ _ h => h) (by rfl) ?hrnn5 hS ?_
  case hrnn5 => (intro w hSw; (try dsimp only at hSw); go_split_ands; go_simp; (try with_reducible rfl))
  (try simp only [Act.put, List.setIfInBounds_toArray, List.set_cons_zero, List.set_cons_succ])
  refine wpAnyH_done (by kernel_rfl) ?_ _
  refine NoPanic.normal ?_
  clear hS hS0 HQ hQ2 hQ3
  have HE : Hid (Rd W3 wm.heap.size w1.heap.size (newT c i) ∧ w.heap.size ≤ wm.heap.size ∧ w.heap.size ≤ w1.heap.size ∧ Below w.heap.size w W3) := hfin
  clear hfin
  go_wp2
  go_ret2
  exact ⟨_, _, rfl, HE.out⟩

set_option maxHeartbeats 1600000 in
theorem dnew_no (w : World) (c : Cf) (i : Int) (h : nodeB c i = false) : Calls Try.prog 8 #[.agg (cfC c), .int .i64 i] w fun e w' => e = .returned (.tuple #[.pointer none, .int .i64 1]) ∧ Below w.heap.size w w' := by
  have H0 : Hid (Cfg w w.heap.size c (w.alloc (.cells (cfC c) 23))) := Cfg.new w c
  have HL : Hid ((Instr.loadAt 23 (.pointer (some ⟨w.heap.size, 0, none⟩))).run Try.prog (w.alloc (.cells (cfC c) 23)) = .ok (.agg (cfC c)) (w.alloc (.cells (cfC c) 23))) := H0.out.own.loads
  have K1 := rcheck_ok (w.alloc (.cells (cfC c) 23)) c
  cases ho : okB c
  · rw [ho, if_neg Bool.false_ne_true] at K1
    clear h ho
    go_enter Try.func8, Try.ntmps8
    go_wp2_with (first | (refine wpList_gload_run rfl 23 _ rfl _ _ rfl HL.out ?_) | fail)
    refine K1.mono ?_
    rintro e w1 ⟨rfl, hb⟩
    have H1 : Hid (Cfg w w.heap.size c w1) := H0.out.step hb
    clear K1 HL H0 hb
    go_wp2
    go_ret2
    exact ⟨rfl, H1.out.bel⟩
  · rw [ho, if_pos rfl] at K1
    by_cases i0 : i < 0
    · clear h ho
      go_enter Try.func8, Try.ntmps8
      go_wp2_with (first | (refine wpList_gload_run rfl 23 _ rfl _ _ rfl HL.out ?_) | fail)
      refine K1.mono ?_
      rintro e w1 ⟨rfl, hb⟩
      have H1 : Hid (Cfg w w.heap.size c w1) := H0.out.step hb
      clear K1 HL H0 hb
      go_wp2
      go_ret2
      exact ⟨rfl, H1.out.bel⟩
    · have i1 : c.n ≤ i := by
        simp only [nodeB, ho, Bool.true_and, decide_eq_false_iff_not] at h
        omega
      clear h ho
      go_enter Try.func8, Try.ntmps8
      go_wp2_with (first | (refine wpList_gload_run rfl 23 _ rfl _ _ rfl HL.out ?_) | fail)
      refine K1.mono ?_
      rintro e w1 ⟨rfl, hb⟩
      have H1 : Hid (Cfg w w.heap.size c w1) := H0.out.step hb
      have p0 := H1.out.own.c0
      clear K1 HL H0 hb
      go_wp2
      go_ret2
      exact ⟨rfl, H1.out.bel⟩

set_option maxHeartbeats 1600000 in
theorem dclear_ok (w : World) (g q : Nat) (v : Bt) (h : Rd w g q v) (ok : v.ok) : Calls Try.prog 11 #[.pointer (some ⟨g, 0, none⟩)] w fun e w' => e = .returned (.tuple #[]) ∧ Rd w' g w.heap.size (clrT v) ∧ Apart (fun k => k = g) w w' := by
  have c0 := h.at'.cell 0 rfl
  obtain ⟨N, hN⟩ : ∃ N : Nat, v.c.n = (N : Int) := ⟨v.c.n.toNat, by have := (right_of ok.r).n0; omega⟩
  have hN8 : N ≤ 8 := by have := (right_of ok.r).n1; omega
  rw [hN] at c0
  have H0 : Hid (Rd w g q v ∧ v.c.n = (N : Int) ∧ N ≤ 8) := ⟨h, hN, hN8⟩
  clear h ok hN hN8
  go_enter Try.func11, Try.ntmps11
  go_wp2_with (first | (refine wpList_makeK rfl _ _ N H0.out.2.2 rfl rfl rfl ?_) | fail)
  intro wm hwm hbm
  have hA : RA wm g v (slK q v) := (H0.out.1.below hbm).at'
  have hg := H0.out.1.at'.lt
  have hp : RA (wm.setCell ⟨g, 11, none⟩ (.slice (some ⟨w.heap.size, 0, none⟩) N N)) g (clrT v) (.slice (some ⟨w.heap.size, 0, none⟩) N N) := hA.put 11 _ rfl
  have HE : Hid (Rd (wm.setCell ⟨g, 11, none⟩ (.slice (some ⟨w.heap.size, 0, none⟩) N N)) g w.heap.size (clrT v) ∧ Apart (fun k => k = g) w (wm.setCell ⟨g, 11, none⟩ (.slice (some ⟨w.heap.size, 0, none⟩) N N))) := by
    have hn : v.c.n.toNat = N := by rw [H0.out.2.1]; rfl
    refine ⟨⟨?_, ?_⟩, (Apart.of_below (F := fun k => k = g) hbm).setCell (b := g) (.inl rfl) 11 _⟩
    · show RA _ g (clrT v) (.slice (some ⟨w.heap.size, 0, none⟩) v.c.n.toNat v.c.n.toNat)
      rw [hn]; exact hp
    · rw [rowK_none (v := clrT v) (fun _ => rfl)]
      show DK _ _ (List.replicate v.c.n.toNat none)
      rw [hn]
      unfold DK
      rw [heap_setCell_other _ _ _ _ (show w.heap.size ≠ g by omega)]
      exact hwm
  have c11 := hA.cell 11 rfl
  have f11 := hA.fz 11
  unfold slK at c11
  clear hA hp hwm hbm hg H0
  go_wp2
  go_end0
  exact ⟨rfl, HE.out⟩
end Go.Proofs.Ytoibndfiolipbaa
