/-
  The program's New.
-/
import Derived.Test.YtgncdnejmobjbaaGreatDoorRenT
namespace Go.Proofs.YtgncdnejmobjbaaGreatDoor
open Go.ChangeShapes Go.WideShapes Go.ChangeAt Go.RowKit
set_option maxRecDepth 20000

theorem exec_build {P : Program} {o : Oper} {a : Act} {w : World} (t : TypeId) (parts : Array (Nat × Operand)) (ho : o.op = .build t parts) (vs : List (Nat × Value)) (r : Value) (hp : parts.toList.map (fun p => (p.1, a.eval p.2)) = vs) (hrun : (Instr.build t vs.toArray).run P w = .ok r w) : (execOp a.eval o).run P w = .ok (.value r) w := by
  have hq : parts.map (fun p => (p.1, a.eval p.2)) = vs.toArray := by rw [← hp, ← Array.toList_map, Array.toArray_toList]
  unfold execOp
  simp only [ho, hq, Sem.run_bind, hrun, Result.andThen_ok, Sem.run_pure]

set_option maxHeartbeats 1600000 in
theorem pnew_ok (w : World) (c : Cf) (a : Option Addr) (ca : Nat) (own : List UInt8) (sl : Int) (ha : Sees w a ca own) (h : rnB c own sl = true) : Calls Tryz.prog 5 #[.agg (cfC c), .slice a own.length ca, .int .i64 sl] w fun e w' => ∃ R oa oc x, e = .returned (.tuple #[.pointer (some ⟨R, 0, none⟩), .int .i64 0]) ∧ w.heap.size ≤ R ∧ PNAll w' R (rnNew c own sl) oa oc x ∧ Below w.heap.size w w' := by
  obtain ⟨r1, r2, r3, r4⟩ := rnB_iff.1 h
  have HL : Hid ((Instr.loadAt 23 (.pointer (some ⟨w.heap.size, 0, none⟩))).run Tryz.prog (w.alloc (.cells (cfC c) 23)) = .ok (.agg (cfC c)) (w.alloc (.cells (cfC c) 23))) := (CfAt.new w c).loads
  have K1 := scheck_ok (w.alloc (.cells (cfC c) 23)) c
  rw [if_pos r1] at K1
  have H0 : Hid (Below w.heap.size w (w.alloc (.cells (cfC c) 23))) := (Below.refl _ _).alloc (Nat.le_refl _) _
  have C0 : Hid (CfAt (w.alloc (.cells (cfC c) 23)) w.heap.size c) := CfAt.new w c
  have HB : Hid (∀ V d cd, (Instr.build 61 #[(0, .agg (cfC c)), (1, .slice d 16 cd), (2, .int .i64 sl), (3, .int .i64 (-1)), (4, .int .i64 (-1))]).run Tryz.prog V = .ok (.agg (pnL (rnNew c own sl) d cd (.slice none 0 0) (.int .i64 0) (.int .i64 0) (.slice none 0 0) (.slice none 0 0)).toArray) V) := fun V d cd => by rw [← r2]; exact pnbuild V c d cd own sl
  have HS : Hid (Sees w a ca own ∧ own.length = 16) := ⟨ha, r2⟩
  have g0 : ¬ (sl < 0) := by omega
  have g1 : ¬ (c.n ≤ sl) := by omega
  rw [r2]
  clear ha h r1 r2 r3 r4
  go_enter Tryz.func5, Tryz.ntmps5
  go_upto_region 1 with fail
  generalize hW : w.alloc (Obj.cells (cfC c) 23) = W at *
  go_wp2_with (first | (refine wpList_gload_run rfl 23 _ rfl _ _ rfl HL.out ?_) | fail)
  refine K1.mono ?_
  rintro e w1 ⟨rfl, hb1⟩
  have H1 : Hid (Below w.heap.size w w1) := H0.out.trans (hb1.mono H0.out.size)
  have C1 : Hid (CfAt w1 w.heap.size c) := C0.out.below hb1
  have c1 := C1.out.c0
  clear K1 hb1 C0 HL H0 hW
  have KC : Hid (∀ V, Below w1.heap.size w1 V → Calls Tryz.prog 21 #[.slice a 16 ca] V fun e w' => ∃ d cd, e = .returned (.slice d 16 cd) ∧ Sees w' d cd own ∧ Below w1.heap.size w1 w') := fun V hV => by
    have hh := bclone_any V a ca own (HS.out.1.below (H1.out.trans (hV.mono H1.out.size))) (by rw [HS.out.2]; omega)
    rw [HS.out.2] at hh
    exact hh.mono fun e w' ⟨d, cd, h1, h2, h3⟩ => ⟨d, cd, h1, h2, hV.trans (h3.mono hV.size)⟩
  have hS0 : (Instr.loadAt 23 (.pointer (some ⟨w.heap.size, 0, none⟩))).run Tryz.prog w1.drew = .ok (.agg (cfC c)) w1.drew := (C1.out.below ((Below.refl w1.heap.size w1).drew)).loads
  replace KC := KC.out w1.drew (Below.refl _ _).drew
  go_wp2_with fail
  refine wp_region_noPanic ?_
  refine wp_region_held (S := fun V => (Instr.loadAt 23 (.pointer (some ⟨w.heap.size, 0, none⟩))).run Tryz.prog V = .ok (.agg (cfC c)) V) (by kernel_rfl) ?_
  have hS := hS0
  refine any_take 0 (Value.agg (cfC c)) rfl (by kernel_rfl) (by kernel_rfl) (by kernel_rfl) (fun _ _ _ h => h) (by rfl) (fun W hW => exec_load 23 (.tmp 3) rfl _ _ rfl hW) hS ?_
  (try simp only [Act.put, List.setIfInBounds_toArray, List.set_cons_zero, List.set_cons_succ])
  refine any_take 1 ?vrnn1 rfl (by kernel_rfl) (by kernel_rfl) (by kernel_rfl) (fun _ _ _ h => h) (by rfl) ?hrnn1 hS ?_
  case hrnn1 => (intro w hSw; (try dsimp only at hSw); go_split_ands; go_simp; (try with_reducible rfl))
  (try simp only [Act.put, List.setIfInBounds_toArray, List.set_cons_zero, List.set_cons_succ])
  refine any_take 3 ?vrnn2 rfl (by kernel_rfl) (by kernel_rfl) (by kernel_rfl) (fun _ _ _ h => h) (by rfl) ?hrnn2 hS ?_
  case hrnn2 => (intro w hSw; (try dsimp only at hSw); go_split_ands; go_simp; (try with_reducible rfl))
  (try simp only [Act.put, List.setIfInBounds_toArray, List.set_cons_zero, List.set_cons_succ])
  refine any_one 2 rfl (by kernel_rfl) (by rfl) (fun K hK => ?_)
  clear hS
  go_simp
  refine KC.mono ?_
  rintro ev w2 ⟨d, cd, rfl, hs2, hb2⟩
  have HD2 : Hid (Sees w2 d cd own ∧ Below w1.heap.size w1 w2) := ⟨hs2, hb2⟩
  have hQ2 := (C1.out.below hb2).loads
  clear KC hs2 hb2
  refine hK.out _ _ (hQ2) (fun hS => ?_)
  clear hK
  (try simp only [Act.put, List.setIfInBounds_toArray, List.set_cons_zero, List.set_cons_succ])
  refine any_take 4 (Value.agg (pnL (rnNew c own sl) d cd (.slice none 0 0) (.int .i64 0) (.int .i64 0) (.slice none 0 0) (.slice none 0 0)).toArray) rfl (by kernel_rfl) (by kernel_rfl) (by kernel_rfl) (fun _ _ _ h => h) (by rfl) (fun W _ => exec_build 61 _ rfl [(0, .agg (cfC c)), (1, .slice d 16 cd), (2, .int .i64 sl), (3, .int .i64 (-1)), (4, .int .i64 (-1))] _ rfl (HB.out W d cd)) hS ?_
  (try simp only [Act.put, List.setIfInBounds_toArray, List.set_cons_zero, List.set_cons_succ])
  refine any_one 5 rfl (by kernel_rfl) (by rfl) (fun K hK => ?_)
  clear hS
  go_simp
  refine hK.out _ _ ((C1.out.below (HD2.out.2.trans (((Below.refl w2.heap.size w2).alloc (Nat.le_refl _) _).mono HD2.out.2.size))).loads) (fun hS => ?_)
  clear hK
  (try simp only [Act.put, List.setIfInBounds_toArray, List.set_cons_zero, List.set_cons_succ])
  refine any_take 6 ?vrnn3 rfl (by kernel_rfl) (by kernel_rfl) (by kernel_rfl) (fun _ _ _ h => h) (by rfl) ?hrnn3 hS ?_
  case hrnn3 => (intro w hSw; (try dsimp only at hSw); go_split_ands; go_simp; (try with_reducible rfl))
  (try simp only [Act.put, List.setIfInBounds_toArray, List.set_cons_zero, List.set_cons_succ])
  refine any_take 7 ?vrnn4 rfl (by kernel_rfl) (by kernel_rfl) (by kernel_rfl) (fun _ _ _ h => h) (by rfl) ?hrnn4 hS ?_
  case hrnn4 => (intro w hSw; (try dsimp only at hSw); go_split_ands; go_simp; (try with_reducible rfl))
  (try simp only [Act.put, List.setIfInBounds_toArray, List.set_cons_zero, List.set_cons_succ])
  refine wpAnyH_done (by kernel_rfl) ?_ _
  refine NoPanic.normal ?_
  clear hS hS0 hQ2
  obtain ⟨W3, hW3⟩ : ∃ W3, W3 = w2.alloc (.cells (pnL (rnNew c own sl) d cd (.slice none 0 0) (.int .i64 0) (.int .i64 0) (.slice none 0 0) (.slice none 0 0)).toArray 61) := ⟨_, rfl⟩
  have hb3 : Below w2.heap.size w2 W3 := by rw [hW3]; exact (Below.refl _ _).alloc (Nat.le_refl _) _
  have hat : PNAt W3 w2.heap.size (rnNew c own sl) d cd (.slice none 0 0) (.int .i64 0) (.int .i64 0) (.slice none 0 0) (.slice none 0 0) := by rw [hW3]; exact heap_alloc_new _ _
  have hb2 : Below w.heap.size w w2 := H1.out.trans (HD2.out.2.mono H1.out.size)
  have HE : Hid (w.heap.size ≤ w2.heap.size ∧ PNAll W3 w2.heap.size (rnNew c own sl) d cd ⟨w2.heap.size, 0, none, 0, 0, 0, [], w2.heap.size, 0, []⟩ ∧ Below w.heap.size w W3) :=
    ⟨hb2.size, .idle hat (HD2.out.1.below hb3) rfl ⟨rfl, rfl⟩, hb2.trans (hb3.mono hb2.size)⟩
  have HW3 : Hid (W3 = w2.alloc (.cells (pnL (rnNew c own sl) d cd (.slice none 0 0) (.int .i64 0) (.int .i64 0) (.slice none 0 0) (.slice none 0 0)).toArray 61)) := hW3
  clear hat hb3 hb2 hW3
  go_wp2
  rw [← HW3.out]
  go_ret2
  exact ⟨_, d, cd, _, rfl, HE.out⟩
end Go.Proofs.YtgncdnejmobjbaaGreatDoor
