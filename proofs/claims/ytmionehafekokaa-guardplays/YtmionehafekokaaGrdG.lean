/-
  A guard is made, the program's; what the law's own config is.
-/
import Derived.Test.YtmionehafekokaaGrdF
namespace Go.Proofs.Ytmionehafekokaa
open Go.ChangeShapes Go.WideShapes Go.ChangeAt Go.RowKit

theorem build54 (c : Cf) (i : Int) (m : Nat) (w : World) : (Instr.build 54 [(0, .agg (cfC c)), (1, .int .i64 i), (2, .int .i64 (-1)), (4, .map (some m))].toArray).run Try.prog w = .ok (.agg (gdL (newG c i) m (.slice none 0 0)).toArray) w := by kernel_rfl
theorem gd_one (v : Gs) (m : Nat) (s : Value) (hs : s.oneCell' = true) : (gdL v m s).toArray.all (·.oneCell') = true := all_oneCell_toArray (by
  intro u hu
  simp only [gdL, List.mem_cons, List.not_mem_nil, or_false] at hu
  rcases hu with rfl | rfl | rfl | rfl | rfl | rfl | rfl | rfl | rfl | rfl | rfl | rfl | rfl | rfl | rfl <;> first | rfl | exact hs)

set_option maxHeartbeats 1600000 in
set_option maxRecDepth 20000 in
theorem new_ok (w : World) (c : Cf) (i : Int) (h : nodeB c i = true) : Calls Try.prog 7 #[.agg (cfC c), .int .i64 i] w fun e w' => ∃ g m, e = .returned (.tuple #[.pointer (some ⟨g, 0, none⟩), .int .i64 0]) ∧ Gd w' g m (.slice none 0 0) (newG c i) [] 0 ∧ w.heap.size ≤ g ∧ w.heap.size ≤ m ∧ Below w.heap.size w w' := by
  obtain ⟨ho, i0, i1⟩ := node_ok h
  have H0 : Hid (Cfg w w.heap.size c (w.alloc (.cells (cfC c) 23))) := Cfg.new w c
  have HL : Hid ((Instr.loadAt 23 (.pointer (some ⟨w.heap.size, 0, none⟩))).run Try.prog (w.alloc (.cells (cfC c) 23)) = .ok (.agg (cfC c)) (w.alloc (.cells (cfC c) 23))) := H0.out.own.loads
  have K1 := check_ok (w.alloc (.cells (cfC c) 23)) c
  rw [ho, if_pos rfl] at K1
  clear h ho
  go_enter Try.func7, Try.ntmps7
  go_wp2_with (first | (refine wpList_gload_run rfl 23 _ rfl _ _ rfl HL.out ?_) | fail)
  refine K1.mono ?_
  rintro e w1 ⟨rfl, hb⟩
  have H1 : Hid (Cfg w w.heap.size c w1) := H0.out.step hb
  have p0 := H1.out.own.c0
  have HL2 : Hid ((Instr.loadAt 23 (.pointer (some ⟨w.heap.size, 0, none⟩))).run Try.prog w1 = .ok (.agg (cfC c)) w1) := H1.out.own.loads
  have HBd : Hid (∀ W, (Instr.build 54 [(0, .agg (cfC c)), (1, .int .i64 i), (2, .int .i64 (-1)), (4, .map (some w1.heap.size))].toArray).run Try.prog W = .ok (.agg (gdL (newG c i) w1.heap.size (.slice none 0 0)).toArray) W) := fun W => build54 c i w1.heap.size W
  have hmm := @run_makeMap Try.prog
  clear K1 HL H0 hb
  go_wp2_with (first | (refine wpList_gload_run rfl 23 _ rfl _ _ rfl HL2.out ?_) | (refine wpList_build_run rfl 54 _ rfl _ _ rfl (HBd.out _) ?_) | fail)
  go_ret2
  have hb1 : Below w1.heap.size w1 (w1.alloc (.map #[] 0)) := Go.Joins.below_alloc1 _ _
  have hM : MapAt (w1.alloc (.map #[] 0)) w1.heap.size 0 [] := MapAt.new w1
  have hb2 : Below (w1.alloc (.map #[] 0)).heap.size (w1.alloc (.map #[] 0)) ((w1.alloc (.map #[] 0)).alloc (.cells (gdL (newG c i) w1.heap.size (.slice none 0 0)).toArray 54)) := Go.Joins.below_alloc1 _ _
  have hs1 : w.heap.size ≤ w1.heap.size := H1.out.bel.size
  have e1 : (w1.alloc (.map #[] 0)).heap.size = w1.heap.size + 1 := by simp
  have hG := heap_alloc_new (w1.alloc (.map #[] 0)) (.cells (gdL (newG c i) w1.heap.size (.slice none 0 0)).toArray 54)
  rw [e1] at hG
  refine ⟨w1.heap.size + 1, w1.heap.size, rfl, ⟨hG, hM.keep (hb2.block _ hM.lt), RsAt.nil _, ties_nil, Nat.le_refl _⟩, ?_, hs1, ?_⟩
  · omega
  · exact (H1.out.bel.alloc hs1 _).alloc (Nat.le_trans hs1 hb1.size) _

set_option maxHeartbeats 1600000 in
set_option maxRecDepth 20000 in
theorem new_no (w : World) (c : Cf) (i : Int) (h : nodeB c i = false) : Calls Try.prog 7 #[.agg (cfC c), .int .i64 i] w fun e w' => e = .returned (.tuple #[.pointer none, .int .i64 1]) ∧ Below w.heap.size w w' := by
  have H0 : Hid (Cfg w w.heap.size c (w.alloc (.cells (cfC c) 23))) := Cfg.new w c
  have HL : Hid ((Instr.loadAt 23 (.pointer (some ⟨w.heap.size, 0, none⟩))).run Try.prog (w.alloc (.cells (cfC c) 23)) = .ok (.agg (cfC c)) (w.alloc (.cells (cfC c) 23))) := H0.out.own.loads
  have K1 := check_ok (w.alloc (.cells (cfC c) 23)) c
  cases ho : okB c
  · rw [ho, if_neg Bool.false_ne_true] at K1
    clear h ho
    go_enter Try.func7, Try.ntmps7
    go_wp2_with (first | (refine wpList_gload_run rfl 23 _ rfl _ _ rfl HL.out ?_) | fail)
    refine K1.mono ?_
    rintro e w1 ⟨rfl, hb⟩
    have H1 : Hid (Cfg w w.heap.size c w1) := H0.out.step hb
    clear K1 HL H0 hb
    go_wp2
    go_ret2
    exact ⟨rfl, H1.out.bel⟩
  · rw [ho, if_pos rfl] at K1
    by_cases i0 : i < 0
    · clear h ho
      go_enter Try.func7, Try.ntmps7
      go_wp2_with (first | (refine wpList_gload_run rfl 23 _ rfl _ _ rfl HL.out ?_) | fail)
      refine K1.mono ?_
      rintro e w1 ⟨rfl, hb⟩
      have H1 : Hid (Cfg w w.heap.size c w1) := H0.out.step hb
      clear K1 HL H0 hb
      go_wp2
      go_ret2
      exact ⟨rfl, H1.out.bel⟩
    · have i1 : c.n ≤ i := by
        simp only [nodeB, ho, Bool.true_and, decide_eq_false_iff_not] at h
        omega
      clear h ho
      go_enter Try.func7, Try.ntmps7
      go_wp2_with (first | (refine wpList_gload_run rfl 23 _ rfl _ _ rfl HL.out ?_) | fail)
      refine K1.mono ?_
      rintro e w1 ⟨rfl, hb⟩
      have H1 : Hid (Cfg w w.heap.size c w1) := H0.out.step hb
      have p0 := H1.out.own.c0
      clear K1 HL H0 hb
      go_wp2
      go_ret2
      exact ⟨rfl, H1.out.bel⟩
end Go.Proofs.Ytmionehafekokaa
