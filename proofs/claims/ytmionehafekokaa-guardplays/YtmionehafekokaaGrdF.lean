/-
  What a guard answers where no call made it; a guard is made; Last and Forget.
-/
import Derived.Test.YtmionehafekokaaGrdE
namespace Go.Proofs.Ytmionehafekokaa
open Go.ChangeShapes Go.WideShapes Go.ChangeAt Go.RowKit

/-- A nil guard, or one that no call made. -/
def NoG (w : World) (p : Value) : Prop := p = .pointer none ∨ ∃ g, p = .pointer (some ⟨g, 0, none⟩) ∧ w.cell? ⟨g, 13, none⟩ = some (.map none)
theorem neq_nil (w : World) : (binOp .neq 52 (.map none) (.map none)).run Try.prog w = .ok (.bool false) w := by kernel_rfl
theorem neq_some (m : Nat) (w : World) : (binOp .neq 52 (.map (some m)) (.map none)).run Try.prog w = .ok (.bool true) w := by kernel_rfl
theorem made_no (w : World) (p : Value) (h : NoG w p) : Calls Try.prog 21 #[p] w fun e w' => e = .returned (.bool false) ∧ w' = w := by
  rcases h with rfl | ⟨g, rfl, hc⟩
  · go_enter Try.func21, Try.ntmps21
    go_wp2
    go_ret
    exact ⟨rfl, rfl⟩
  · have hn := neq_nil
    go_enter Try.func21, Try.ntmps21
    go_wp2
    go_ret
    exact ⟨rfl, rfl⟩
theorem made_ok (w : World) (g m : Nat) (h : w.cell? ⟨g, 13, none⟩ = some (.map (some m))) : Calls Try.prog 21 #[.pointer (some ⟨g, 0, none⟩)] w fun e w' => e = .returned (.bool true) ∧ w' = w := by
  have hn := neq_some m
  go_enter Try.func21, Try.ntmps21
  go_wp2
  go_ret
  exact ⟨rfl, rfl⟩
theorem data_no (w : World) (p : Value) (h : NoG w p) (t : Int) : Calls Try.prog 10 #[p, .int .i64 t] w fun e w' => e = .returned (.tuple #[.int .i64 0, .int .i64 7]) ∧ w' = w := by
  have hs := made_no w p h
  clear h
  go_enter Try.func10, Try.ntmps10
  go_wp2_with fail
  refine hs.mono ?_
  rintro e w1 ⟨rfl, rfl⟩
  go_wp2
  go_ret2
  exact ⟨rfl, rfl⟩
theorem other_no (w : World) (p : Value) (h : NoG w p) (t : Int) : Calls Try.prog 12 #[p, .int .i64 t] w fun e w' => e = .returned (.int .i64 7) ∧ w' = w := by
  have hs := made_no w p h
  clear h
  go_enter Try.func12, Try.ntmps12
  go_wp2_with fail
  refine hs.mono ?_
  rintro e w1 ⟨rfl, rfl⟩
  go_wp2
  go_ret
  exact ⟨rfl, rfl⟩
theorem last_no (w : World) (p : Value) (h : NoG w p) : Calls Try.prog 16 #[p] w fun e w' => e = .returned (.int .i64 (-1)) ∧ w' = w := by
  have hs := made_no w p h
  clear h
  go_enter Try.func16, Try.ntmps16
  go_wp2_with fail
  refine hs.mono ?_
  rintro e w1 ⟨rfl, rfl⟩
  go_wp2
  go_ret
  exact ⟨rfl, rfl⟩
theorem forget_no (w : World) (p : Value) (h : NoG w p) (n : Int) : Calls Try.prog 14 #[p, .int .i64 n] w fun e w' => e = .returned (.tuple #[]) ∧ w' = w := by
  have hs := made_no w p h
  clear h
  go_enter Try.func14, Try.ntmps14
  go_wp2_with fail
  refine hs.mono ?_
  rintro e w1 ⟨rfl, rfl⟩
  go_wp2
  refine bodyPost_ret (results_none rfl _ _ _) rfl ?_
  exact ⟨rfl, rfl⟩
theorem last_ok (w : World) (g m : Nat) (v : Gs) (s : Value) (h : GA w g v m s) : Calls Try.prog 16 #[.pointer (some ⟨g, 0, none⟩)] w fun e w' => e = .returned (.int .i64 v.last) ∧ w' = w := by
  have hs := made_ok w g m h.others
  have c11 := h.last
  clear h
  generalize v.last = l at *
  go_enter Try.func16, Try.ntmps16
  go_wp2_with fail
  refine hs.mono ?_
  rintro e w1 ⟨rfl, rfl⟩
  go_wp2
  go_ret
  exact ⟨rfl, rfl⟩
theorem max2i (a b : Int) (w : World) : (Builtin.max_ #[3, 3] 3 #[.int .i64 a, .int .i64 b]).run Try.prog w = .ok (.int .i64 (max a b)) w := by
  simp only [Builtin.max_, List.foldlM_cons, List.foldlM_nil, Builtin.max2, Sem.run_bind, Sem.run_pure, Result.andThen_ok]
  congr 2
  omega
theorem forget_ok (w : World) (g m : Nat) (s : Value) (v : Gs) (rs : List Int) (n : Nat) (h : Gd w g m s v rs n) (l : Int) : Calls Try.prog 14 #[.pointer (some ⟨g, 0, none⟩), .int .i64 l] w fun e w' => e = .returned (.tuple #[]) ∧ Gd w' g m s (forV v l) rs n ∧ Apart (fun k => k = g) w w' := by
  have hs := made_ok w g m h.at'.others
  have c11 := h.at'.last
  have c12 := h.at'.least
  have f11 := h.at'.fz 11
  have f12 := h.at'.fz 12
  have h1 : GA (w.setCell ⟨g, 11, none⟩ (.int .i64 (-1))) g { v with last := -1 } m s := h.at'.put 11 _ rfl
  have h2 : GA ((w.setCell ⟨g, 11, none⟩ (.int .i64 (-1))).setCell ⟨g, 12, none⟩ (.int .i64 (max l 0))) g (forV v l) m s := h1.put 12 _ rfl
  have ho : ∀ k, k ≠ g → ((w.setCell ⟨g, 11, none⟩ (.int .i64 (-1))).setCell ⟨g, 12, none⟩ (.int .i64 (max l 0))).heap[k]? = w.heap[k]? := fun k hk => by
    rw [heap_setCell_other _ _ _ _ hk, heap_setCell_other _ _ _ _ hk]
  have HE : Hid (Gd ((w.setCell ⟨g, 11, none⟩ (.int .i64 (-1))).setCell ⟨g, 12, none⟩ (.int .i64 (max l 0))) g m s (forV v l) rs n ∧ Apart (fun k => k = g) w ((w.setCell ⟨g, 11, none⟩ (.int .i64 (-1))).setCell ⟨g, 12, none⟩ (.int .i64 (max l 0)))) :=
    ⟨⟨h2, h.map.keep (ho m (fun e => h.gm e.symm)), h.row.keep fun k hk => ho k (fun e => h.sg (by subst e; exact hk)), h.tie, h.len⟩,
     ((Apart.refl (fun k => k = g) w).setCell (.inl rfl) 11 _).setCell (.inl rfl) 12 _⟩
  have hm := max2i l 0 w
  clear h h1 h2 ho
  generalize v.last = a at *
  generalize v.least = b at *
  generalize max l 0 = y at *
  go_enter Try.func14, Try.ntmps14
  go_wp2_with fail
  refine hs.mono ?_
  rintro e w1 ⟨rfl, rfl⟩
  go_wp2
  go_end0
  exact ⟨rfl, HE.out⟩

set_option maxHeartbeats 1600000 in
set_option maxRecDepth 20000 in
theorem zero_walk (t : Int) (w : World) (_hn : (Lit.int .i64 t).wf = true) : Calls Try.prog 6 #[.int .i64 t] w fun e w' => e = .returned (.bool true) ∧ Below w.heap.size w w' := by
  obtain ⟨W, hW⟩ : ∃ W, W = w.alloc (.cells #[.int .i64 0, .int .i64 0, .int .i64 0, .int .i64 0, .int .i64 0, .int .i64 0, .int .i64 0, .int .i64 0, .int .i64 0, .int .i64 0, .int .i64 0, .int .i64 0, .int .i64 0, .map none, .slice none 0 0] 54) := ⟨_, rfl⟩
  have hb : Below w.heap.size w W := by rw [hW]; exact (Below.refl _ _).alloc (Nat.le_refl _) _
  have hN : NoG W (.pointer none) := .inl rfl
  have hG : NoG W (.pointer (some ⟨w.heap.size, 0, none⟩)) := .inr ⟨_, rfl, by rw [hW]; exact cell_of_row _ _ 13 _ _ _ (heap_alloc_new w _)⟩
  go_enter Try.func6, Try.ntmps6
  go_wp2_with fail
  rw [← hW]
  clear hW
  refine (data_no W _ hN t).mono ?_
  rintro e W ⟨rfl, rfl⟩
  go_wp2_with fail
  refine (data_no W _ hG t).mono ?_
  rintro e W ⟨rfl, rfl⟩
  go_wp2_with fail
  refine (forget_no W _ hN 1).mono ?_
  rintro e W ⟨rfl, rfl⟩
  go_wp2_with fail
  refine (forget_no W _ hG 1).mono ?_
  rintro e W ⟨rfl, rfl⟩
  go_wp2_with fail
  refine (other_no W _ hN t).mono ?_
  rintro e W ⟨rfl, rfl⟩
  go_wp2_with fail
  refine (other_no W _ hG t).mono ?_
  rintro e W ⟨rfl, rfl⟩
  go_wp2_with fail
  refine (last_no W _ hN).mono ?_
  rintro e W ⟨rfl, rfl⟩
  go_wp2_with fail
  refine (last_no W _ hG).mono ?_
  rintro e W ⟨rfl, rfl⟩
  go_wp2
  go_ret
  exact ⟨rfl, hb⟩
end Go.Proofs.Ytmionehafekokaa
