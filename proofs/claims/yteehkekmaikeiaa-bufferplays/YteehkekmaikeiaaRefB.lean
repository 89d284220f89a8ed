/-
  The document's without and Take.
-/
import Derived.Test.YteehkekmaikeiaaRefA
namespace Go.Proofs.Yteehkekmaikeiaa
open Go.ChangeShapes Go.WideShapes Go.ChangeAt Go.RowKit

theorem Row.cellsAt {α : Type} {E : Enc α} {w : World} {q len cap : Nat} {xs : List α} (h : Row E w (.slice (some ⟨q, 0, none⟩) len cap) xs) : ∀ (j : Nat) (u : Value), (E.cs xs)[j]? = some u → w.cell? ⟨q, j, none⟩ = some u := by
  intro j u hu
  obtain ⟨a, c, e, _, _, _, _, hc⟩ := h.shape
  cases e
  obtain ⟨q', e2, h2⟩ := hc j u hu
  cases e2
  exact h2
theorem Row.empty {α : Type} (E : Enc α) (w : World) : Row E (w.alloc (.cells #[] E.T)) (.slice (some ⟨w.heap.size, 0, none⟩) 0 0) [] :=
  .inr ⟨w.heap.size, 0, #[], rfl, heap_alloc_new w _, Nat.le_refl _, Nat.zero_le _, by simp, by simp [Enc.cs], fun u hu => by simp at hu⟩

set_option maxHeartbeats 1600000 in
set_option maxRecDepth 20000 in
theorem without_ok (w : World) (r : Nat) (v : Value) (s : Bs) (ss : List Sl) (h : Rb w r v s ss) (j : Nat) (hj : j < s.L.length) :
    Calls Try.prog 27 #[.pointer (some ⟨r, 0, none⟩), .int .i64 (j : Int)] w fun e w' => e = .returned (.tuple #[]) ∧ RLeft w r v { s with L := s.L.eraseIdx j } w' := by
  obtain ⟨hlen, h64⟩ := h.len
  obtain ⟨x, hx⟩ : ∃ x, ss[j]? = some x := ⟨ss[j]'(by omega), by rw [List.getElem?_eq_getElem]⟩
  obtain ⟨a, cap, rfl, hcap, hmax, -⟩ := h.row.shape
  obtain ⟨-, q, rfl, -⟩ := h.row.get hx
  have hcm : cap ≤ 9223372036854775807 := by unfold maxLen at hmax; omega
  -- the first append
  obtain ⟨W0, hW0⟩ : ∃ W0, W0 = w.alloc (.cells #[] 59) := ⟨_, rfl⟩
  have hb0 : Below w.heap.size w W0 := by rw [hW0]; exact (Below.refl _ _).alloc (Nat.le_refl _) _
  have h0 := h.below hb0
  have hE0 : Row E59 W0 (.slice (some ⟨w.heap.size, 0, none⟩) 0 0) [] := by rw [hW0]; exact Row.empty E59 w
  obtain ⟨v1, w1, hrun1, hrow1, hap1, hnew1⟩ := hE0.append (ss.take j) (by simp; omega) (some ⟨q, 0, none⟩) cap (fun _ => ⟨q, 0, rfl, fun t u hu => by
    rw [Nat.zero_add]
    refine h0.row.cellsAt t u ?_
    rw [← E59.cs_take ss j (by omega), List.getElem?_take] at hu
    split at hu
    · exact hu
    · cases hu⟩)
  rw [List.nil_append] at hrow1
  rw [List.length_take, Nat.min_eq_left (by omega)] at hrun1
  have hq : q < w.heap.size := h.row.lt rfl
  have hb1 : Below w.heap.size w w1 := hap1.below hb0 (fun k hk => by cases hk; exact Nat.le_refl _) hb0.size
  have h1 := h.below hb1
  -- the second
  obtain ⟨A, hA, hA2⟩ : ∃ A : Addr, (if cap = j + 1 then some (⟨q, 0, none⟩ : Addr) else some ⟨q, (j + 1) * 3, none⟩) = some A ∧ (j + 1 < ss.length → A = ⟨q, (j + 1) * 3, none⟩) := by
    by_cases h : cap = j + 1
    · exact ⟨⟨q, 0, none⟩, by simp [h], fun _ => by omega⟩
    · exact ⟨⟨q, (j + 1) * 3, none⟩, by simp [h], fun _ => rfl⟩
  obtain ⟨v2, w2, hrun2, hrow2, hap2, hnew2⟩ := hrow1.append (ss.drop (j + 1)) (by simp; omega) (some A) (cap - (j + 1)) (fun hne => by
    have hlt : j + 1 < ss.length := by
      rcases Nat.lt_or_ge (j + 1) ss.length with h | h
      · exact h
      · exact absurd (List.drop_of_length_le h) hne
    refine ⟨q, (j + 1) * 3, by rw [hA2 hlt], fun t u hu => ?_⟩
    refine h1.row.cellsAt _ u ?_
    rw [← E59.cs_drop ss (j + 1) (by omega), List.getElem?_drop] at hu
    exact hu)
  rw [List.length_drop] at hrun2
  have hown1 : ∀ k, v1.ownBlock = some k → w.heap.size ≤ k := fun k hk => by
    rcases hnew1 k hk with e | e
    · cases e; exact Nat.le_refl _
    · exact Nat.le_trans hb0.size e
  have hb2 : Below w.heap.size w w2 := hap2.below hb1 hown1 hb1.size
  have h2 := h.below hb2
  obtain ⟨a1, cp1, rfl, -⟩ := hrow1.shape
  obtain ⟨a2, cp2, rfl, -⟩ := hrow2.shape
  rw [List.length_take, Nat.min_eq_left (by omega)] at hrun1 hrun2
  have el : (ss.take j ++ ss.drop (j + 1)).length = ss.length - 1 := by simp; omega
  rw [el] at hrun2 hnew2
  have hag : Apart (fun k => k = r) w2 (w2.setCell ⟨r, 1, none⟩ (.slice a2 (ss.length - 1) cp2)) := (Apart.refl (fun k => k = r) w2).setCell (b := r) (.inl rfl) 1 _
  have hown2 : ∀ k, (Value.slice a2 (ss.length - 1) cp2).ownBlock = some k → w.heap.size ≤ k := fun k hk => by
    rcases hnew2 k hk with e | e
    · exact hown1 k ((own_same _ _ _ _ _).trans e)
    · exact Nat.le_trans hb1.size e
  have hr := h.at'.lt
  have HE : Hid (RLeft w r (.slice (some ⟨q, 0, none⟩) ss.length cap) { s with L := s.L.eraseIdx j } (w2.setCell ⟨r, 1, none⟩ (.slice a2 (ss.length - 1) cp2))) := by
    rw [el] at hrow2
    refine ⟨_, ss.take j ++ ss.drop (j + 1), ⟨h2.at'.put1 _, hrow2.apart hag fun k hk e => by have := hown2 k hk; omega, ?_, fun y hy => ?_, ?_⟩, (Apart.of_below (F := fun k => k = r) hb2).trans hag fun i hi => .inl hi, fun k hk => .inr (hown2 k hk)⟩
    · show _ = s.L.eraseIdx j
      rw [← h.its, List.eraseIdx_eq_take_drop_succ, List.map_append, List.map_take, List.map_drop]
    · refine Sees.apart (h2.seen y ?_) hag fun k hk => hk ▸ h2.plain (.inl rfl)
      rcases List.mem_append.1 hy with hy | hy
      · exact List.mem_of_mem_take hy
      · exact List.mem_of_mem_drop hy
    · refine ⟨h.ok.lo, h.ok.hi, ?_, fun y hy => h.ok.arg y (List.mem_of_mem_eraseIdx hy)⟩
      show (s.L.eraseIdx j).length ≤ s.most
      have := h.ok.len
      rw [List.length_eraseIdx]
      split <;> omega
  have HR1 : Hid ((Builtin.append_ #[40, 40] 40 #[.slice (some ⟨w.heap.size, 0, none⟩) 0 0, .slice (some ⟨q, 0, none⟩) j cap]).run Try.prog W0 = .ok (.slice a1 j cp1) w1) := hrun1
  have c10 := h0.at'.c1
  have c11 := h1.at'.c1
  have c12 := h2.at'.c1
  have f12 := h2.at'.fz 1
  obtain ⟨N, hN⟩ : ∃ N, N = ss.length := ⟨_, rfl⟩
  obtain ⟨J, hJ⟩ : ∃ J, J = j + 1 := ⟨_, rfl⟩
  rw [← hN] at c10 c11 c12 HE hrun2 hcap ⊢
  rw [← hJ] at hA hrun2
  have HR2 : Hid ((Builtin.append_ #[40, 40] 40 #[.slice a1 j cp1, .slice (some A) (N - J) (cap - J)]).run Try.prog w1 = .ok (.slice a2 (N - 1) cp2) w2) := hrun2
  have HW0 : Hid (W0 = w.alloc (.cells #[] 59)) := hW0
  rw [hW0] at c10
  have g1 : j ≤ cap := by omega
  have g2 : J ≤ cap := by omega
  have g3 : J ≤ N := by omega
  have e1 : IntKind.i64.wrap ((j : Int) + 1) = (J : Int) := by rw [IntKind.wrap_i64]; omega
  clear h h0 h1 h2 hb0 hb1 hb2 hE0 hrun1 hrun2 hrow1 hrow2 hap1 hap2 hnew1 hnew2 hown1 hown2 hag el hx hlen h64 hmax hA2 hW0 hN hJ hq hr hj hcap
  go_enter Try.func27, Try.ntmps27
  go_wp2_with (at_builtin; first | (rw [← HW0.out]; refine wpList_append_run rfl (.tmp 5) (.tmp 11) 40 rfl _ _ _ rfl rfl HR1.out ?_) | refine wpList_append_run rfl (.tmp 13) (.tmp 20) 40 rfl _ _ _ rfl rfl HR2.out ?_)
  go_end0
  exact ⟨rfl, HE.out⟩
end Go.Proofs.Yteehkekmaikeiaa
