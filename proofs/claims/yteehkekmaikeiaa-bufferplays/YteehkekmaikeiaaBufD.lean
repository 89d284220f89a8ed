/-
  The contract of slices.Delete, of one that waits.
-/
import Derived.Test.YteehkekmaikeiaaBufC
namespace Go.Proofs.Yteehkekmaikeiaa
open Go.ChangeShapes Go.WideShapes Go.ChangeAt Go.RowKit

def zerosL : List Value := [.int .i64 0, .int .i64 0, .slice none 0 0]
theorem zeroC (w : World) : (zeroValue 57).run Try.prog w = .ok zSl w := by kernel_rfl
theorem clear_one (w : World) (q off n c : Nat) (cur : Array Value) (hq : w.heap[q]? = some (.cells cur 57 (0, 0))) (ho : off + 3 ≤ cur.size) (ty : TypeId) (hn : n = 1) :
    (Builtin.clear_ #[46] ty #[.slice (some ⟨q, off, none⟩) n c]).run Try.prog w = .ok (.tuple #[]) (w.setRow q (cur.toList.take off ++ zerosL ++ cur.toList.drop (off + 3)).toArray) := by
  subst hn
  have hz : (Builtin.zeroCells (Value.agg #[.int .i64 0, .int .i64 0, .slice none 0 0]).cells 1).toList = zerosL := by kernel_rfl
  have hst := run_storeCells_at Try.prog q off 57 zerosL 0 cur w hq (by simpa [zerosL] using ho) (by intro u hu; simp only [zerosL, List.mem_cons, List.not_mem_nil, or_false] at hu; rcases hu with rfl | rfl | rfl <;> rfl)
  simp only [Nat.add_zero] at hst
  simp [Builtin.clear_, hz, hst]
  rfl

/-- What Delete does to the row: first the move, then the zeros. -/
theorem Row.cutout {w : World} {q cap : Nat} {xs : List Sl} (h : Row E57 w (.slice (some ⟨q, 0, none⟩) xs.length cap) xs) (j : Nat) (hj : j < xs.length) (A : Addr) (hA : j + 1 < xs.length → A = ⟨q, (j + 1) * 3, none⟩) :
    ∃ w1 w2, (Builtin.append_ #[46, 46] 46 #[.slice (some ⟨q, 0, none⟩) j cap, .slice (some A) (xs.length - (j + 1)) (cap - (j + 1))]).run Try.prog w = .ok (.slice (some ⟨q, 0, none⟩) (xs.length - 1) cap) w1 ∧
      (∀ ty n c, n = 1 → (Builtin.clear_ #[46] ty #[.slice (some ⟨q, (xs.length - 1) * 3, none⟩) n c]).run Try.prog w1 = .ok (.tuple #[]) w2) ∧
      Row E57 w2 (.slice (some ⟨q, 0, none⟩) (xs.length - 1) cap) (xs.eraseIdx j) ∧ Apart (fun k => k = q) w w2 := by
  obtain ⟨i, hi, hz0, hz1, hz2⟩ := info_parts E57.hi
  rcases h with ⟨e, _⟩ | ⟨q', cap', cur, e, h1, h2, h3, h4, h5, h6⟩
  · cases e
  cases e
  have he : xs.eraseIdx j = xs.take j ++ xs.drop (j + 1) := List.eraseIdx_eq_take_drop_succ xs j
  have hn3 : E57.n = 3 := rfl
  have hz1' : i.size = 3 := hz1
  rw [hn3] at h4 h5
  have hcl : (E57.cs (xs.drop (j + 1))).length = (xs.length - (j + 1)) * 3 := by rw [E57.cs_len, List.length_drop]; rfl
  have hnews : ∀ t u, (E57.cs (xs.drop (j + 1)))[t]? = some u → w.cell? (A.add t) = some u := by
    intro t u hu
    have ht := (List.getElem?_eq_some_iff.1 hu).1
    rw [hcl] at ht
    rw [hA (by omega), Addr.add_lit, cell_of_row w q _ _ _ _ h1, ← Array.getElem?_toList]
    rw [← E57.cs_drop xs (j + 1) (by omega), ← h5, hn3, List.getElem?_drop, List.getElem?_take] at hu
    split at hu
    · exact hu
    · cases hu
  have hrun := run_append_room (P := Try.prog) w 46 46 57 i E57.hu hi q j cap cur h1 A (xs.length - (j + 1)) (cap - (j + 1)) (E57.cs (xs.drop (j + 1))) (by rw [hz1']; exact hcl) hnews (E57.cs_one _) (by omega) (by rw [hz1', hcl]; omega)
  rw [hz1', hcl, show j + (xs.length - (j + 1)) = xs.length - 1 by omega] at hrun
  have htk : cur.toList.take (j * 3) = E57.cs (xs.take j) := by
    have := E57.cs_take xs j (by omega)
    rw [← this, ← h5, hn3, List.take_take, Nat.min_eq_left (by omega)]
  rw [htk, ← E57.cs_append, ← he] at hrun
  have hel : (xs.eraseIdx j).length = xs.length - 1 := by rw [List.length_eraseIdx, if_pos hj]
  have hecl : (E57.cs (xs.eraseIdx j)).length = (xs.length - 1) * 3 := by rw [E57.cs_len, hel]; rfl
  have hrow := setRow_heap w q cur (E57.cs (xs.eraseIdx j) ++ cur.toList.drop (j * 3 + (xs.length - (j + 1)) * 3)).toArray 57 (0, 0) h1
  obtain ⟨cur1, hcur1⟩ : ∃ cur1, cur1 = (E57.cs (xs.eraseIdx j) ++ cur.toList.drop (j * 3 + (xs.length - (j + 1)) * 3)).toArray := ⟨_, rfl⟩
  rw [← hcur1] at hrow hrun
  have hs1 : cur1.size = cur.size := by rw [hcur1]; simp [hecl]; omega
  have ht1 : cur1.toList.take ((xs.length - 1) * 3) = E57.cs (xs.eraseIdx j) := by rw [hcur1]; simp only []; rw [← hecl, List.take_left]
  have hno1 : NoByte cur1 := by
    intro u hu
    rw [hcur1] at hu
    simp only [List.mem_append] at hu
    rcases hu with hu | hu
    · exact E57.cs_nob _ u hu
    · exact h6 u (List.mem_of_mem_drop hu)
  refine ⟨_, _, hrun, fun ty n c hn => clear_one _ q ((xs.length - 1) * 3) n c cur1 hrow (by rw [hs1]; omega) ty hn, .inr ⟨q, cap, _, by rw [hel], setRow_heap _ q cur1 _ 57 (0, 0) hrow, by rw [hel]; omega, h3, ?_, ?_, ?_⟩, ?_⟩
  · rw [hn3]; simp [zerosL]; omega
  · rw [hel, hn3, List.append_assoc]
    simp only []
    rw [ht1, ← hecl, List.take_left]
  · intro u hu
    simp only [zerosL, List.mem_append, List.mem_cons, List.not_mem_nil, or_false] at hu
    rcases hu with (hu | hu) | hu
    · exact hno1 u (List.mem_of_mem_take hu)
    · intro k y
      rcases hu with rfl | rfl | rfl <;> intro e <;> cases e <;> rfl
    · exact hno1 u (List.mem_of_mem_drop hu)
  · refine ⟨rfl, rfl, rfl, by simp, fun k _ hk => ?_⟩
    rw [setRow_other _ q k _ hk, setRow_other _ q k _ hk]

set_option maxHeartbeats 1600000 in
set_option maxRecDepth 20000 in
theorem delete_ok (w : World) (q cap j : Nat) (xs : List Sl) (h : Row E57 w (.slice (some ⟨q, 0, none⟩) xs.length cap) xs) (hj : j < xs.length) (hl : xs.length ≤ 1000) :
    Calls Try.prog 32 #[.slice (some ⟨q, 0, none⟩) xs.length cap, .int .i64 (j : Int), .int .i64 ((j + 1 : Nat) : Int)] w fun e w' => e = .returned (.slice (some ⟨q, 0, none⟩) (xs.length - 1) cap) ∧
      Row E57 w' (.slice (some ⟨q, 0, none⟩) (xs.length - 1) cap) (xs.eraseIdx j) ∧ Apart (fun k => k = q) w w' := by
  obtain ⟨a', c', e, hcap, hmax, _⟩ := h.shape
  cases e
  have hcm : cap ≤ 9223372036854775807 := by unfold maxLen at hmax; omega
  obtain ⟨A, hA, hA2⟩ : ∃ A : Addr, (if cap = j + 1 then some (⟨q, 0, none⟩ : Addr) else some ⟨q, (j + 1) * 3, none⟩) = some A ∧ (j + 1 < xs.length → A = ⟨q, (j + 1) * 3, none⟩) := by
    by_cases h : cap = j + 1
    · exact ⟨⟨q, 0, none⟩, by simp [h], fun _ => by omega⟩
    · exact ⟨⟨q, (j + 1) * 3, none⟩, by simp [h], fun _ => rfl⟩
  obtain ⟨w1, w2, hrun, hcl, hR, hap⟩ := (h.keep (w' := w.drew) fun _ _ => rfl).cutout j hj A hA2
  have HR : Hid ((Builtin.append_ #[46, 46] 46 #[.slice (some ⟨q, 0, none⟩) j cap, .slice (some A) (xs.length - (j + 1)) (cap - (j + 1))]).run Try.prog w.drew = .ok (.slice (some ⟨q, 0, none⟩) (xs.length - 1) cap) w1) := hrun
  have HC : Hid (∀ ty n c, n = 1 → (Builtin.clear_ #[46] ty #[.slice (some ⟨q, (xs.length - 1) * 3, none⟩) n c]).run Try.prog w1 = .ok (.tuple #[]) w2) := hcl
  have HE : Hid (Row E57 w2 (.slice (some ⟨q, 0, none⟩) (xs.length - 1) cap) (xs.eraseIdx j) ∧ Apart (fun k => k = q) w w2) := ⟨hR, (Apart.refl _ w).drew.trans hap fun i hi => .inl hi⟩
  obtain ⟨L, hL⟩ : ∃ L, L = xs.length := ⟨_, rfl⟩
  obtain ⟨J, hJ⟩ : ∃ J, J = j + 1 := ⟨_, rfl⟩
  rw [← hL] at hj hl hcap HR HC HE ⊢
  rw [← hJ] at hA HR ⊢
  have HA : Hid ((if cap = J then some (⟨q, 0, none⟩ : Addr) else some ⟨q, J * 3, none⟩) = some A) := hA
  have h1 : j ≤ cap := by omega
  have h2 : J ≤ cap := by omega
  have h3 : j ≤ J := by omega
  have h4 : J ≤ L := by omega
  have h5 : j ≠ J := by omega
  have h6 : L ≤ cap := hcap
  obtain ⟨M, hM⟩ : ∃ M, M = L - 1 := ⟨_, rfl⟩
  rw [← hM] at HR HC HE ⊢
  have H7 : Hid (L - M = 1) := by show L - M = 1; omega
  have h8 : M ≤ L := by omega
  have h9 : M ≤ cap := by omega
  have h10 : cap ≠ M := by omega
  clear h hrun hcl hR hap hA2 hmax hL HA hj hJ hcap hM
  go_enter Try.func32, Try.ntmps32
  go_wp2_with fail
  go_region_law (refine step_append_run (by kernel_rfl) (.tmp 22) (.tmp 25) 46 (by kernel_rfl) (.slice (some ⟨q, 0, none⟩) j cap) (.slice (some A) (L - J) (cap - J)) _ (by simp [Act.eval, Act.put]) (by simp [Act.eval, Act.put]) HR.out ?_)
  have hc0 := HC.out 0 (L - M) (cap - M) H7.out
  go_wp2
  go_ret
  exact ⟨rfl, HE.out⟩
end Go.Proofs.Yteehkekmaikeiaa
