/-
  The contracts of slices.Clone over bytes, and of flash's Read and Copy.
-/
import Derived.Test.YtgnllmcgebonpaaFlashActs
namespace Go.Proofs.Ytgnllmcgebonpaa
open Go.ChangeShapes Go.WideShapes Go.ChangeAt Go.RowKit

/-- A copy of bytes that has a place: memory of its own. -/
theorem clone_own (w : World) (ad : Addr) (cx : Nat) (cs : List UInt8) (hx : Sees w (some ad) cx cs) (hb : cs.length ≤ 140737488355328) :
    Calls Try.prog 46 #[.slice (some ad) cs.length cx] w fun e w' => ∃ d cd cur, e = .returned (.slice (some ⟨d, 0, none⟩) cs.length cd) ∧ w'.heap[d]? = some (.cells cur 5 (0, 0)) ∧ cs.length ≤ cd ∧ cd ≤ maxLen ∧ cur.size = cd ∧ cur.toList.take cs.length = cs.map cellOf ∧ w.heap.size ≤ d ∧ Below w.heap.size w w' := by
  have hb0 : Below w.heap.size w (w.alloc (.cells #[] 5)) := (Below.refl _ _).alloc (Nat.le_refl _) _
  have hx1 := hx.below hb0
  obtain ⟨i5, hi, hz0, hz1, hz2⟩ := info_parts Try.info5
  have key : ∃ d cd cur w', (Builtin.append_ #[22, 22] 22 #[.slice (some ⟨w.heap.size, 0, none⟩) 0 0, .slice (some ad) cs.length cx]).run Try.prog (w.alloc (.cells #[] 5)) = .ok (.slice (some ⟨d, 0, none⟩) cs.length cd) w' ∧
      w'.heap[d]? = some (.cells cur 5 (0, 0)) ∧ cs.length ≤ cd ∧ cd ≤ maxLen ∧ cur.size = cd ∧ cur.toList.take cs.length = cs.map cellOf ∧ w.heap.size ≤ d ∧ Below w.heap.size w w' := by
    by_cases h0 : cs = []
    · subst h0
      have := run_append_nothing (P := Try.prog) (w.alloc (.cells #[] 5)) 22 22 22 5 i5 Try.underlying22 hi (some ⟨w.heap.size, 0, none⟩) 0 0 (by simp) (.slice (some ad) 0 cx) (by rw [hz1]; exact hx1.src)
      exact ⟨w.heap.size, 0, #[], _, this, heap_alloc_new w _, by simp, by simp, rfl, rfl, Nat.le_refl _, hb0⟩
    · obtain ⟨v', w', hrun, ho, hbl⟩ := append_own_any (w.alloc (.cells #[] 5)) w.heap.size _ [] (own_empty w) (some ad) cx cs hx1 (by simpa using hb) (by simp)
      have hl : 0 < cs.length := List.length_pos_iff.2 h0
      rcases ho.2 with ⟨_, h1⟩ | ⟨d, cd, cur, rfl, hlow, hg, h4, h5, h6, h7⟩
      · simp at h1; exact absurd h1 h0
      · refine ⟨d, cd, cur, w', by simpa using hrun, hg, by simpa using h4, h5, by simpa using h6, by simpa using h7, hlow, hbl _ _ hb0 (Nat.le_refl _)⟩
  obtain ⟨d, cd, cur, w', hrun, h1, h2, h3, h4, h5, h6, h7⟩ := key
  have HR : Hid ((Builtin.append_ #[22, 22] 22 #[.slice (some ⟨w.heap.size, 0, none⟩) 0 0, .slice (some ad) cs.length cx]).run Try.prog (w.alloc (.cells #[] 5)) = .ok (.slice (some ⟨d, 0, none⟩) cs.length cd) w') := hrun
  have HE : Hid (w'.heap[d]? = some (.cells cur 5 (0, 0)) ∧ cs.length ≤ cd ∧ cd ≤ maxLen ∧ cur.size = cd ∧ cur.toList.take cs.length = cs.map cellOf ∧ w.heap.size ≤ d ∧ Below w.heap.size w w') := ⟨h1, h2, h3, h4, h5, h6, h7⟩
  have hq := Lib.run_eql_slice_nil (P := Try.prog) w 22 5 (some ad) cs.length cx 0 0 Try.underlying22
  clear hrun h1 h2 h3 h4 h5 h6 h7 hi hz0 hz1 hz2 hx hx1
  go_enter Try.func46, Try.ntmps46
  go_wp2_with (at_builtin; refine wpList_append_run rfl _ _ 22 rfl _ _ _ rfl rfl HR.out ?_)
  go_ret
  exact ⟨d, cd, cur, rfl, HE.out⟩

theorem row_sees {w : World} {d cd : Nat} {cur : Array Value} {cs : List UInt8} (h1 : w.heap[d]? = some (.cells cur 5 (0, 0))) (h2 : cs.length ≤ cd) (h3 : cd ≤ maxLen) (h5 : cur.toList.take cs.length = cs.map cellOf) : Sees w (some ⟨d, 0, none⟩) cd cs := by
  refine ⟨h2, h3, by simp, fun _ => ⟨d, 0, rfl, fun i x hx => ?_⟩⟩
  rw [cell_of_row _ _ (0 + i) _ _ _ h1, Nat.zero_add]
  have h6 : (cs.map cellOf)[i]? = some (cellOf x) := by simp [hx]
  rw [← h5, List.getElem?_take] at h6
  split at h6
  · simpa [cellOf] using h6
  · simp at h6

/-- The bytes that Read tells. -/
def readL (s : PS) (a n : Int) : List UInt8 := if checkE s a n ≠ 0 then [] else (s.b.drop a.toNat).take n.toNat

theorem check_none {s : PS} {a n : Int} (h : checkE s a n = 0) : s.dead = false ∧ 0 ≤ a ∧ 0 ≤ n ∧ a + n ≤ s.b.length := by
  unfold checkE at h
  split at h
  · omega
  · rename_i hd
    split at h
    · omega
    · exact ⟨by simpa using hd, by omega, by omega, by omega⟩

theorem read_new (w : World) (g : Nat) (s : PS) (F : Nat → Prop) (h : PF w g s F) (a n : Int) (ha : (Lit.int .i64 a).wf = true) :
    Calls Try.prog 30 #[.pointer (some ⟨g, 0, none⟩), .int .i64 a, .int .i64 n] w fun e w' => ∃ d cd r E, Hid (r = readL s a n) ∧ Hid (E = checkE s a n) ∧ e = .returned (.tuple #[.slice d r.length cd, .int .i64 (E : Int)]) ∧ Sees w' d cd r ∧ Below w.heap.size w w' ∧ ∀ bb off, d = some ⟨bb, off, none⟩ → r ≠ [] → w.heap.size ≤ bb := by
  obtain ⟨q, cap, cur, h, hF, hq, hl⟩ := h
  have hck := check_ok w g s q cap cur h a n ha
  by_cases hc : checkE s a n = 0
  · obtain ⟨hd, ha0, hn0, hal⟩ := check_none hc
    obtain ⟨A, rfl⟩ : ∃ A : Nat, a = (A : Int) := ⟨a.toNat, by omega⟩
    obtain ⟨N, rfl⟩ : ∃ N : Nat, n = (N : Int) := ⟨n.toNat, by omega⟩
    have hAN : A + N ≤ s.b.length := by omega
    have hpt := part_ok w g s q cap cur h A N hAN
    obtain ⟨r, hr⟩ : ∃ r, r = readL s A N := ⟨_, rfl⟩
    have hr2 : r = (s.b.drop A).take N := by rw [hr]; unfold readL; rw [if_neg (by simp [hc])]; rfl
    have hrl : r.length = N := by rw [hr2]; simp; omega
    have hse : Sees w (some ⟨q, if N = 0 then 0 else A, none⟩) N r := by
      refine ⟨by omega, by have := h.room; have := h.fits; omega, by simp, fun hne => ?_⟩
      have hN : N ≠ 0 := by rintro rfl; exact hne (List.eq_nil_of_length_eq_zero hrl)
      rw [if_neg hN]
      refine ⟨q, A, rfl, fun i x hx => ?_⟩
      rw [hr2, List.getElem?_take] at hx
      split at hx
      · rw [List.getElem?_drop] at hx
        obtain ⟨b1, o1, he, hcl⟩ := h.sees.get hx
        simp only [Option.some.injEq, Addr.mk.injEq, and_true] at he
        obtain ⟨rfl, rfl⟩ := he
        rw [Nat.zero_add] at hcl; exact hcl
      · simp at hx
    have hcl := clone_own w _ N r hse (by have := h.small; omega)
    have ep : partV q A N = .slice (some ⟨q, if N = 0 then 0 else A, none⟩) r.length N := by unfold partV; rw [hrl]
    rw [← ep] at hcl
    have HR : Hid (r = readL s A N) := hr
    have HC : Hid (0 = checkE s A N) := hc.symm
    rw [hc] at hck
    clear h hl hF hq hc hal hAN hr hr2 hrl hse ep
    go_enter Try.func30, Try.ntmps30
    go_wp2_with fail
    refine hck.mono ?_
    rintro e w1 ⟨rfl, rfl⟩
    clear hck
    go_wp2_with fail
    refine hpt.mono ?_
    rintro e w2 ⟨rfl, rfl⟩
    clear hpt
    go_wp2_with fail
    refine hcl.mono ?_
    rintro e w3 ⟨d, cd, cur3, rfl, h1, h2, h3, h4, h5, h6, h7⟩
    have hs3 : Hid (Sees w3 (some ⟨d, 0, none⟩) cd r) := row_sees h1 h2 h3 h5
    have HB : Hid (Below w2.heap.size w2 w3 ∧ ∀ bb off, some (⟨d, 0, none⟩ : Addr) = some ⟨bb, off, none⟩ → r ≠ [] → w2.heap.size ≤ bb) := ⟨h7, fun bb off he _ => by
      simp only [Option.some.injEq, Addr.mk.injEq] at he; omega⟩
    clear hcl h1 h2 h3 h4 h5 h6 h7
    go_wp2
    go_ret2
    exact ⟨_, cd, r, 0, HR, HC, rfl, hs3.out, HB.out⟩
  · have HR : Hid ([] = readL s a n) := by unfold readL; rw [if_pos hc]; exact (rfl : ([] : List UInt8) = [])
    obtain ⟨E, hE⟩ : ∃ E, E = checkE s a n := ⟨_, rfl⟩
    rw [← hE] at hck hc
    have HC : Hid (E = checkE s a n) := hE
    have d0 : ((E : Int) == 0) = false := by simp; omega
    clear h hl hE
    go_enter Try.func30, Try.ntmps30
    go_wp2_with fail
    refine hck.mono ?_
    rintro e w1 ⟨rfl, rfl⟩
    clear hck
    go_wp2
    go_ret2
    exact ⟨none, 0, [], E, HR, HC, rfl, Sees.nil' _, Below.refl _ _, fun _ _ _ h => absurd rfl h⟩
theorem read_ok (w : World) (g : Nat) (s : PS) (F : Nat → Prop) (h : PF w g s F) (a n : Int) (ha : (Lit.int .i64 a).wf = true) :
    Calls Try.prog 30 #[.pointer (some ⟨g, 0, none⟩), .int .i64 a, .int .i64 n] w fun e w' => ∃ d cd r E, Hid (r = readL s a n) ∧ Hid (E = checkE s a n) ∧ e = .returned (.tuple #[.slice d r.length cd, .int .i64 (E : Int)]) ∧ Sees w' d cd r ∧ Below w.heap.size w w' := by
  refine (read_new w g s F h a n ha).mono ?_
  rintro e w' ⟨d, cd, r, E, h1, h2, h3, h4, h5, _⟩
  exact ⟨d, cd, r, E, h1, h2, h3, h4, h5⟩
end Go.Proofs.Ytgnllmcgebonpaa
