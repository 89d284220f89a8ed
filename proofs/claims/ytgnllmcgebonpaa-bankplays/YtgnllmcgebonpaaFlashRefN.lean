/-
  The contracts of the document's New and Read.
-/
import Derived.Test.YtgnllmcgebonpaaFlashRef
namespace Go.Proofs.Ytgnllmcgebonpaa
open Go.ChangeShapes Go.WideShapes Go.ChangeAt Go.RowKit

/-- One byte more: what the append and the store leave. -/
theorem rmore (w w0 : World) (r : Nat) (t : RS) (v : Value) (G : Nat → Prop) (h : RA w r t v) (hG : G r) (hv : ∀ k, v.ownBlock = some k → G k) (hl : ∀ k, G k → k < w.heap.size) (hs : t.b.length + 1 ≤ 4096) (x : UInt8)
    (hw0 : w0 = w.alloc (.cells #[.int .u8 (x.toNat : Int)] 5)) :
    ∃ d cd v' w1, v' = .slice d (t.b.length + 1) cd ∧ (Builtin.append_ #[22, 22] 22 #[v, .slice (some ⟨w.heap.size, 0, none⟩) 1 1]).run Try.prog w0 = .ok v' w1 ∧ w1.cell? ⟨r, 0, none⟩ = some v ∧ w1.frozen? ⟨r, 0, none⟩ = false ∧
      Left RF w G r { t with b := t.b ++ [x] } (w1.setCell ⟨r, 0, none⟩ v') := by
  obtain ⟨i5, hi, hz0, hz1, hz2⟩ := info_parts Try.info5
  have hb0 : Below w.heap.size w w0 := by rw [hw0]; exact (Below.refl _ _).alloc (Nat.le_refl _) _
  have hg : r < w.heap.size := hl r hG
  have ho0 : w0.ownsRow 0 5 1 v t.b.length (t.b.map cellOf) := own_keep h.own (fun k hk => hb0.block k (hl k (hv k hk)))
  have hcell : ∀ j u, ([.int .u8 (x.toNat : Int)] : List Value)[j]? = some u → w0.cell? ((⟨w.heap.size, 0, none⟩ : Addr).add j) = some u := by
    rw [hw0]; exact World.news_of_block (w := w.alloc (.cells #[.int .u8 (x.toNat : Int)] 5)) (cs := #[.int .u8 (x.toNat : Int)]) (t := 5) (fr := (0, 0)) (heap_alloc_new w _)
  have hs0 : w0.heap.size = w.heap.size + 1 := by rw [hw0]; simp
  obtain ⟨v', w1, hrun, ho1, hgr, _, hown⟩ := run_append_own_at (P := Try.prog) w0 0 22 22 5 i5 (.int .u8 0) 1 1 Try.underlying22 hi hz0 hz1 hz2 rfl (by omega) v t.b.length (t.b.map cellOf) ho0 ⟨w.heap.size, 0, none⟩ 1 1 [.int .u8 (x.toNat : Int)] rfl hcell (by simp [Value.oneCell']) (by unfold maxLen; omega) (by omega) (by omega)
  have hg1 : w1.heap[r]? = some (.cells #[v, .int .i64 t.skip, .int .i64 t.torn, .bool t.dead, .int .i64 (t.n : Int)] 62 (0, 0)) := by rw [hgr.block r (by omega) (fun e => h.ne e.symm), hb0.block r hg]; exact h.row
  have hap : Apart G w w1 := (Apart.of_below hb0).grown hgr (fun k hk => .inl (hv k hk))
  have ho1' : w1.ownsRow 0 5 1 v' (t.b ++ [x]).length ((t.b ++ [x]).map cellOf) := by simpa [cellOf] using ho1
  have hqn : v'.ownBlock ≠ some r := by
    intro e
    rcases ho1'.2 with ⟨rfl, _⟩ | ⟨q, cap, cur, rfl, _, hq, _⟩
    · simp [Value.ownBlock] at e
    · obtain rfl : q = r := by simpa [Value.ownBlock] using e
      rw [hg1] at hq; simp at hq
  obtain ⟨d, cd, hvd, _⟩ := Sees.of_own ho1'
  refine ⟨d, cd, v', w1, by rw [hvd]; simp, hrun, cell_of_row _ _ 0 _ _ _ hg1, frozen_of_row _ _ 0 _ _ hg1, fun k => k = r ∨ (v'.ownBlock = some k ∧ k < w1.heap.size), ⟨v', ⟨?_, ?_, ?_, h.s1, h.s2, h.t1, h.t2⟩, .inl rfl, ?_, ?_⟩, hap.setCell (.inl hG) 0 _, ?_⟩
  · rw [heap_setCell_same _ _ _ _ _ _ hg1]; rfl
  · exact own_keep ho1' (fun k hk => heap_setCell_other _ _ _ _ (by rintro rfl; exact hqn hk))
  · simpa using hs
  · intro k hk
    refine .inr ⟨hk, ?_⟩
    rcases ho1'.2 with ⟨rfl, _⟩ | ⟨q, cap, cur, rfl, _, hq, _⟩
    · simp [Value.ownBlock] at hk
    · obtain rfl : q = k := by simpa [Value.ownBlock] using hk
      exact (Array.getElem?_eq_some_iff.1 hq).1
  · rintro k (rfl | ⟨_, hk⟩)
    · simpa using (show k < w1.heap.size from (Array.getElem?_eq_some_iff.1 hg1).1)
    · simpa using hk
  · rintro k (rfl | ⟨hk, _⟩)
    · exact .inl hG
    · rcases hown with h | h
      · exact .inl (hv k (by rw [← h]; exact hk))
      · have h9 : k = w0.heap.size := by rw [hk] at h; simpa using h
        exact .inr (by omega)

def rnewT (n : Nat) : RS := ⟨List.replicate n 255, -1, 0, false, 0⟩

theorem rnew_refused (w : World) (n : Int) (hn : n < 0 ∨ 4096 < n) : Calls Try.prog 7 #[.int .i64 n] w fun e w' => e = .returned (.tuple #[.pointer none, .int .i64 1]) ∧ w' = w := by
  by_cases h0 : n < 0
  · have d0 : decide (n < 0) = true := by simp [h0]
    clear hn
    go_enter Try.func7, Try.ntmps7
    go_wp2
    go_ret2
    exact ⟨rfl, rfl⟩
  · have d0 : decide (n < 0) = false := by simp; omega
    have d1 : decide (4096 < n) = true := by simp; omega
    clear hn
    go_enter Try.func7, Try.ntmps7
    go_wp2
    go_ret2
    exact ⟨rfl, rfl⟩

set_option maxHeartbeats 1600000 in
set_option maxRecDepth 20000 in
theorem rnew_ok (w : World) (n : Nat) (hn : n ≤ 4096) :
    Calls Try.prog 7 #[.int .i64 (n : Int)] w fun e w' => ∃ r G, e = .returned (.tuple #[.pointer (some ⟨r, 0, none⟩), .int .i64 0]) ∧ RF w' r (rnewT n) G ∧ (∀ k, G k → w.heap.size ≤ k) ∧ Below w.heap.size w w' := by
  have HE0 : Hid (∃ G, RF (w.alloc (.cells #[.slice none 0 0, .int .i64 (-1), .int .i64 0, .bool false, .int .i64 0] 62)) w.heap.size (rnewT 0) G ∧ (∀ k, G k → w.heap.size ≤ k) ∧ Below w.heap.size w (w.alloc (.cells #[.slice none 0 0, .int .i64 (-1), .int .i64 0, .bool false, .int .i64 0] 62))) := by
    refine ⟨fun k => k = w.heap.size, ⟨.slice none 0 0, ⟨?_, World.ownsRow_nil _ _ _ _, by simp [rnewT], by simp [rnewT], by simp [rnewT], by simp [rnewT], by simp [rnewT]⟩, rfl, by simp [Value.ownBlock], by rintro k rfl; simp⟩, by rintro k rfl; exact Nat.le_refl _, (Below.refl _ _).alloc (Nat.le_refl _) _⟩
    rw [heap_alloc_new]; rfl
  have d0 : decide ((n : Int) < 0) = false := by simp
  have d1 : decide ((4096 : Int) < (n : Int)) = false := by simp; omega
  go_enter Try.func7, Try.ntmps7
  go_wp2
  go_loopw [5] (fun i wr => ∃ k : Nat, k ≤ n ∧ i = .int .i64 (k : Int) ∧ ∃ G, RF wr w.heap.size (rnewT k) G ∧ (∀ k, G k → w.heap.size ≤ k) ∧ Below w.heap.size w wr) (fun i _ => n - (intOf i).toNat)
  case atStart => exact ⟨0, by omega, rfl, HE0.out⟩
  case round =>
    obtain ⟨k, hk, rfl, G, ⟨v, h, hG, hv, hl⟩, hge, bel⟩ := hrel
    clear HE0
    by_cases hlt : k < n
    · obtain ⟨d', c', v', w1, hvd, hrun, x1, x2, hleft⟩ := rmore wr _ w.heap.size _ v G h hG hv hl (by simp [rnewT]; omega) 255 rfl
      have eL : (rnewT k).b.length = k := by simp [rnewT]
      rw [eL] at hvd
      subst hvd
      have HR : Hid ((Builtin.append_ #[22, 22] 22 #[v, .slice (some ⟨wr.heap.size, 0, none⟩) 1 1]).run Try.prog (wr.alloc (.cells #[.int .u8 255] 5)) = .ok (.slice d' (k + 1) c') w1) := hrun
      have hb := hleft.below bel hge bel.size
      have eT : ({ rnewT k with b := (rnewT k).b ++ [255] } : RS) = rnewT (k + 1) := by simp [rnewT, ← List.replicate_succ']
      rw [eT] at hleft
      obtain ⟨G', y1, y2, y3⟩ := hleft
      have HE : Hid (∃ G, RF (w1.setCell ⟨w.heap.size, 0, none⟩ (.slice d' (k + 1) c')) w.heap.size (rnewT (k + 1)) G ∧ (∀ k, G k → w.heap.size ≤ k) ∧ Below w.heap.size w (w1.setCell ⟨w.heap.size, 0, none⟩ (.slice d' (k + 1) c'))) :=
        ⟨G', y1, fun j hj => by
          rcases y3 j hj with h | h
          · exact hge j h
          · exact Nat.le_trans bel.size h, hb⟩
      have c0 : wr.cell? ⟨w.heap.size, 0, none⟩ = some v := h.c0
      clear hrun h hG hv hl hge bel hb eT eL y1 y2 y3
      go_wp2_with (at_builtin; refine wpList_append_run rfl _ _ 22 rfl _ _ _ rfl rfl HR.out ?_)
      go_roundw
      case rel => exact ⟨k + 1, by omega, by go_num, HE.out⟩
      case measure => simp [intOf]; omega
    · obtain rfl : k = n := by omega
      have HE : Hid (∃ G, RF wr w.heap.size (rnewT k) G ∧ (∀ k, G k → w.heap.size ≤ k) ∧ Below w.heap.size w wr) := ⟨G, ⟨v, h, hG, hv, hl⟩, hge, bel⟩
      clear h hG hv hl hge bel
      go_wp2
      go_ret2
      obtain ⟨G, y1, y2, y3⟩ := HE.out
      exact ⟨_, G, rfl, y1, y2, y3⟩

/-- append([]byte{}, ..): memory of its own. -/
theorem append_fresh (w : World) (x : Option Addr) (cx : Nat) (cs : List UInt8) (hx : Sees w x cx cs) (hb : cs.length ≤ 140737488355328) :
    ∃ v' w', (Builtin.append_ #[22, 22] 22 #[.slice (some ⟨w.heap.size, 0, none⟩) 0 0, .slice x cs.length cx]).run Try.prog (w.alloc (.cells #[] 5)) = .ok v' w' ∧ w'.ownsRow w.heap.size 5 1 v' cs.length (cs.map cellOf) ∧ Below w.heap.size w w' := by
  have hb0 : Below w.heap.size w (w.alloc (.cells #[] 5)) := (Below.refl _ _).alloc (Nat.le_refl _) _
  obtain ⟨v', w', hrun, ho, hbl⟩ := append_own_any (w.alloc (.cells #[] 5)) w.heap.size _ [] (own_empty w) x cx cs (hx.below hb0) (by simpa using hb) (by simp)
  exact ⟨v', w', hrun, by simpa using ho, hbl _ _ hb0 (Nat.le_refl _)⟩
end Go.Proofs.Ytgnllmcgebonpaa
