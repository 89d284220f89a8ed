/-
  A map that counts; a slice of rounds; a guard in memory, the program's and the document's.
-/
import Derived.Test.YtmionehafekokaaGrdM
import Derived.Test.YtmionehafekokaaFoot
import Derived.Test.YtmionehafekokaaSchedH
import Derived.Maps.OwnSet
import Derived.Laws.CopyRow
import Derived.Laws.IdiomCopy
import Derived.Lib.AppendZeros
namespace Go.Proofs.Ytmionehafekokaa
open Go.ChangeShapes Go.WideShapes Go.ChangeAt Go.RowKit

theorem law3 : Maps.Keyed Try.prog 3 := Maps.int_keyed Try.underlying3
theorem zero3 (w : World) : (zeroValue 3).run Try.prog w = .ok (.int .i64 0) w := by kernel_rfl
theorem u52 : Try.prog.underlying 52 = some (.map 3 3) := by kernel_rfl
theorem u42 : Try.prog.underlying 42 = some (.slice 3) := by kernel_rfl
theorem inI_wf {x : Int} (h0 : -9223372036854775808 ≤ x) (h1 : x ≤ 9223372036854775807) : (Lit.int .i64 x).wf = true := WalkArith.wf_i64 (by omega)

/-- Block m is a map of at most n entries that counts how often a number stands in os. -/
def MapAt (w : World) (m n : Nat) (os : List Int) : Prop :=
  ∃ D : DataW Unit, w.ownsMap Try.prog 3 (plainElem Try.prog 3) m n D ∧ ∀ x : Int, (Lit.int .i64 x).wf = true → D.atKey (.int .i64 x) (.lit (.int .i64 0)) = .lit (.int .i64 (os.count x : Int))
theorem MapAt.lt {w : World} {m n : Nat} {os : List Int} (h : MapAt w m n os) : m < w.heap.size := by
  obtain ⟨D, h1, _⟩ := h; exact h1.lt
theorem MapAt.keep {w w' : World} {m n : Nat} {os : List Int} (h : MapAt w m n os) (hb : w'.heap[m]? = w.heap[m]?) : MapAt w' m n os := by
  obtain ⟨D, ⟨es, clock, h1, h2⟩, h3⟩ := h
  exact ⟨D, ⟨es, clock, hb.trans h1, h2⟩, h3⟩
theorem MapAt.isMap {w : World} {m n : Nat} {os : List Int} (h : MapAt w m n os) : ∃ es clock, w.heap[m]? = some (.map es clock) := by
  obtain ⟨D, ⟨es, clock, h1, _⟩, _⟩ := h; exact ⟨es, clock, h1⟩
theorem MapAt.new (w : World) : MapAt (w.alloc (.map #[] 0)) w.heap.size 0 [] :=
  ⟨.map [], World.ownsMap_made w _ _ _, fun x _ => by simp [DataW.atKey]⟩
theorem MapAt.look {w : World} {m n : Nat} {os : List Int} (h : MapAt w m n os) {x : Int} (hx : (Lit.int .i64 x).wf = true) :
    (Instr.lookup 52 (.map (some m)) (.int .i64 x) false).run Try.prog w = .ok (.int .i64 (os.count x : Int)) w := by
  obtain ⟨D, h1, h2⟩ := h
  obtain ⟨c, hrun, hat, _⟩ := h1.lookup_int law3 u52 Try.underlying3 (zero3 w) (Maps.keyOf_int_mk Try.underlying3 hx)
  rw [h2 x hx] at hat
  cases hat
  exact hrun
theorem lit_ne {x y : Int} (h : x ≠ y) : Lit.int .i64 x ≠ Lit.int .i64 y := fun e => h (by cases e; rfl)
theorem MapAt.del {w : World} {m n : Nat} {os : List Int} (h : MapAt w m n os) {y : Int} (hy : (Lit.int .i64 y).wf = true) (ty : TypeId) :
    ∃ w', (Builtin.delete_ #[52, 3] ty #[.map (some m), .int .i64 y]).run Try.prog w = .ok (.tuple #[]) w' ∧ MapAt w' m n (os.filter fun x => decide (x ≠ y)) ∧ Apart (fun k => k = m) w w' ∧ w'.heap.size = w.heap.size := by
  obtain ⟨D, h1, h2⟩ := h
  obtain ⟨w', hrun, hown, hturn⟩ := h1.drop law3 u52 (Maps.keyOf_int_mk Try.underlying3 hy) ty
  refine ⟨w', hrun, ⟨_, hown, fun x hx => ?_⟩, (Apart.refl _ w).grown hturn.grown (fun k e => .inl (by cases e; rfl)), ?_⟩
  · rw [count_strike]
    by_cases e : x = y
    · subst e; rw [if_pos rfl, Maps.atKey_del_same]; rfl
    · rw [if_neg e, Maps.atKey_del_other (lit_ne e), h2 x hx]
  · obtain ⟨es, clock, es', clock', _, rfl⟩ := hturn
    simp [ChangeMaps.setBlock]
theorem MapAt.put {w : World} {m n : Nat} {os : List Int} (h : MapAt w m n os) (hn : n < maxLen) {x : Int} (hx : (Lit.int .i64 x).wf = true) (hw : (Lit.int .i64 ((os.count x : Int) + 1)).wf = true) :
    ∃ w', (Instr.mapUpdate 52 (.map (some m)) (.int .i64 x) (.int .i64 ((os.count x : Int) + 1))).run Try.prog w = .ok () w' ∧ MapAt w' m (n + 1) (os ++ [x]) ∧ Apart (fun k => k = m) w w' ∧ w'.heap.size = w.heap.size := by
  obtain ⟨D, h1, h2⟩ := h
  obtain ⟨w', hrun, hown, hturn⟩ := h1.store law3 u52 hn (Maps.keyOf_int_mk Try.underlying3 hx) (plainElem_int Try.underlying3 hw)
  refine ⟨w', hrun, ⟨_, hown, fun y hy => ?_⟩, (Apart.refl _ w).grown hturn.grown (fun k e => .inl (by cases e; rfl)), ?_⟩
  · rw [count_snoc]
    by_cases e : y = x
    · subst e; rw [if_pos rfl, Maps.atKey_put_same h1.isMap (law3.key (Maps.keyOf_int_mk Try.underlying3 hx))]; simp
    · rw [if_neg e, Maps.atKey_put_other (lit_ne e), h2 y hy]
  · obtain ⟨es, clock, es', clock', _, rfl⟩ := hturn
    simp [ChangeMaps.setBlock]

/-- The slice s reads as the numbers rs; it lies at the head of its block, or is nil. -/
def RsAt (w : World) (s : Value) (rs : List Int) : Prop :=
  (s = .slice none 0 0 ∧ rs = []) ∨ ∃ q cap cur, s = .slice (some ⟨q, 0, none⟩) rs.length cap ∧ w.heap[q]? = some (.cells cur 3 (0, 0)) ∧ rs.length ≤ cap ∧ cap ≤ maxLen ∧ cap ≤ cur.size ∧ cur.toList.take rs.length = rs.map (Value.int .i64)
theorem RsAt.nil (w : World) : RsAt w (.slice none 0 0) [] := .inl ⟨rfl, rfl⟩
theorem RsAt.lt {w : World} {s : Value} {rs : List Int} (h : RsAt w s rs) {k : Nat} (hk : s.ownBlock = some k) : k < w.heap.size := by
  rcases h with ⟨rfl, _⟩ | ⟨q, cap, cur, rfl, h1, _⟩
  · cases hk
  · cases hk; exact (Array.getElem?_eq_some_iff.1 h1).1
theorem RsAt.keep {w w' : World} {s : Value} {rs : List Int} (h : RsAt w s rs) (hb : ∀ k, s.ownBlock = some k → w'.heap[k]? = w.heap[k]?) : RsAt w' s rs := by
  rcases h with h | ⟨q, cap, cur, rfl, h1, h2⟩
  · exact .inl h
  · exact .inr ⟨q, cap, cur, rfl, (hb q rfl).trans h1, h2⟩
theorem RsAt.apart {F : Nat → Prop} {w w' : World} {s : Value} {rs : List Int} (h : RsAt w s rs) (ha : Apart F w w') (hn : ∀ k, s.ownBlock = some k → ¬ F k) : RsAt w' s rs :=
  h.keep fun k hk => ha.block k (h.lt hk) (hn k hk)
theorem RsAt.isRow {w : World} {s : Value} {rs : List Int} (h : RsAt w s rs) {k : Nat} (hk : s.ownBlock = some k) : ∃ cur, w.heap[k]? = some (.cells cur 3 (0, 0)) := by
  rcases h with ⟨rfl, _⟩ | ⟨q, cap, cur, rfl, h1, _⟩
  · cases hk
  · cases hk; exact ⟨_, h1⟩
/-- The shape of the value, and its cells. -/
theorem RsAt.shape {w : World} {s : Value} {rs : List Int} (h : RsAt w s rs) : ∃ a cap, s = .slice a rs.length cap ∧ rs.length ≤ cap ∧ cap ≤ maxLen ∧ (a = none → rs = []) ∧ (∀ (i : Nat) (z : Int), rs[i]? = some z → ∃ q, a = some ⟨q, 0, none⟩ ∧ w.cell? ⟨q, i, none⟩ = some (.int .i64 z)) := by
  rcases h with ⟨rfl, rfl⟩ | ⟨q, cap, cur, rfl, h1, h2, h3, h4, h5⟩
  · exact ⟨none, 0, rfl, Nat.le_refl _, Nat.zero_le _, fun _ => rfl, fun i z hz => by simp at hz⟩
  · refine ⟨_, cap, rfl, h2, h3, (fun e => by cases e), fun i z hz => ⟨q, rfl, ?_⟩⟩
    rw [cell_of_row w q i _ _ _ h1, ← Array.getElem?_toList]
    have hi : i < rs.length := (List.getElem?_eq_some_iff.1 hz).1
    have e : (cur.toList.take rs.length)[i]? = some (.int .i64 z) := by rw [h5]; simp [hz]
    rw [List.getElem?_take, if_pos hi] at e
    exact e
theorem RsAt.cells {w : World} {q cap : Nat} {rs : List Int} {n : Nat} (h : RsAt w (.slice (some ⟨q, 0, none⟩) n cap) rs) : n = rs.length ∧ ∀ (j : Nat) (u : Value), (rs.map (Value.int .i64))[j]? = some u → w.cell? ⟨q, j, none⟩ = some u := by
  obtain ⟨a, c, e, _, _, _, h2⟩ := h.shape
  cases e
  refine ⟨rfl, fun j u hu => ?_⟩
  rw [List.getElem?_map] at hu
  cases hz : rs[j]? with
  | none => rw [hz] at hu; cases hu
  | some z =>
    rw [hz] at hu
    cases hu
    obtain ⟨q', e1, e2⟩ := h2 j z hz
    cases e1
    exact e2
theorem ints_one (rs : List Int) : ∀ u ∈ rs.map (Value.int .i64), u.oneCell' = true := by
  intro u hu
  obtain ⟨z, _, rfl⟩ := List.mem_map.1 hu
  rfl
theorem info3 : (Try.prog.info? 3).map (fun i => (i.zero, i.size, i.bytes)) = some (some (.int .i64 0), 1, 8) := by kernel_rfl
/-- One more behind all. -/
theorem RsAt.push {w : World} {s : Value} {rs : List Int} (h : RsAt w s rs) (hl : rs.length ≤ 1000) (x : Int) (c : Nat) (hc : w.cell? ⟨c, 0, none⟩ = some (.int .i64 x)) :
    ∃ s' w', (Builtin.append_ #[42, 42] 42 #[s, .slice (some ⟨c, 0, none⟩) 1 1]).run Try.prog w = .ok s' w' ∧ RsAt w' s' (rs ++ [x]) ∧ Apart (fun k => s.ownBlock = some k) w w' ∧ ∀ k, s'.ownBlock = some k → s.ownBlock = some k ∨ w.heap.size ≤ k := by
  obtain ⟨i, hi, hz0, hz1, hz2⟩ := info_parts info3
  have hnews : ∀ j u, [Value.int .i64 x][j]? = some u → w.cell? ((⟨c, 0, none⟩ : Addr).add j) = some u := by
    intro j u hj
    rw [Addr.add_lit, Nat.zero_add]
    match j, hj with
    | 0, hj => simp at hj; rw [hc, hj]
    | k + 1, hj => simp at hj
  have hm : (1000 : Nat) < maxLen := by decide
  rcases h with ⟨rfl, rfl⟩ | ⟨q, cap, cur, rfl, h1, h2, h3, h4, h5⟩
  · have hrun := run_append_nil (P := Try.prog) w 42 42 3 i _ u42 hi hz0 ⟨c, 0, none⟩ 1 1 [.int .i64 x] (by rw [hz1]; rfl) hnews (by decide) (by decide) (by rw [hz2]; decide)
    have hge := grownCap_ge w 1 0 3
    have hcm : grownCap w 1 0 3 ≤ maxLen := grownCap_le_maxLen w _ _ 3 (by omega)
    refine ⟨_, _, hrun, .inr ⟨w.heap.size, _, _, rfl, heap_alloc_new w.drew _, by simpa using hge, hcm, ?_, ?_⟩, ⟨rfl, rfl, rfl, by simp, fun k hk _ => Below.heap_alloc w.drew _ k hk⟩, fun k hk => .inr (by cases hk; exact Nat.le_refl _)⟩
    · simp only [Array.size_append, List.size_toArray, size_zeroCells]
      simp [Value.cells]; omega
    · simp
  · by_cases hroom : rs.length + 1 ≤ cap
    · have hrun := run_append_room (P := Try.prog) w 42 42 3 i u42 hi q rs.length cap cur h1 ⟨c, 0, none⟩ 1 1 [.int .i64 x] (by rw [hz1]; rfl) hnews (by simp [Value.oneCell']) hroom (by rw [hz1]; simp; omega)
      rw [hz1] at hrun
      refine ⟨_, _, hrun, .inr ⟨q, cap, _, by simp, setRow_heap w q cur _ 3 _ h1, by simpa using hroom, h3, ?_, ?_⟩, ⟨rfl, rfl, rfl, by simp, fun k _ hk => setRow_other w q k _ (fun e => hk (by subst e; rfl))⟩, fun k hk => .inl hk⟩
      · simp; omega
      · simp only [Nat.mul_one, h5, List.length_append, List.length_cons, List.length_nil, List.map_append, List.map_cons, List.map_nil]
        rw [List.take_append_of_le_length (by simp)]
        rw [List.take_of_length_le (by simp)]
    · have hcap : cap = rs.length := by omega
      subst hcap
      have holds : ∀ j v, (rs.map (Value.int .i64))[j]? = some v → w.cell? ((⟨q, 0, none⟩ : Addr).add j) = some v := by
        intro j v hj
        rw [Addr.add_lit, Nat.zero_add]
        exact (RsAt.cells (w := w) (rs := rs) (.inr ⟨q, _, cur, rfl, h1, h2, h3, h4, h5⟩)).2 j v hj
      have hrun := run_append_grow (P := Try.prog) w 42 42 3 i _ u42 hi hz0 ⟨q, 0, none⟩ rs.length rs.length (rs.map (Value.int .i64)) (by rw [hz1]; simp) holds ⟨c, 0, none⟩ 1 1 [.int .i64 x] (by rw [hz1]; rfl) hnews (by omega) (by omega) (growslice_fits (by omega) (by rw [hz2]; omega))
      have hge := grownCap_ge w (rs.length + 1) rs.length 3
      have hcm : grownCap w (rs.length + 1) rs.length 3 ≤ maxLen := grownCap_le_maxLen w _ _ 3 (by omega)
      refine ⟨_, _, hrun, .inr ⟨w.heap.size, _, _, by simp, heap_alloc_new w.drew _, by simpa using hge, hcm, ?_, ?_⟩, ⟨rfl, rfl, rfl, by simp, fun k hk _ => Below.heap_alloc w.drew _ k hk⟩, fun k hk => .inr (by cases hk; exact Nat.le_refl _)⟩
      · simp only [Array.size_append, List.size_toArray, size_zeroCells, List.length_map]
        simp [Value.cells]; omega
      · simp only [Array.toList_append, List.length_append, List.length_cons, List.length_nil, List.map_append, List.map_cons, List.map_nil]
        rw [List.take_append_of_le_length (by simp)]
        rw [List.take_of_length_le (by simp)]
/-- The last one is let go. -/
theorem RsAt.pop {w : World} {rs : List Int} {y : Int} {a : Option Addr} {n cap : Nat} (h : RsAt w (.slice a n cap) (rs ++ [y])) : RsAt w (.slice a rs.length cap) rs := by
  rcases h with ⟨_, e⟩ | ⟨q, c, cur, e, h1, h2, h3, h4, h5⟩
  · simp at e
  · cases e
    refine .inr ⟨q, cap, cur, rfl, h1, by simp at h2; omega, h3, h4, ?_⟩
    simp only [List.length_append, List.length_cons, List.length_nil, List.map_append, List.map_cons, List.map_nil] at h5
    have := congrArg (List.take rs.length) h5
    rw [List.take_take, show min rs.length (rs.length + (0 + 1)) = rs.length by omega] at this
    rw [this, List.take_append_of_le_length (by simp), List.take_of_length_le (by simp)]
end Go.Proofs.Ytmionehafekokaa
