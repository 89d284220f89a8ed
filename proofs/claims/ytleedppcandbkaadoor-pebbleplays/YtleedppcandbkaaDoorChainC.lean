/-
  The contract of chain.All: a range over the iterator that fills a list of keys from behind.
-/
import Derived.Test.YtleedppcandbkaaDoorChainB
namespace Go.Proofs.YtleedppcandbkaaDoor
open Go.ChangeShapes Go.WideShapes Go.ChangeAt Go.RowKit Go.Shelf
attribute [local go_sem] Oper.semAt_some

/-- All keys of a chain, that of the place 0 first. -/
def allL (n : Nat) (key : List UInt8) : List (List UInt8) := (List.range (n + 1)).map fun i => backL (n - i) key
theorem allL_len (n : Nat) (key : List UInt8) : (allL n key).length = n + 1 := by simp [allL]
theorem allL_get (n : Nat) (key : List UInt8) (i : Nat) (h : i ≤ n) : (allL n key)[i]? = some (backL (n - i) key) := by
  simp [allL, List.getElem?_map, List.getElem?_range (show i < n + 1 by omega)]

/-- What the list of keys holds once those of s were told, the last key first. -/
def rowL (n : Nat) (s : List Loc) : List Value := List.replicate (n + 1 - s.length) (.slice none 0 0) ++ (s.map fun p => Value.slice p.1 16 p.2).reverse
theorem rowL_len (n : Nat) (s : List Loc) (h : s.length ≤ n + 1) : (rowL n s).length = n + 1 := by simp [rowL]; omega
theorem rowL_zero (n : Nat) : rowL n [] = List.replicate (n + 1) (.slice none 0 0) := by simp [rowL]
theorem rowL_set (n : Nat) (s : List Loc) (p : Loc) (q : Nat) (h : q + s.length = n) : (rowL n s).set q (.slice p.1 16 p.2) = rowL n (s ++ [p]) := by
  unfold rowL
  rw [List.length_append, List.length_singleton, show n + 1 - s.length = q + 1 by omega, show n + 1 - (s.length + 1) = q by omega, List.replicate_succ', List.append_assoc, List.set_append_right _ _ (by simp)]
  simp
theorem rowL_at (n : Nat) (s : List Loc) (q : Nat) (h : q + s.length = n) : (rowL n s)[q]? = some (.slice none 0 0) := by
  unfold rowL
  rw [List.getElem?_append_left (by simp; omega), List.getElem?_replicate]
  simp; omega
theorem rowL_val (n : Nat) (s : List Loc) : ∀ (j : Nat) (y : Int), (rowL n s).toArray[j]? ≠ some (.int .u8 y) := by
  intro j y h
  rw [List.getElem?_toArray] at h
  have hm := List.mem_of_getElem? h
  unfold rowL at hm
  simp only [List.mem_append, List.mem_replicate, List.mem_reverse, List.mem_map] at hm
  rcases hm with ⟨_, h⟩ | ⟨p, _, h⟩ <;> cases h
theorem rowL_full (n : Nat) (s : List Loc) (hs : s.length = n + 1) (i : Nat) (hi : i ≤ n) : ∃ p, s[n - i]? = some p ∧ (rowL n s)[i]? = some (.slice p.1 16 p.2) := by
  obtain ⟨p, hp⟩ : ∃ p, s[n - i]? = some p := ⟨s[n - i]'(by omega), by simp⟩
  refine ⟨p, hp, ?_⟩
  unfold rowL
  rw [show n + 1 - s.length = 0 by omega, List.replicate_zero, List.nil_append, List.getElem?_reverse (by simp; omega), List.length_map, show s.length - 1 - i = n - i by omega, List.getElem?_map, hp]
  rfl

/-- All keys lie there. -/
def Full (W : World) (g n : Nat) (key : List UInt8) : Prop := ∃ s : List Loc, s.length = n + 1 ∧ W.heap[g]? = some (.cells (rowL n s).toArray 22 (0, 0)) ∧ Told W key s
theorem Full.rows {W : World} {g n : Nat} {key : List UInt8} (h : Full W g n key) (hk : key.length = 16) (hn : n ≤ 256) : Rowss W (some ⟨g, 0, none⟩) (n + 1) (allL n key) := by
  obtain ⟨s, hs, hg, ht⟩ := h
  refine ⟨by rw [allL_len]; omega, by unfold maxLen; omega, fun r bs hr => ⟨g, 0, rfl, ?_⟩⟩
  have hrn : r < n + 1 := by have := (List.getElem?_eq_some_iff.1 hr).1; rw [allL_len] at this; exact this
  rw [allL_get n key r (by omega)] at hr
  simp only [Option.some.injEq] at hr
  subst hr
  obtain ⟨p, hp, hv⟩ := rowL_full n s hs r (by omega)
  refine ⟨p.1, p.2, ?_, ht _ _ hp⟩
  rw [cell_of_row W g (0 + r) _ _ _ hg, Nat.zero_add, List.getElem?_toArray, hv, backL_len _ _ hk]
theorem Full.put {W : World} {g n : Nat} {key : List UInt8} (h : Full W g n key) {l : Nat} {o : Obj} (o' : Obj) (hl : W.heap[l]? = some o) (ho : o.isCells = false) : Full (W.putObj l o') g n key := by
  obtain ⟨s, hs, hg, ht⟩ := h
  refine ⟨s, hs, ?_, fun i p hi => (ht i p hi).put o' hl ho⟩
  rw [World.putObj_heap_other, hg]
  rintro rfl
  rw [hl] at hg
  cases hg
  cases ho
theorem Rowss.below {w w' : World} {a : Option Addr} {cap : Nat} {L : List (List UInt8)} (h : Rowss w a cap L) (hb : Below w.heap.size w w') : Rowss w' a cap L :=
  ⟨h.fits, h.room, fun r bs hr => by
    obtain ⟨b, off, ha, x, cx, hc, hs⟩ := h.at' r bs hr
    exact ⟨b, off, ha, x, cx, by rw [hb.cell (p := ⟨b, off + r, none⟩) (World.block_lt_of_cell? w _ hc), hc], hs.below hb⟩⟩
theorem Rowss.nil (w : World) : Rowss w none 0 [] := ⟨by simp, by simp, fun r bs h => by simp at h⟩

theorem made_slices (n : Nat) : (madeCells #[Value.slice none 0 0] n).toList = List.replicate n (.slice none 0 0) := by
  apply List.ext_getElem
  · simp [madeCells]
  · intro i h1 h2
    simp [madeCells, Nat.mod_one]

theorem Tryd.info22 : (Tryd.prog.info? 22).map (fun i => (i.zero, i.size, i.bytes)) = some (some (.slice none 0 0), 1, 24) := by kernel_rfl

theorem wpListIn_make_full {F : Fence} {n : Nat} {P : Program} (w : World) {ops : Array Oper} {rest : List Oper} {o : Oper} {a : Act} {Q : Exit → Act → World → Prop}
    (hg : o.guard = none) (l c : Operand) (t : TypeId) (hop : o.op = Op.makeSlice t l c)
    (base : Nat) (e : TypeId) (i : TypeInfo) (z : Value) (size : Nat) (h1 : P.underlying t = some (.slice e)) (h2 : P.info? e = some i) (h3 : i.zero = some z) (h4 : i.size = size)
    (kl kc : IntKind) (L C : Int) (m : Nat) (hl : a.eval l = .int kl L) (hc : a.eval c = .int kc C) (hL : L = (m : Int)) (hC : C = (m : Int)) (b2 : i.bytes * m ≤ 281474976710656) (b3 : m ≤ maxLen) (b4 : base ≤ w.heap.size)
    (hK : ∀ w', w'.ownsRow base e size (.slice (some ⟨w.heap.size, 0, none⟩) m m) m (madeCells z.cells (m * size)).toList → w.grownBy w' none → wpListIn F n P ops Q rest (a.put o.dst (.slice (some ⟨w.heap.size, 0, none⟩) m m)) w') :
    wpListIn F n P ops Q (o :: rest) a w := by
  refine wpListIn_plain hg fun K hK' => ?_
  obtain ⟨w', hrun, r1, r2⟩ := run_make_full (P := P) w base t e i z size h1 h2 h3 h4 kl kc m b2 b3 b4
  subst hL
  subst hC
  unfold Oper.wpIn
  refine ⟨?_, ?_⟩
  · simp [Oper.about, hop]
  · rw [Oper.semAt_plain F _ _ (by rw [hop]; intro c hc'; cases hc')]
    simp [execOp, hop, hl, hc, hrun, Result.andThen]
    exact hK' _ _ (hK w' r1 r2)

/-- A made list of keys, as a block. -/
theorem row_made {w : World} {base g n N : Nat} (hN : N = n + 1) (h : w.ownsRow base 22 1 (.slice (some ⟨g, 0, none⟩) N N) N (madeCells #[Value.slice none 0 0] N).toList) : w.heap[g]? = some (.cells (rowL n []).toArray 22 (0, 0)) := by
  rcases h.2 with ⟨h', _⟩ | ⟨g', cap', cur, h', _, hg, _, _, hcs, htake⟩
  · simp at h'
  · simp only [Value.slice.injEq, Option.some.injEq, Addr.mk.injEq, and_true, true_and] at h'
    obtain ⟨rfl, rfl⟩ := h'
    rw [hg]
    have e1 : cur.toList = rowL n [] := by
      rw [made_slices, List.take_of_length_le (by simp [hcs])] at htake
      rw [htake, rowL_zero, hN]
    rw [← e1]

theorem Boxed.row {V : World} {b t g q : Nat} {u : Value} (h : Boxed V b t u) (v : Value) (hne : b ≠ g) : Boxed (V.setCell ⟨g, q, none⟩ v) b t u := (Below.heap_setCell V ⟨g, q, none⟩ v b (fun e => hne (by rw [e]))).trans h

/-- Between two rounds of All. -/
def AI (w : World) (n o b : Nat) (d : Option Addr) (cd : Nat) (key : List UInt8) (s : List Loc) (W : World) : Prop :=
  Boxed W o 28 (.slice (some ⟨w.heap.size, 0, none⟩) (n + 1) (n + 1)) ∧ W.heap[w.heap.size]? = some (.cells (rowL n s).toArray 22 (0, 0)) ∧ Boxed W b 3 (.int .i64 (n : Int)) ∧ Boxed W (b + 1) 22 (.slice d 16 cd) ∧ Sees W d cd key ∧ Told W key s ∧ s.length ≤ n + 1 ∧ Below w.heap.size w W
theorem AI.turned {w : World} {n o b : Nat} {d : Option Addr} {cd : Nat} {key : List UInt8} {s : List Loc} {W W' : World} {B : Nat} (h : AI w n o b d cd key s W) (hB : w.heap.size ≤ B) (ht : Turned B W W') : AI w n o b d cd key s W' := by
  obtain ⟨h1, h2, h3, h4, h5, h6, h7, h8⟩ := h
  exact ⟨ht.boxed h1, ht.block h2 rfl, ht.boxed h3, ht.boxed h4, ht.sees h5, h6.turned ht, h7, ht.below h8 hB⟩
theorem AI.below {w : World} {n o b : Nat} {d : Option Addr} {cd : Nat} {key : List UInt8} {s : List Loc} {W W' : World} (h : AI w n o b d cd key s W) (hb : Below W.heap.size W W') : AI w n o b d cd key s W' := by
  obtain ⟨h1, h2, h3, h4, h5, h6, h7, h8⟩ := h
  exact ⟨Boxed.below h1 hb, by rw [hb.block _ (Array.getElem?_eq_some_iff.1 h2).1]; exact h2, Boxed.below h3 hb, Boxed.below h4 hb, h5.below hb, h6.below hb, h7, h8.trans (hb.mono h8.size)⟩
theorem AI.next {w : World} {n o b : Nat} {d : Option Addr} {cd : Nat} {key : List UInt8} {s : List Loc} {W : World} (h : AI w n o b d cd key s W) (ho : o ≠ w.heap.size) (hb : w.heap.size < b) (p : Loc) (q : Nat) (hq : q + s.length = n) (hp : Sees W p.1 p.2 (backL s.length key)) :
    KeepsOthers W (W.setCell ⟨w.heap.size, q, none⟩ (.slice p.1 16 p.2)) ∧ AI w n o b d cd key (s ++ [p]) (W.setCell ⟨w.heap.size, q, none⟩ (.slice p.1 16 p.2)) := by
  obtain ⟨h1, h2, h3, h4, h5, h6, h7, h8⟩ := h
  refine ⟨KeepsOthers.setCell _ _ _, Boxed.row h1 _ ho, ?_, Boxed.row h3 _ (by omega), Boxed.row h4 _ (by omega), h5.slot h2 (rowL_val n s) _ _, (h6.push p hp).slot h2 (rowL_val n s) _ _, by simp; omega, h8.setCell (p := ⟨w.heap.size, q, none⟩) (Nat.le_refl _) _⟩
  rw [heap_setCell_same W w.heap.size q _ 22 _ h2, ← rowL_set n s p q hq]
  simp

end Go.Proofs.YtleedppcandbkaaDoor
