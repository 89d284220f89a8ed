/-
  Slices of elements of a fixed number of cells, none of them a byte, at the head of their block. No contract here.
-/
import Derived.Test.YtfifcfdlmpgohaaRows
import Derived.Test.YtfifcfdlmpgohaaFoot
import Derived.Test.YtfifcfdlmpgohaaCells
import Derived.Laws.AppendOwn
import Derived.Deep.AppendSrc
import Derived.Deep.Upon
namespace Go.Proofs.Ytfifcfdlmpgohaa
open Go.ChangeShapes Go.WideShapes Go.ChangeAt Go.RowKit

/-- No cell of it is a byte. -/
def Plain (w : World) (k : Nat) : Prop := ∀ (i : Nat) (x : Int), w.cell? ⟨k, i, none⟩ ≠ some (.int .u8 x)
theorem Sees.apart {w w' : World} {F : Nat → Prop} {a : Option Addr} {c : Nat} {l : List UInt8} (h : Sees w a c l) (ha : Apart F w w') (hp : ∀ k, F k → Plain w k) : Sees w' a c l :=
  ha.sees h fun b off e hne hF => by
    obtain ⟨b2, off2, ha2, hc⟩ := h.at' hne
    rw [e] at ha2
    cases ha2
    match l, hne with
    | y :: r, _ => exact hp b hF (off + 0) y.toNat (hc 0 y rfl)
def NoByte (cur : Array Value) : Prop := ∀ u ∈ cur.toList, ∀ k y, u = Value.int k y → k = .i64
theorem NoByte.plain {w : World} {q : Nat} {cur : Array Value} {t : TypeId} {fr : Nat × Nat} (h : NoByte cur) (hq : w.heap[q]? = some (.cells cur t fr)) : Plain w q := by
  intro i x e
  rw [cell_of_row w q i _ _ _ hq, ← Array.getElem?_toList] at e
  cases h _ (List.mem_of_getElem? e) _ _ rfl

/-- How an element lies in memory. -/
structure Enc (α : Type) where
  T : TypeId
  ST : TypeId
  n : Nat
  z : Value
  bys : Nat
  c : α → List Value
  len : ∀ x, (c x).length = n
  one : ∀ x, ∀ u ∈ c x, u.oneCell' = true
  nob : ∀ x, ∀ u ∈ c x, ∀ k y, u = Value.int k y → k = .i64
  hu : Try.prog.underlying ST = some (.slice T)
  hi : (Try.prog.info? T).map (fun i => (i.zero, i.size, i.bytes)) = some (some z, n, bys)
  hz : z.cells.size = n
  hby : bys ≤ 1000
  znob : ∀ u ∈ z.cells.toList, ∀ k y, u = Value.int k y → k = .i64
def Enc.cs {α : Type} (E : Enc α) (xs : List α) : List Value := xs.flatMap E.c
theorem Enc.cs_len {α : Type} (E : Enc α) : ∀ xs : List α, (E.cs xs).length = xs.length * E.n
  | [] => by simp [Enc.cs]
  | x :: r => by
    have ih := E.cs_len r
    simp only [Enc.cs, List.flatMap_cons, List.length_append, E.len] at ih ⊢
    rw [ih, List.length_cons, Nat.succ_mul]; omega
theorem Enc.cs_append {α : Type} (E : Enc α) (xs ys : List α) : E.cs (xs ++ ys) = E.cs xs ++ E.cs ys := by simp [Enc.cs]
theorem Enc.cs_cons {α : Type} (E : Enc α) (x : α) (ys : List α) : E.cs (x :: ys) = E.c x ++ E.cs ys := rfl
theorem Enc.cs_one {α : Type} (E : Enc α) (xs : List α) : ∀ u ∈ E.cs xs, u.oneCell' = true := by
  intro u hu
  obtain ⟨x, _, hx⟩ := List.mem_flatMap.1 hu
  exact E.one x u hx
theorem Enc.cs_nob {α : Type} (E : Enc α) (xs : List α) : ∀ u ∈ E.cs xs, ∀ k y, u = Value.int k y → k = .i64 := by
  intro u hu
  obtain ⟨x, _, hx⟩ := List.mem_flatMap.1 hu
  exact E.nob x u hx
theorem Enc.cs_take {α : Type} (E : Enc α) (xs : List α) (k : Nat) (hk : k ≤ xs.length) : (E.cs xs).take (k * E.n) = E.cs (xs.take k) := by
  have e : E.cs xs = E.cs (xs.take k) ++ E.cs (xs.drop k) := by rw [← E.cs_append, List.take_append_drop]
  have hl : (E.cs (xs.take k)).length = k * E.n := by rw [E.cs_len, List.length_take, Nat.min_eq_left hk]
  rw [e, ← hl, List.take_left]
theorem Enc.cs_drop {α : Type} (E : Enc α) (xs : List α) (k : Nat) (hk : k ≤ xs.length) : (E.cs xs).drop (k * E.n) = E.cs (xs.drop k) := by
  have e : E.cs xs = E.cs (xs.take k) ++ E.cs (xs.drop k) := by rw [← E.cs_append, List.take_append_drop]
  have hl : (E.cs (xs.take k)).length = k * E.n := by rw [E.cs_len, List.length_take, Nat.min_eq_left hk]
  rw [e, ← hl, List.drop_left]
theorem Enc.cs_get {α : Type} (E : Enc α) {xs : List α} {j : Nat} {x : α} (hj : xs[j]? = some x) {t : Nat} {u : Value} (hu : (E.c x)[t]? = some u) : (E.cs xs)[j * E.n + t]? = some u := by
  have hlt := (List.getElem?_eq_some_iff.1 hj).1
  have e : xs.drop j = x :: xs.drop (j + 1) := by
    rw [List.drop_eq_getElem_cons hlt]
    congr 1
    rw [List.getElem?_eq_getElem hlt] at hj
    exact Option.some.inj hj
  have h1 := E.cs_drop xs j (Nat.le_of_lt hlt)
  rw [← List.getElem?_drop, h1, e, E.cs_cons, List.getElem?_append_left (List.getElem?_eq_some_iff.1 hu).1]
  exact hu
theorem nob_zeros (z : Array Value) (hz : ∀ u ∈ z.toList, ∀ k y, u = Value.int k y → k = .i64) (m : Nat) : ∀ u ∈ (Builtin.zeroCells z m).toList, ∀ k y, u = Value.int k y → k = .i64 := by
  intro u hu k y e
  subst e
  simp only [Builtin.zeroCells] at hu
  simp at hu
  obtain ⟨a, ha, h⟩ := hu
  have h0 : a % z.size < z.size := Nat.mod_lt _ (by rcases Nat.eq_zero_or_pos z.size with h0 | h0; · rw [h0] at ha; omega
                                                    · exact h0)
  rw [getElem!_pos z _ h0] at h
  exact hz _ (Array.mem_toList_iff.2 (Array.getElem_mem h0)) k y h

/-- The slice value v reads as xs; it lies at the head of its block, or is nil. -/
def Row {α : Type} (E : Enc α) (w : World) (v : Value) (xs : List α) : Prop :=
  (v = .slice none 0 0 ∧ xs = []) ∨ ∃ q cap cur, v = .slice (some ⟨q, 0, none⟩) xs.length cap ∧ w.heap[q]? = some (.cells cur E.T (0, 0)) ∧ xs.length ≤ cap ∧ cap ≤ maxLen ∧ cap * E.n ≤ cur.size ∧ cur.toList.take (xs.length * E.n) = E.cs xs ∧ NoByte cur
theorem Row.nil {α : Type} (E : Enc α) (w : World) : Row E w (.slice none 0 0) [] := .inl ⟨rfl, rfl⟩
theorem Row.lt {α : Type} {E : Enc α} {w : World} {v : Value} {xs : List α} (h : Row E w v xs) {k : Nat} (hk : v.ownBlock = some k) : k < w.heap.size := by
  rcases h with ⟨rfl, _⟩ | ⟨q, cap, cur, rfl, h1, _⟩
  · cases hk
  · cases hk; exact (Array.getElem?_eq_some_iff.1 h1).1
theorem Row.isRow {α : Type} {E : Enc α} {w : World} {v : Value} {xs : List α} (h : Row E w v xs) {k : Nat} (hk : v.ownBlock = some k) : ∃ cur, w.heap[k]? = some (.cells cur E.T (0, 0)) ∧ NoByte cur := by
  rcases h with ⟨rfl, _⟩ | ⟨q, cap, cur, rfl, h1, _, _, _, _, h2⟩
  · cases hk
  · cases hk; exact ⟨cur, h1, h2⟩
theorem Row.plain {α : Type} {E : Enc α} {w : World} {v : Value} {xs : List α} (h : Row E w v xs) {k : Nat} (hk : v.ownBlock = some k) : Plain w k := by
  obtain ⟨cur, h1, h2⟩ := h.isRow hk
  exact h2.plain h1
theorem Row.keep {α : Type} {E : Enc α} {w w' : World} {v : Value} {xs : List α} (h : Row E w v xs) (hb : ∀ k, v.ownBlock = some k → w'.heap[k]? = w.heap[k]?) : Row E w' v xs := by
  rcases h with h | ⟨q, cap, cur, rfl, h1, h2⟩
  · exact .inl h
  · exact .inr ⟨q, cap, cur, rfl, (hb q rfl).trans h1, h2⟩
theorem Row.apart {α : Type} {E : Enc α} {F : Nat → Prop} {w w' : World} {v : Value} {xs : List α} (h : Row E w v xs) (ha : Apart F w w') (hn : ∀ k, v.ownBlock = some k → ¬ F k) : Row E w' v xs :=
  h.keep fun k hk => ha.block k (h.lt hk) (hn k hk)
theorem Row.below {α : Type} {E : Enc α} {w w' : World} {v : Value} {xs : List α} (h : Row E w v xs) (hb : Below w.heap.size w w') : Row E w' v xs :=
  h.keep fun k hk => hb.block k (h.lt hk)
/-- The shape of the value, and its cells. -/
theorem Row.shape {α : Type} {E : Enc α} {w : World} {v : Value} {xs : List α} (h : Row E w v xs) : ∃ a cap, v = .slice a xs.length cap ∧ xs.length ≤ cap ∧ cap ≤ maxLen ∧ (a = none → xs = [] ∧ cap = 0) ∧
    (∀ b, a = some b → ∃ q, b = ⟨q, 0, none⟩) ∧ ∀ (j : Nat) (u : Value), (E.cs xs)[j]? = some u → ∃ q, a = some ⟨q, 0, none⟩ ∧ w.cell? ⟨q, j, none⟩ = some u := by
  rcases h with ⟨rfl, rfl⟩ | ⟨q, cap, cur, rfl, h1, h2, h3, h4, h5, _⟩
  · exact ⟨none, 0, rfl, Nat.le_refl _, Nat.zero_le _, fun _ => ⟨rfl, rfl⟩, (fun b e => by cases e), fun j u hu => by simp [Enc.cs] at hu⟩
  · refine ⟨_, cap, rfl, h2, h3, (fun e => by cases e), (fun b e => ⟨q, by cases e; rfl⟩), fun j u hu => ⟨q, rfl, ?_⟩⟩
    rw [cell_of_row w q j _ _ _ h1, ← Array.getElem?_toList]
    rw [← h5, List.getElem?_take] at hu
    split at hu
    · exact hu
    · cases hu
theorem Row.get {α : Type} {E : Enc α} {w : World} {a : Option Addr} {len cap : Nat} {xs : List α} (h : Row E w (.slice a len cap) xs) {j : Nat} {x : α} (hj : xs[j]? = some x) :
    len = xs.length ∧ ∃ q, a = some ⟨q, 0, none⟩ ∧ ∀ (t : Nat) (u : Value), (E.c x)[t]? = some u → w.cell? ⟨q, j * E.n + t, none⟩ = some u := by
  rcases h with ⟨e, rfl⟩ | ⟨q, cap', cur, e, h1, h2, h3, h4, h5, h6⟩
  · simp at hj
  · cases e
    refine ⟨rfl, q, rfl, fun t u hu => ?_⟩
    obtain ⟨a', c', e', _, _, _, _, hc⟩ := Row.shape (E := E) (w := w) (v := .slice (some ⟨q, 0, none⟩) xs.length cap) (xs := xs) (.inr ⟨q, cap, cur, rfl, h1, h2, h3, h4, h5, h6⟩)
    cases e'
    obtain ⟨q', e2, h⟩ := hc _ u (E.cs_get hj hu)
    cases e2
    exact h

/-- Any more behind all. -/
theorem Row.append {α : Type} {E : Enc α} {w : World} {v : Value} {xs : List α} (h : Row E w v xs) (ts : List α) (hl : xs.length + ts.length ≤ 1000) (sa : Option Addr) (sc : Nat)
    (hs : ts ≠ [] → ∃ c off, sa = some ⟨c, off, none⟩ ∧ ∀ j u, (E.cs ts)[j]? = some u → w.cell? ⟨c, off + j, none⟩ = some u) :
    ∃ v' w', (Builtin.append_ #[E.ST, E.ST] E.ST #[v, .slice sa ts.length sc]).run Try.prog w = .ok v' w' ∧ Row E w' v' (xs ++ ts) ∧ Apart (fun k => v.ownBlock = some k) w w' ∧ (∀ k, v'.ownBlock = some k → v.ownBlock = some k ∨ w.heap.size ≤ k) := by
  obtain ⟨i, hi, hz0, hz1, hz2⟩ := info_parts E.hi
  have hm : (1000 : Nat) < maxLen := by decide
  have hby := E.hby
  by_cases hne : ts = []
  · subst hne
    obtain ⟨a, cap, rfl, hc1, _⟩ := h.shape
    have hsrc : Src Try.prog i.size E.ST (.slice sa 0 sc) 0 [] w := by
      cases sa with
      | none => exact Src.ofNil w E.hu sc
      | some b => exact Src.ofSlice w E.hu b 0 sc [] (by simp) (by simp) (by simp)
    refine ⟨_, w, run_append_nothing w E.ST E.ST E.ST E.T i E.hu hi a xs.length cap hc1 _ hsrc, by simpa using h, Apart.refl _ _, fun k hk => .inl hk⟩
  · obtain ⟨c, off, rfl, hcell⟩ := hs hne
    have hpos : 0 < ts.length := List.length_pos_iff.2 hne
    have hnews : ∀ j u, (E.cs ts)[j]? = some u → w.cell? ((⟨c, off, none⟩ : Addr).add j) = some u := fun j u hj => by rw [Addr.add_lit]; exact hcell j u hj
    have hnl : (E.cs ts).length = ts.length * i.size := by rw [hz1, E.cs_len]
    have hmul : ∀ a b : Nat, a ≤ 1000 → b ≤ 1000 → a * b ≤ 1000000 := fun a b h1 h2 => Nat.mul_le_mul h1 h2
    rcases h with ⟨rfl, rfl⟩ | ⟨q, cap, cur, rfl, h1, h2, h3, h4, h5, h6⟩
    · have hrun := run_append_nil (P := Try.prog) w E.ST E.ST E.T i _ E.hu hi hz0 ⟨c, off, none⟩ ts.length sc (E.cs ts) hnl hnews hpos (by simp at hl; omega) (by rw [hz2]; have := hmul ts.length E.bys (by simpa using hl) hby; omega)
      have hge := grownCap_ge w ts.length 0 E.T
      have hcm : grownCap w ts.length 0 E.T ≤ maxLen := grownCap_le_maxLen w _ _ E.T (by simp at hl; omega)
      refine ⟨_, _, hrun, .inr ⟨w.heap.size, _, _, rfl, heap_alloc_new w.drew _, by simpa using hge, hcm, ?_, ?_, ?_⟩, ⟨rfl, rfl, rfl, by simp, fun k hk _ => Below.heap_alloc w.drew _ k hk⟩, fun k hk => .inr (by cases hk; exact Nat.le_refl _)⟩
      · simp only [Array.size_append, List.size_toArray, size_zeroCells, E.cs_len, E.hz]
        rw [← Nat.add_mul]
        exact Nat.mul_le_mul_right _ (by omega)
      · simp only [Array.toList_append, List.nil_append]
        rw [← E.cs_len ts, List.take_left]
      · intro u hu
        simp only [Array.toList_append, List.mem_append] at hu
        rcases hu with hu | hu
        · exact E.cs_nob ts u hu
        · exact nob_zeros _ E.znob _ u hu
    · by_cases hroom : xs.length + ts.length ≤ cap
      · have hfit : xs.length * E.n + (E.cs ts).length ≤ cur.size := by
          rw [E.cs_len, ← Nat.add_mul]
          exact Nat.le_trans (Nat.mul_le_mul_right _ hroom) h4
        have hrun := run_append_room (P := Try.prog) w E.ST E.ST E.T i E.hu hi q xs.length cap cur h1 ⟨c, off, none⟩ ts.length sc (E.cs ts) hnl hnews (E.cs_one ts) hroom (by rw [hz1]; exact hfit)
        rw [hz1] at hrun
        refine ⟨_, _, hrun, .inr ⟨q, cap, _, by simp, setRow_heap w q cur _ E.T _ h1, by simpa using hroom, h3, ?_, ?_, ?_⟩, ⟨rfl, rfl, rfl, by simp, fun k _ hk => setRow_other w q k _ (fun e => hk (by subst e; rfl))⟩, fun k hk => .inl hk⟩
        · simp only [List.size_toArray, List.length_append, List.length_take, List.length_drop, Array.length_toList]
          omega
        · rw [h5, ← E.cs_append, List.length_append, ← List.length_append, ← E.cs_len (xs ++ ts), List.take_left]
        · intro u hu
          simp only [List.mem_append] at hu
          rcases hu with (hu | hu) | hu
          · exact h6 u (List.mem_of_mem_take hu)
          · exact E.cs_nob ts u hu
          · exact h6 u (List.mem_of_mem_drop hu)
      · have holds : ∀ j u, (E.cs xs)[j]? = some u → w.cell? ((⟨q, 0, none⟩ : Addr).add j) = some u := by
          intro j u hj
          rw [Addr.add_lit, Nat.zero_add, cell_of_row w q j _ _ _ h1, ← Array.getElem?_toList]
          rw [← h5, List.getElem?_take] at hj
          split at hj
          · exact hj
          · cases hj
        have hnc : Builtin.nextslicecap (xs.length + ts.length) cap * i.bytes ≤ 281474976710656 := by
          rw [hz2]
          refine growslice_fits (by omega) ?_
          have := hmul (xs.length + ts.length) E.bys hl hby
          omega
        have hrun := run_append_grow (P := Try.prog) w E.ST E.ST E.T i _ E.hu hi hz0 ⟨q, 0, none⟩ xs.length cap (E.cs xs) (by rw [hz1, E.cs_len]) holds ⟨c, off, none⟩ ts.length sc (E.cs ts) hnl hnews (by omega) (by omega) hnc
        have hge := grownCap_ge w (xs.length + ts.length) cap E.T
        have hcm : grownCap w (xs.length + ts.length) cap E.T ≤ maxLen := grownCap_le_maxLen w _ _ E.T (by omega)
        refine ⟨_, _, hrun, .inr ⟨w.heap.size, _, _, by simp, heap_alloc_new w.drew _, by simpa using hge, hcm, ?_, ?_, ?_⟩, ⟨rfl, rfl, rfl, by simp, fun k hk _ => Below.heap_alloc w.drew _ k hk⟩, fun k hk => .inr (by cases hk; exact Nat.le_refl _)⟩
        · simp only [Array.size_append, List.size_toArray, size_zeroCells, E.cs_len, E.hz]
          rw [← Nat.add_mul, ← Nat.add_mul]
          exact Nat.mul_le_mul_right _ (by omega)
        · simp only [Array.toList_append]
          rw [← E.cs_append, ← E.cs_len (xs ++ ts), List.take_left]
        · intro u hu
          simp only [Array.toList_append, List.mem_append] at hu
          rcases hu with (hu | hu) | hu
          · exact E.cs_nob xs u hu
          · exact E.cs_nob ts u hu
          · exact nob_zeros _ E.znob _ u hu

/-- Numbers, and intervals. -/
theorem one_int (x : Int) : ∀ u ∈ [Value.int .i64 x], u.oneCell' = true := by
  intro u hu; simp only [List.mem_cons, List.not_mem_nil, or_false] at hu; subst hu; rfl
theorem nob_int (x : Int) : ∀ u ∈ [Value.int .i64 x], ∀ k y, u = Value.int k y → k = .i64 := by
  intro u hu k y e; simp only [List.mem_cons, List.not_mem_nil, or_false] at hu; subst hu; cases e; rfl
def EL : Enc Int := ⟨2, 22, 1, .int .i64 0, 8, fun x => [.int .i64 x], fun _ => rfl, one_int, nob_int, by kernel_rfl, by kernel_rfl, rfl, by decide, fun u hu => nob_int 0 u (by simpa [Value.cells] using hu)⟩
theorem one_iv (x : Int × Int) : ∀ u ∈ [Value.int .i64 x.1, Value.int .i64 x.2], u.oneCell' = true := by
  intro u hu; simp only [List.mem_cons, List.not_mem_nil, or_false] at hu; rcases hu with rfl | rfl <;> rfl
theorem nob_iv (x : Int × Int) : ∀ u ∈ [Value.int .i64 x.1, Value.int .i64 x.2], ∀ k y, u = Value.int k y → k = .i64 := by
  intro u hu k y e; simp only [List.mem_cons, List.not_mem_nil, or_false] at hu; rcases hu with rfl | rfl <;> cases e <;> rfl
def EV : Enc (Int × Int) := ⟨43, 23, 2, .agg #[.int .i64 0, .int .i64 0], 16, fun x => [.int .i64 x.1, .int .i64 x.2], fun _ => rfl, one_iv, nob_iv, by kernel_rfl, by kernel_rfl, rfl, by decide, fun u hu => nob_iv (0, 0) u (by simpa [Value.cells] using hu)⟩
/-- One more behind all, out of a cell of its own. -/
theorem Row.pushL {w : World} {v : Value} {xs : List Int} (h : Row EL w v xs) (hl : xs.length ≤ 999) (x : Int) (c : Nat) (hc : w.cell? ⟨c, 0, none⟩ = some (.int .i64 x)) :
    ∃ v' w', (Builtin.append_ #[22, 22] 22 #[v, .slice (some ⟨c, 0, none⟩) 1 1]).run Try.prog w = .ok v' w' ∧ Row EL w' v' (xs ++ [x]) ∧ Apart (fun k => v.ownBlock = some k) w w' ∧ (∀ k, v'.ownBlock = some k → v.ownBlock = some k ∨ w.heap.size ≤ k) :=
  h.append [x] (by simp; omega) (some ⟨c, 0, none⟩) 1 fun _ => ⟨c, 0, rfl, fun j u hu => by
    match j, hu with
    | 0, hu => simp [Enc.cs, EL] at hu; rw [← hu]; exact hc
    | j + 1, hu => simp [Enc.cs, EL] at hu⟩
theorem Row.pushV {w : World} {v : Value} {xs : List (Int × Int)} (h : Row EV w v xs) (hl : xs.length ≤ 999) (x : Int × Int) (c : Nat) (hc : w.cell? ⟨c, 0, none⟩ = some (.int .i64 x.1)) (hc1 : w.cell? ⟨c, 1, none⟩ = some (.int .i64 x.2)) :
    ∃ v' w', (Builtin.append_ #[23, 23] 23 #[v, .slice (some ⟨c, 0, none⟩) 1 1]).run Try.prog w = .ok v' w' ∧ Row EV w' v' (xs ++ [x]) ∧ Apart (fun k => v.ownBlock = some k) w w' ∧ (∀ k, v'.ownBlock = some k → v.ownBlock = some k ∨ w.heap.size ≤ k) :=
  h.append [x] (by simp; omega) (some ⟨c, 0, none⟩) 1 fun _ => ⟨c, 0, rfl, fun j u hu => by
    match j, hu with
    | 0, hu => simp [Enc.cs, EV] at hu; rw [← hu]; exact hc
    | 1, hu => simp [Enc.cs, EV] at hu; rw [← hu]; exact hc1
    | j + 2, hu => simp [Enc.cs, EV] at hu⟩
end Go.Proofs.Ytfifcfdlmpgohaa
