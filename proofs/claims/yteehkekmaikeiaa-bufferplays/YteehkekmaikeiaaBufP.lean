/-
  A buffer of the program in memory.
-/
import Derived.Test.YteehkekmaikeiaaBufU
namespace Go.Proofs.Yteehkekmaikeiaa
open Go.ChangeShapes Go.WideShapes Go.ChangeAt Go.RowKit

/-- Block g holds a buffer of the program: what waits the slice v, its map in block m. -/
def PA (w : World) (g most lost : Nat) (v : Value) (m : Nat) : Prop := w.heap[g]? = some (.cells #[.int .i64 (most : Int), .int .i64 (lost : Int), v, .map (some m)] 49 (0, 0))
theorem PA.lt {w : World} {g most lost : Nat} {v : Value} {m : Nat} (h : PA w g most lost v m) : g < w.heap.size := (Array.getElem?_eq_some_iff.1 h).1
theorem PA.keep {w w' : World} {g most lost : Nat} {v : Value} {m : Nat} (h : PA w g most lost v m) (hb : w'.heap[g]? = w.heap[g]?) : PA w' g most lost v m := hb.trans h
theorem PA.c0 {w : World} {g most lost : Nat} {v : Value} {m : Nat} (h : PA w g most lost v m) : w.cell? ⟨g, 0, none⟩ = some (.int .i64 (most : Int)) := cell_of_row w _ 0 _ _ _ h
theorem PA.c1 {w : World} {g most lost : Nat} {v : Value} {m : Nat} (h : PA w g most lost v m) : w.cell? ⟨g, 1, none⟩ = some (.int .i64 (lost : Int)) := cell_of_row w _ 1 _ _ _ h
theorem PA.c2 {w : World} {g most lost : Nat} {v : Value} {m : Nat} (h : PA w g most lost v m) : w.cell? ⟨g, 2, none⟩ = some v := cell_of_row w _ 2 _ _ _ h
theorem PA.c3 {w : World} {g most lost : Nat} {v : Value} {m : Nat} (h : PA w g most lost v m) : w.cell? ⟨g, 3, none⟩ = some (.map (some m)) := cell_of_row w _ 3 _ _ _ h
theorem PA.fz {w : World} {g most lost : Nat} {v : Value} {m : Nat} (h : PA w g most lost v m) (i : Nat) : w.frozen? ⟨g, i, none⟩ = false := frozen_of_row _ _ i _ _ h
theorem PA.put1 {w : World} {g most lost : Nat} {v : Value} {m : Nat} (h : PA w g most lost v m) (x : Nat) : PA (w.setCell ⟨g, 1, none⟩ (.int .i64 (x : Int))) g most x v m := by
  show (w.setCell ⟨g, 1, none⟩ _).heap[g]? = _
  rw [heap_setCell_same _ _ _ _ _ _ h]; rfl
theorem PA.put2 {w : World} {g most lost : Nat} {v : Value} {m : Nat} (h : PA w g most lost v m) (x : Value) : PA (w.setCell ⟨g, 2, none⟩ x) g most lost x m := by
  show (w.setCell ⟨g, 2, none⟩ _).heap[g]? = _
  rw [heap_setCell_same _ _ _ _ _ _ h]; rfl
theorem PA.plain {w : World} {g most lost : Nat} {v : Value} {m : Nat} (h : PA w g most lost v m) (hv : ∀ k y, v = Value.int k y → k = .i64) : Plain w g := by
  refine NoByte.plain (cur := #[.int .i64 (most : Int), .int .i64 (lost : Int), v, .map (some m)]) (fun u hu k y => ?_) h
  simp only [List.mem_cons, List.not_mem_nil, or_false] at hu
  rcases hu with rfl | rfl | rfl | rfl
  · intro e; cases e; rfl
  · intro e; cases e; rfl
  · exact hv k y
  · intro e; cases e

def Own (g m : Nat) (v : Value) : Nat → Prop := fun k => k = g ∨ k = m ∨ v.ownBlock = some k
def Seen (w : World) (ss : List Sl) : Prop := ∀ x ∈ ss, Sees w x.2.1 x.2.2 x.1.b
/-- A buffer as it lies in memory. -/
structure Pb (w : World) (g m : Nat) (v : Value) (s : Bs) (ss : List Sl) (n : Nat) : Prop where
  at' : PA w g s.most s.lost v m
  map : MapAt w m n (cnt s.L)
  row : Row E57 w v ss
  its : ss.map Prod.fst = s.L
  seen : Seen w ss
  ok : s.ok
theorem Row.notint {α : Type} {E : Enc α} {w : World} {v : Value} {xs : List α} (h : Row E w v xs) : ∀ k y, v = Value.int k y → k = .i64 := by
  obtain ⟨a, cap, rfl, _⟩ := h.shape
  intro k y e; cases e
theorem own_gm {w : World} {g most lost m n : Nat} {v : Value} {f : Key → Nat} (h : PA w g most lost v m) (h2 : MapAt w m n f) : g ≠ m := by
  rintro rfl
  obtain ⟨es, clock, h1⟩ := h2.isMap
  unfold PA at h
  rw [h1] at h; cases h
theorem own_vg {w : World} {g most lost m : Nat} {v u : Value} {ss : List Sl} (h : PA w g most lost u m) (h2 : Row E57 w v ss) : v.ownBlock ≠ some g := by
  intro e
  obtain ⟨cur, h1, _⟩ := h2.isRow e
  unfold PA at h
  rw [h1] at h; cases h
theorem own_vm {w : World} {m n : Nat} {v : Value} {ss : List Sl} {f : Key → Nat} (h : MapAt w m n f) (h2 : Row E57 w v ss) : v.ownBlock ≠ some m := by
  intro e
  obtain ⟨cur, h1, _⟩ := h2.isRow e
  obtain ⟨es, clock, h3⟩ := h.isMap
  rw [h1] at h3; cases h3
theorem Pb.lt {w : World} {g m : Nat} {v : Value} {s : Bs} {ss : List Sl} {n : Nat} (h : Pb w g m v s ss n) {k : Nat} (hk : Own g m v k) : k < w.heap.size := by
  rcases hk with rfl | rfl | hk
  · exact h.at'.lt
  · exact h.map.lt
  · exact h.row.lt hk
theorem own_plain {w : World} {g most lost m n : Nat} {v : Value} {ss : List Sl} {f : Key → Nat} (h : PA w g most lost v m) (h2 : MapAt w m n f) (h3 : Row E57 w v ss) {k : Nat} (hk : Own g m v k) : Plain w k := by
  rcases hk with rfl | rfl | hk
  · exact h.plain h3.notint
  · exact h2.plain
  · exact h3.plain hk
theorem Pb.plain {w : World} {g m : Nat} {v : Value} {s : Bs} {ss : List Sl} {n : Nat} (h : Pb w g m v s ss n) {k : Nat} (hk : Own g m v k) : Plain w k := own_plain h.at' h.map h.row hk
theorem Seen.apart {w w' : World} {F : Nat → Prop} {ss : List Sl} (h : Seen w ss) (ha : Apart F w w') (hp : ∀ k, F k → Plain w k) : Seen w' ss := fun x hx => (h x hx).apart ha hp
theorem Seen.below {w w' : World} {ss : List Sl} (h : Seen w ss) (hb : Below w.heap.size w w') : Seen w' ss := fun x hx => (h x hx).below hb
theorem Pb.apart {w w' : World} {F : Nat → Prop} {g m : Nat} {v : Value} {s : Bs} {ss : List Sl} {n : Nat} (h : Pb w g m v s ss n) (ha : Apart F w w') (hF : ∀ k, F k → ¬ Own g m v k) (hp : ∀ k, F k → Plain w k) : Pb w' g m v s ss n :=
  have hb : ∀ k, Own g m v k → w'.heap[k]? = w.heap[k]? := fun k hk => ha.block k (h.lt hk) (fun hf => hF k hf hk)
  ⟨h.at'.keep (hb g (.inl rfl)), h.map.keep (hb m (.inr (.inl rfl))), h.row.keep fun k hk => hb k (.inr (.inr hk)), h.its, h.seen.apart ha hp, h.ok⟩
theorem Pb.below {w w' : World} {g m : Nat} {v : Value} {s : Bs} {ss : List Sl} {n : Nat} (h : Pb w g m v s ss n) (hb : Below w.heap.size w w') : Pb w' g m v s ss n :=
  h.apart (F := fun _ => False) (Apart.of_below hb) (fun _ h => h.elim) (fun _ h => h.elim)
theorem Pb.drew {w : World} {g m : Nat} {v : Value} {s : Bs} {ss : List Sl} {n : Nat} (h : Pb w g m v s ss n) : Pb w.drew g m v s ss n := h.below ((Below.refl _ _).drew)
theorem Pb.mono {w : World} {g m : Nat} {v : Value} {s : Bs} {ss : List Sl} {n n' : Nat} (h : Pb w g m v s ss n) (hn : n ≤ n') : Pb w g m v s ss n' := ⟨h.at', h.map.mono hn, h.row, h.its, h.seen, h.ok⟩
theorem wfK_of {x : It} (h : argB x.e x.i x.b = true) : wfK x.k := by
  obtain ⟨h1, h2, h3, h4, _⟩ := argB_iff.1 h
  exact ⟨inI_wf (x := x.e) (by omega) (by omega), inI_wf (x := x.i) (by omega) (by omega)⟩

/-! ### takeOut's rounds -/
def blOf (x : Sl) : Bl := (x.1.b, x.2)
def SeenB (w : World) (os : List Bl) : Prop := ∀ x ∈ os, Sees w x.2.1 x.2.2 x.1
theorem own_same (a : Option Addr) (n c n' c' : Nat) : (Value.slice a n c).ownBlock = (Value.slice a n' c').ownBlock := by cases a <;> rfl
theorem Own.same {g m : Nat} {a : Option Addr} {n c : Nat} (n' c' : Nat) {k : Nat} (h : Own g m (.slice a n c) k) : Own g m (.slice a n' c') k := by
  rcases h with h | h | h
  · exact .inl h
  · exact .inr (.inl h)
  · exact .inr (.inr ((own_same _ _ _ _ _).trans h))
/-- A buffer in the midst of takeOut: the length in its field, the row, what the map counts, what was taken out. -/
structure Mid (w : World) (g m : Nat) (a : Option Addr) (cap : Nat) (s : Bs) (ss : List Sl) (n len : Nat) (cur : List Sl) (f : Key → Nat) (vo : Value) (outs : List Bl) (W : World) : Prop where
  at' : PA W g s.most s.lost (.slice a len cap) m
  map : MapAt W m n f
  row : Row E57 W (.slice a cur.length cap) cur
  out : Row E22 W vo outs
  seen : Seen W ss
  apart : Apart (Own g m (.slice a 0 cap)) w W
  old : ∀ k, Own g m (.slice a 0 cap) k → k < w.heap.size
  new : ∀ k, vo.ownBlock = some k → w.heap.size ≤ k
theorem Mid.plain {w : World} {g m : Nat} {a : Option Addr} {cap : Nat} {s : Bs} {ss : List Sl} {n len : Nat} {cur : List Sl} {f : Key → Nat} {vo : Value} {outs : List Bl} {W : World} (h : Mid w g m a cap s ss n len cur f vo outs W) {k : Nat} (hk : Own g m (.slice a 0 cap) k) : Plain W k := by
  rcases hk with rfl | rfl | hk
  · exact h.at'.plain (fun k y e => by cases e)
  · exact h.map.plain
  · exact h.row.plain ((own_same _ _ _ _ _).trans hk)
theorem Mid.below {w : World} {g m : Nat} {a : Option Addr} {cap : Nat} {s : Bs} {ss : List Sl} {n len : Nat} {cur : List Sl} {f : Key → Nat} {vo : Value} {outs : List Bl} {W W' : World} (h : Mid w g m a cap s ss n len cur f vo outs W) (hb : Below W.heap.size W W') : Mid w g m a cap s ss n len cur f vo outs W' :=
  ⟨h.at'.keep (hb.block g h.at'.lt), h.map.keep (hb.block m h.map.lt), h.row.below hb, h.out.below hb, h.seen.below hb, h.apart.trans (Apart.of_below (F := fun _ => False) hb) (fun _ h => h.elim), h.old, h.new⟩
/-- The list of what is out changes. -/
theorem Mid.outs {w : World} {g m : Nat} {a : Option Addr} {cap : Nat} {s : Bs} {ss : List Sl} {n len : Nat} {cur : List Sl} {f : Key → Nat} {vo vo' : Value} {outs outs' : List Bl} {W W' : World} (h : Mid w g m a cap s ss n len cur f vo outs W)
    (hr : Row E22 W' vo' outs') (ha : Apart (fun k => vo.ownBlock = some k) W W') (hn : ∀ k, vo'.ownBlock = some k → vo.ownBlock = some k ∨ W.heap.size ≤ k) : Mid w g m a cap s ss n len cur f vo' outs' W' := by
  have hne : ∀ k, Own g m (.slice a 0 cap) k → W'.heap[k]? = W.heap[k]? := fun k hk => ha.block k (Nat.lt_of_lt_of_le (h.old k hk) h.apart.size) fun e => by
    have := h.new k e; have := h.old k hk; omega
  refine ⟨h.at'.keep (hne g (.inl rfl)), h.map.keep (hne m (.inr (.inl rfl))), h.row.keep fun k hk => hne k (.inr (.inr ((own_same _ _ _ _ _).trans hk))), hr, h.seen.apart ha fun k hk => h.out.plain hk, ?_, h.old, fun k hk => ?_⟩
  · exact h.apart.trans ha fun i hi => .inr (h.new i hi)
  · rcases hn k hk with e | e
    · exact h.new k e
    · exact Nat.le_trans h.apart.size e
/-- Its row changes. -/
theorem Mid.rows {w : World} {g m : Nat} {a : Option Addr} {cap : Nat} {s : Bs} {ss : List Sl} {n len : Nat} {cur cur' : List Sl} {f : Key → Nat} {vo : Value} {outs : List Bl} {W W' : World} (h : Mid w g m a cap s ss n len cur f vo outs W)
    (hr : Row E57 W' (.slice a cur'.length cap) cur') (ha : Apart (fun k => (Value.slice a 0 cap).ownBlock = some k) W W') : Mid w g m a cap s ss n len cur' f vo outs W' := by
  have h1 : ∀ k, (Value.slice a 0 cap).ownBlock = some k → Own g m (.slice a 0 cap) k := fun k hk => .inr (.inr hk)
  have hg : (Value.slice a 0 cap).ownBlock ≠ some g := by rw [own_same a 0 cap cur.length cap]; exact own_vg h.at' h.row
  have hm : (Value.slice a 0 cap).ownBlock ≠ some m := by rw [own_same a 0 cap cur.length cap]; exact own_vm h.map h.row
  refine ⟨h.at'.keep (ha.block g h.at'.lt hg), h.map.keep (ha.block m h.map.lt hm), hr, h.out.apart ha fun k hk e => ?_, h.seen.apart ha fun k hk => h.plain (h1 k hk), h.apart.trans ha fun i hi => .inl (h1 i hi), h.old, h.new⟩
  have := h.new k hk; have := h.old k (h1 k e); omega
/-- The length is put into the field. -/
theorem Mid.lens {w : World} {g m : Nat} {a : Option Addr} {cap : Nat} {s : Bs} {ss : List Sl} {n len : Nat} {cur : List Sl} {f : Key → Nat} {vo : Value} {outs : List Bl} {W : World} (h : Mid w g m a cap s ss n len cur f vo outs W) (len' : Nat) : Mid w g m a cap s ss n len' cur f vo outs (W.setCell ⟨g, 2, none⟩ (.slice a len' cap)) := by
  have ha : Apart (fun k => k = g) W (W.setCell ⟨g, 2, none⟩ (.slice a len' cap)) := (Apart.refl (fun k => k = g) W).setCell (b := g) (.inl rfl) 2 _
  have hg : (Value.slice a cur.length cap).ownBlock ≠ some g := own_vg h.at' h.row
  refine ⟨h.at'.put2 _, h.map.keep (ha.block m h.map.lt fun e => own_gm h.at' h.map e.symm), h.row.apart ha fun k hk e => hg (e ▸ hk), h.out.apart ha fun k hk e => ?_, h.seen.apart ha fun k hk => h.plain (.inl hk), h.apart.trans ha fun i hi => .inl (.inl hi), h.old, h.new⟩
  have := h.new k hk; have := h.old k (.inl e); omega
/-- The map changes. -/
theorem Mid.maps {w : World} {g m : Nat} {a : Option Addr} {cap : Nat} {s : Bs} {ss : List Sl} {n n' len : Nat} {cur : List Sl} {f f' : Key → Nat} {vo : Value} {outs : List Bl} {W W' : World} (h : Mid w g m a cap s ss n len cur f vo outs W)
    (hm : MapAt W' m n' f') (ha : Apart (fun k => k = m) W W') : Mid w g m a cap s ss n' len cur f' vo outs W' := by
  have hv : (Value.slice a cur.length cap).ownBlock ≠ some m := own_vm h.map h.row
  refine ⟨h.at'.keep (ha.block g h.at'.lt (own_gm h.at' h.map)), hm, h.row.apart ha fun k hk e => hv (e ▸ hk), h.out.apart ha fun k hk e => ?_, h.seen.apart ha fun k hk => h.plain (.inr (.inl hk)), h.apart.trans ha fun i hi => .inl (.inr (.inl hi)), h.old, h.new⟩
  have := h.new k hk; have := h.old k (.inr (.inl e)); omega

/-- What is left of those from j on, with those below j. -/
def leftL (p : Sl → Bool) (M : Nat) (ss : List Sl) (j : Nat) : List Sl := ss.take j ++ (split p M (ss.drop j)).2
def outL (p : Sl → Bool) (M : Nat) (ss : List Sl) (j : Nat) : List Bl := ((split p M (ss.drop j)).1.map blOf).reverse
/-- What takeOut goes through: those below j are still to come. -/
def Going (w : World) (g m : Nat) (a : Option Addr) (cap : Nat) (s : Bs) (ss : List Sl) (n : Nat) (p : Sl → Bool) (M j : Nat) (vo : Value) (W : World) : Prop :=
  Mid w g m a cap s ss (n + (ss.length - j)) (leftL p M ss j).length (leftL p M ss j) (cnt ((leftL p M ss j).map Prod.fst)) vo (outL p M ss j) W
/-- What takeOut leaves. -/
def Taken (w : World) (g m : Nat) (v : Value) (s : Bs) (n : Nat) (p : It → Bool) (M : Nat) (vo : Value) (w' : World) : Prop :=
  ∃ v' ss' os, Pb w' g m v' { s with L := (split p M s.L).2 } ss' (n + 64) ∧ v'.ownBlock = v.ownBlock ∧ Row E22 w' vo os ∧ SeenB w' os ∧ os.map Prod.fst = (split p M s.L).1.map It.b ∧ Apart (Own g m v) w w' ∧ ∀ k, vo.ownBlock = some k → w.heap.size ≤ k
theorem Going.start {w : World} {g m : Nat} {a : Option Addr} {cap : Nat} {s : Bs} {ss : List Sl} {n : Nat} (h : Pb w g m (.slice a ss.length cap) s ss n) (p : Sl → Bool) (M : Nat) : Going w g m a cap s ss n p M ss.length (.slice none 0 0) w := by
  have e : leftL p M ss ss.length = ss := by simp [leftL, split]
  have e1 : outL p M ss ss.length = [] := by simp [outL, split]
  unfold Going
  rw [e, e1, h.its]
  exact ⟨h.at', h.map.mono (by omega), h.row, Row.nil _ _, h.seen, Apart.refl _ _, fun k hk => h.lt (hk.same _ _), fun k hk => by cases hk⟩
theorem drop_at {α : Type} {l : List α} {j : Nat} {x : α} (h : l[j]? = some x) : l.drop j = x :: l.drop (j + 1) := by
  have hlt := (List.getElem?_eq_some_iff.1 h).1
  rw [List.drop_eq_getElem_cons hlt]
  congr 1
  rw [List.getElem?_eq_getElem hlt] at h
  exact Option.some.inj h
/-- The element that is looked at. -/
theorem left_at {p : Sl → Bool} {M : Nat} {ss : List Sl} {j : Nat} {x : Sl} (hx : ss[j]? = some x) : (leftL p M ss (j + 1))[j]? = some x := by
  have hlt := (List.getElem?_eq_some_iff.1 hx).1
  rw [leftL, List.getElem?_append_left (by simp; omega), List.getElem?_take, if_pos (by omega)]
  exact hx
/-- It stays. -/
theorem left_stays {p : Sl → Bool} {M : Nat} {ss : List Sl} {j : Nat} {x : Sl} (hx : ss[j]? = some x) (hp : p x = false) : leftL p M ss j = leftL p M ss (j + 1) ∧ outL p M ss j = outL p M ss (j + 1) := by
  have hs := split_no p M x (ss.drop (j + 1)) hp
  constructor
  · rw [leftL, leftL, drop_at hx, hs, take_snoc ss j x hx, List.append_assoc]; rfl
  · rw [outL, outL, drop_at hx, hs]
theorem left_goes {p : Sl → Bool} {M : Nat} {ss : List Sl} {j : Nat} {x : Sl} (hx : ss[j]? = some x) (hp : p x = true) (hM : (outL p M ss (j + 1)).length ≠ M) : leftL p M ss j = (leftL p M ss (j + 1)).eraseIdx j ∧ outL p M ss j = outL p M ss (j + 1) ++ [blOf x] := by
  have hlt := (List.getElem?_eq_some_iff.1 hx).1
  have hs := split_yes p M x (ss.drop (j + 1)) (by simpa [outL] using hM) hp
  constructor
  · rw [leftL, leftL, drop_at hx, hs, List.eraseIdx_append_of_lt_length (by simp; omega), take_snoc ss j x hx, List.eraseIdx_append_of_length_le (by simp; omega)]
    congr 1
    simp [Nat.min_eq_left (Nat.le_of_lt hlt)]
  · rw [outL, outL, drop_at hx, hs]; simp
theorem Going.stays {w : World} {g m : Nat} {a : Option Addr} {cap : Nat} {s : Bs} {ss : List Sl} {n : Nat} {p : Sl → Bool} {M j : Nat} {vo : Value} {W : World} {x : Sl} (h : Going w g m a cap s ss n p M (j + 1) vo W) (hx : ss[j]? = some x) (hp : p x = false) : Going w g m a cap s ss n p M j vo W := by
  obtain ⟨e1, e2⟩ := left_stays (p := p) (M := M) hx hp
  unfold Going
  rw [e1, e2]
  exact ⟨h.at', h.map.mono (by have := (List.getElem?_eq_some_iff.1 hx).1; omega), h.row, h.out, h.seen, h.apart, h.old, h.new⟩
theorem cnt_erase {L : List Sl} {j : Nat} {x : Sl} (h : L[j]? = some x) (k : Key) : (if k = x.1.k then cnt (L.map Prod.fst) x.1.k - 1 else cnt (L.map Prod.fst) k) = cnt ((L.eraseIdx j).map Prod.fst) k := by
  have hlt := (List.getElem?_eq_some_iff.1 h).1
  have e : L = L.take j ++ [x] ++ L.drop (j + 1) := by rw [List.append_assoc, List.singleton_append, ← drop_at h, List.take_append_drop]
  have e2 : L.eraseIdx j = L.take j ++ L.drop (j + 1) := List.eraseIdx_eq_take_drop_succ L j
  have e3 : ∀ k, cnt (L.map Prod.fst) k = cnt ((L.eraseIdx j).map Prod.fst) k + (if x.1.k = k then 1 else 0) := by
    intro k
    rw [e2]
    conv => lhs; rw [e]
    simp only [List.map_append, List.map_cons, List.map_nil, cnt_append, cnt_one]
    omega
  by_cases hk : k = x.1.k
  · subst hk; rw [if_pos rfl, e3, if_pos rfl]; omega
  · rw [if_neg hk, e3, if_neg (fun e => hk e.symm)]; omega
/-- It ends. -/
theorem Going.done {w : World} {g m : Nat} {a : Option Addr} {cap : Nat} {s : Bs} {ss : List Sl} {n : Nat} {q : It → Bool} {M j : Nat} {vo : Value} {W : World} (h : Going w g m a cap s ss n (fun x => q x.1) M j vo W) (hP : Pb w g m (.slice a ss.length cap) s ss n)
    (hj : j = 0 ∨ (outL (fun x => q x.1) M ss j).length = M) {W' : World} (hr : Row E22 W' vo (outL (fun x => q x.1) M ss j).reverse) (ha : Apart (fun k => vo.ownBlock = some k) W W') : Taken w g m (.slice a ss.length cap) s n q M vo W' := by
  have h2 : Mid w g m a cap s ss (n + (ss.length - j)) (leftL (fun x => q x.1) M ss j).length (leftL (fun x => q x.1) M ss j) (cnt ((leftL (fun x => q x.1) M ss j).map Prod.fst)) vo (outL (fun x => q x.1) M ss j).reverse W' := Mid.outs h hr ha (fun k hk => .inl hk)
  have hsp : split (fun x : Sl => q x.1) M ss = ((split (fun x : Sl => q x.1) M (ss.drop j)).1, leftL (fun x => q x.1) M ss j) := by
    rcases hj with rfl | hj
    · simp [leftL]
    · have := split_full (fun x : Sl => q x.1) M (ss.drop j) (by simpa [outL] using hj) (ss.take j)
      rw [List.take_append_drop] at this
      exact this
  have hmap := split_map Prod.fst q M ss
  rw [hP.its, hsp] at hmap
  have hlen : ss.length ≤ 64 := by have := hP.ok.len; have := hP.ok.hi; have := congrArg List.length hP.its; simp at this; omega
  have e2 : (leftL (fun x => q x.1) M ss j).map Prod.fst = (split q M s.L).2 := by rw [hmap]
  have hmem : ∀ y ∈ leftL (fun x => q x.1) M ss j, y ∈ ss := fun y hy => (split_mem (fun x : Sl => q x.1) M ss y).2 (by rw [hsp]; exact hy)
  have hmem1 : ∀ y ∈ (split (fun x : Sl => q x.1) M (ss.drop j)).1, y ∈ ss := fun y hy => ((split_mem (fun x : Sl => q x.1) M ss y).1 (by rw [hsp]; exact hy)).1
  refine ⟨.slice a (leftL (fun x => q x.1) M ss j).length cap, leftL (fun x => q x.1) M ss j, (outL (fun x => q x.1) M ss j).reverse, ⟨h2.at', ?_, h2.row, e2, fun x hx => h2.seen x (hmem x hx), ?_⟩, own_same _ _ _ _ _, h2.out, ?_, ?_, h2.apart.mono fun k hk => hk.same _ _, h2.new⟩
  · show MapAt W' m (n + 64) (cnt (split q M s.L).2)
    rw [← e2]; exact h2.map.mono (by omega)
  · refine ⟨hP.ok.lo, hP.ok.hi, ?_, fun x hx => hP.ok.arg x ((split_mem q M s.L x).2 hx)⟩
    have := split_len q M s.L
    have := hP.ok.len
    show (split q M s.L).2.length ≤ s.most
    omega
  · intro y hy
    rw [outL, List.reverse_reverse] at hy
    obtain ⟨z, hz, rfl⟩ := List.mem_map.1 hy
    exact h2.seen z (hmem1 z hz)
  · rw [outL, List.reverse_reverse, List.map_map, hmap]
    simp only [List.map_map]
    rfl
end Go.Proofs.Yteehkekmaikeiaa
