/-
  The contracts of the document's Trim, over a list that is read.
-/
import Derived.Test.YtfifcfdlmpgohaaRowEnc
import Derived.Test.YtfifcfdlmpgohaaFtmM
import Derived.Test.YtfifcfdlmpgohaaNums
import Derived.Test.YtfifcfdlmpgohaaDraws
import Derived.Lib.SmallJoins
namespace Go.Proofs.Ytfifcfdlmpgohaa
open Go.ChangeShapes Go.WideShapes Go.ChangeAt Go.RowKit
set_option maxRecDepth 20000

theorem wrap_in {x : Int} (h0 : -9223372036854775808 ≤ x) (h1 : x ≤ 9223372036854775807) : IntKind.i64.wrap x = x := by
  rw [IntKind.wrap_i64]; omega
/-- A list of numbers that can be read. -/
def LsO (w : World) (a : Option Addr) (L : List Int) : Prop := ∀ (j : Nat) (x : Int), L[j]? = some x → ∃ b o, a = some ⟨b, o, none⟩ ∧ w.cell? ⟨b, o + j, none⟩ = some (.int .i64 x)
theorem LsO.nil (w : World) (a : Option Addr) : LsO w a [] := fun _ _ h => by simp at h
theorem LsO.below {w w' : World} {a : Option Addr} {L : List Int} (h : LsO w a L) (hb : Below w.heap.size w w') : LsO w' a L := fun j x hx => by
  obtain ⟨b, o, h1, h2⟩ := h j x hx
  exact ⟨b, o, h1, by rw [hb.cell (p := ⟨b, o + j, none⟩) (World.block_lt_of_cell? w _ h2), h2]⟩
theorem Nums.lsO {w : World} {a : Option Addr} {c : Nat} {L : List Int} (h : Nums .i64 w a c L) : LsO w a L := fun _ _ hx => h.get hx
theorem Row.lsO {w : World} {a : Option Addr} {k c : Nat} {L : List Int} (h : Row EL w (.slice a k c) L) : LsO w a L := fun j x hx => by
  obtain ⟨_, b, hb, hc⟩ := h.get hx
  refine ⟨b, 0, hb, ?_⟩
  have := hc 0 (.int .i64 x) rfl
  have e : j * EL.n + 0 = 0 + j := by show j * 1 + 0 = 0 + j; omega
  rw [e] at this; exact this
theorem LsO.drop {w : World} {b o : Nat} {L : List Int} (h : LsO w (some ⟨b, o, none⟩) L) (m : Nat) : LsO w (some ⟨b, o + m, none⟩) (L.drop m) := fun j x hx => by
  rw [List.getElem?_drop] at hx
  obtain ⟨b', o', e, h2⟩ := h _ x hx
  cases e
  exact ⟨b, o + m, rfl, by rw [Nat.add_assoc]; exact h2⟩
theorem LsO.take {w : World} {a : Option Addr} {L : List Int} (h : LsO w a L) (m : Nat) : LsO w a (L.take m) := fun j x hx => by
  rw [List.getElem?_take] at hx
  split at hx
  · exact h j x hx
  · cases hx
theorem Row.allocL {w : World} {v : Value} {xs : List Int} (h : Row EL w v xs) (o : Obj) : Row EL (w.alloc o) v xs := h.below (Go.Joins.below_alloc1 _ _)
theorem Row.fits {w : World} {a : Option Addr} {k c : Nat} {L : List Int} (h : Row EL w (.slice a k c) L) : L.length ≤ c := by
  rcases h with ⟨e, rfl⟩ | ⟨q, cap, cur, e, _, h3, _⟩
  · exact Nat.zero_le _
  · cases e; exact h3
/-- A slice of nothing, made of nothing. -/
theorem Row.empty (w : World) : Row EL (w.alloc (.cells #[] 2)) (.slice (some ⟨w.heap.size, 0, none⟩) 0 0) [] :=
  .inr ⟨w.heap.size, 0, #[], rfl, heap_alloc_new w _, Nat.le_refl _, Nat.zero_le _, Nat.zero_le _, rfl, fun u hu => by simp at hu⟩
/-- More behind all, out of any list that is read. -/
theorem row_tailL {w W : World} {a : Option Addr} {k c : Nat} {xs ts : List Int} (h : Row EL W (.slice a k c) xs) (hl : xs.length + ts.length ≤ 1000) (hb : Below w.heap.size w W) (ho : ∀ p, (Value.slice a k c).ownBlock = some p → w.heap.size ≤ p) (sa : Option Addr) (sc : Nat) (hs : LsO W sa ts) :
    ∃ a' c' W', (Builtin.append_ #[22, 22] 22 #[.slice a k c, .slice sa ts.length sc]).run Try.prog W = .ok (.slice a' (xs ++ ts).length c') W' ∧ Row EL W' (.slice a' (xs ++ ts).length c') (xs ++ ts) ∧ Below w.heap.size w W' ∧ (∀ p, (Value.slice a' (xs ++ ts).length c').ownBlock = some p → w.heap.size ≤ p) ∧ Apart (fun k' => (Value.slice a k c).ownBlock = some k') W W' := by
  obtain ⟨sl', W', hrun, hr, ha, h2⟩ := h.append ts hl sa sc (fun hne => by
    obtain ⟨y, hy⟩ : ∃ y, ts[0]? = some y := by
      cases ts with
      | nil => exact absurd rfl hne
      | cons y ys => exact ⟨y, rfl⟩
    obtain ⟨b, o, e, _⟩ := hs 0 y hy
    refine ⟨b, o, e, fun j u hu => ?_⟩
    have hcs : EL.cs ts = ts.map (fun x => Value.int .i64 x) := by
      rw [Enc.cs]; show ts.flatMap (fun x => [Value.int .i64 x]) = _
      rw [← List.map_eq_flatMap]
    rw [hcs, List.getElem?_map] at hu
    obtain ⟨x, hx, rfl⟩ := Option.map_eq_some_iff.1 hu
    obtain ⟨b', o', e', h3⟩ := hs j x hx
    rw [e] at e'; cases e'
    exact h3)
  obtain ⟨sa', sc', hsl, _⟩ := hr.shape
  subst hsl
  refine ⟨_, _, W', hrun, hr, ha.below hb ho hb.size, fun p hp => ?_, ha⟩
  rcases h2 p hp with h3 | h3
  · exact ho p h3
  · exact Nat.le_trans hb.size h3
/-- One more behind all. -/
theorem row_moreL {w W : World} {a : Option Addr} {k c : Nat} {xs : List Int} (h : Row EL W (.slice a k c) xs) (hl : xs.length ≤ 999) (hb : Below w.heap.size w W) (ho : ∀ p, (Value.slice a k c).ownBlock = some p → w.heap.size ≤ p) (x : Int) :
    ∃ a' c' W', (Builtin.append_ #[22, 22] 22 #[.slice a k c, .slice (some ⟨W.heap.size, 0, none⟩) 1 1]).run Try.prog (W.alloc (.cells #[.int .i64 x] 2)) = .ok (.slice a' (xs ++ [x]).length c') W' ∧ Row EL W' (.slice a' (xs ++ [x]).length c') (xs ++ [x]) ∧ Below w.heap.size w W' ∧ (∀ p, (Value.slice a' (xs ++ [x]).length c').ownBlock = some p → w.heap.size ≤ p) ∧ Apart (fun k' => (Value.slice a k c).ownBlock = some k') W W' := by
  have hb1 : Below w.heap.size w (W.alloc (.cells #[.int .i64 x] 2)) := hb.alloc hb.size _
  obtain ⟨a', c', W', h1, h2, h3, h4, h5⟩ := row_tailL (ts := [x]) (h.allocL (.cells #[.int .i64 x] 2)) (by simp; omega) hb1 ho (some ⟨W.heap.size, 0, none⟩) 1 (fun j y hy => by
    match j, hy with
    | 0, hy => simp at hy; subst hy; exact ⟨W.heap.size, 0, rfl, by rw [cell_of_row _ W.heap.size 0 #[.int .i64 x] 2 (0, 0) (heap_alloc_new W _)]; rfl⟩
    | j + 1, hy => simp at hy)
  exact ⟨a', c', W', h1, h2, h3, h4, (Apart.of_below (Go.Joins.below_alloc1 W (.cells #[.int .i64 x] 2))).trans h5 (fun i hi => .inl hi)⟩
theorem wpList_mk_run {P : Program} {ops : Array Oper} {rest : List Oper} {o : Oper} {a : Act} {w w' : World} {Q : Exit → Act → World → Prop} (hgd : o.guard = none) (t : TypeId) (len : Nat) (parts : Array (Nat × Operand)) (ho : o.op = .buildSlice t len parts)
    (vs : List (Nat × Value)) (r : Value) (hp : parts.toList.map (fun p => (p.1, a.eval p.2)) = vs) (hrun : (Instr.buildSlice t len vs.toArray).run P w = .ok r w') (h : wpList P ops Q rest (a.put o.dst r) w') : wpList P ops Q (o :: rest) a w := by
  have hq : parts.map (fun p => (p.1, a.eval p.2)) = vs.toArray := by rw [← hp, ← Array.toList_map, Array.toArray_toList]
  refine wpList_plain hgd fun K hK => ?_
  unfold Oper.wp execOp
  simp only [ho, hq, Sem.run_bind, hrun, Result.andThen_ok, Sem.run_pure]
  exact hK _ _ h
theorem wpList_slop_run {P : Program} {ops : Array Oper} {rest : List Oper} {o : Oper} {a : Act} {w w' : World} {Q : Exit → Act → World → Prop} (hgd : o.guard = none) (t : TypeId) (x : Operand) (lo hi mx : Option Operand) (ho : o.op = .slice t x lo hi mx)
    (v r : Value) (vl vh vm : Option Value) (hx : a.eval x = v) (h1 : lo.map a.eval = vl) (h2 : hi.map a.eval = vh) (h3 : mx.map a.eval = vm) (hrun : (Instr.sliceAt t v vl vh vm).run P w = .ok r w') (h : wpList P ops Q rest (a.put o.dst r) w') : wpList P ops Q (o :: rest) a w := by
  refine wpList_plain hgd fun K hK => ?_
  unfold Oper.wp execOp
  simp only [ho, hx, h1, h2, h3, Sem.run_bind, hrun, Result.andThen_ok, Sem.run_pure]
  exact hK _ _ h
theorem mk_empty (W : World) : (Instr.buildSlice 22 0 #[]).run Try.prog W = .ok (.slice (some ⟨W.heap.size, 0, none⟩) 0 0) (W.alloc (.cells #[] 2)) := by kernel_rfl
theorem slice_run (W : World) (q : Option Addr) (n k : Nat) (lo hi : Option Value) (a b : Nat) (hb : (Instr.sliceBounds true n k lo hi none).run Try.prog W = .ok (a, b, k) W) : (Instr.sliceAt 22 (.slice q n k) lo hi none).run Try.prog W = .ok (sliced q a b k 1) W := by
  rw [run_sliceAt_slice (P := Try.prog) W 22 _ lo hi none (by kernel_rfl), run_slice_any (P := Try.prog) W 22 q n k (by kernel_rfl) lo hi none, hb]
  rfl
/-- A middle of a list, cut out. -/
theorem Row.mid {W : World} {q : Option Addr} {k : Nat} {s : List Int} (h : Row EL W (.slice q s.length k) s) (l m : Nat) (h1 : l ≤ m) (h2 : m ≤ s.length) :
    ∃ L a c, L = (s.drop l).take (m - l) ∧ LsO W a L ∧ ∀ V, (Instr.sliceAt 22 (.slice q s.length k) (some (.int .i64 (l : Int))) (some (.int .i64 (m : Int))) none).run Try.prog V = .ok (.slice a L.length c) V := by
  have hk : s.length ≤ k := by
    rcases h with ⟨e, rfl⟩ | ⟨p, cap, cur, e, _, h3, _⟩
    · exact Nat.zero_le _
    · cases e; exact h3
  have hcut : ∃ a' c', sliced q l m k 1 = .slice a' (m - l) c' ∧ LsO W a' ((s.drop l).take (m - l)) := by
    have hls := h.lsO
    unfold sliced
    rcases h with ⟨e, rfl⟩ | ⟨p, cap, cur, e, _, h3, _⟩
    · cases e
      refine ⟨_, _, rfl, ?_⟩
      intro j x hx; simp at hx
    · cases e
      by_cases hkl : k = l
      · rw [if_pos hkl]
        refine ⟨_, _, rfl, ?_⟩
        have : m - l = 0 := by omega
        rw [this]; exact LsO.nil _ _
      · rw [if_neg hkl]
        refine ⟨_, _, rfl, ?_⟩
        have e : (⟨p, 0, none⟩ : Addr).add (l * 1) = ⟨p, 0 + l, none⟩ := by rw [Addr.add_lit, Nat.mul_one]
        rw [Option.map_some, e]
        exact (hls.drop l).take _
  obtain ⟨a', c', e, hl⟩ := hcut
  refine ⟨_, a', c', rfl, hl, fun V => ?_⟩
  rw [slice_run V q s.length k _ _ l m (by simp [Instr.sliceBounds, run_sliceBound, Result.andThen, show (m : Int) ≤ (k : Int) by omega, show (l : Int) ≤ (m : Int) by omega]), e, List.length_take, List.length_drop, Nat.min_eq_left (by omega)]
/-- The head and the tail of a list, cut out. -/
theorem Row.cut {W : World} {q : Option Addr} {k : Nat} {s : List Int} (h : Row EL W (.slice q s.length k) s) (M : Nat) (hM : M ≤ s.length) :
    (∃ L a c, L = s.take M ∧ LsO W a L ∧ ∀ V, (Instr.sliceAt 22 (.slice q s.length k) none (some (.int .i64 (M : Int))) none).run Try.prog V = .ok (.slice a L.length c) V) ∧
    ∃ L a c, L = s.drop M ∧ LsO W a L ∧ ∀ V, (Instr.sliceAt 22 (.slice q s.length k) (some (.int .i64 (M : Int))) none none).run Try.prog V = .ok (.slice a L.length c) V := by
  have hk : s.length ≤ k := by
    rcases h with ⟨e, rfl⟩ | ⟨p, cap, cur, e, _, h3, _⟩
    · exact Nat.zero_le _
    · cases e; exact h3
  have hls := h.lsO
  have hcut : ∀ (l m : Nat), l ≤ m → m ≤ s.length → ∃ a' c', sliced q l m k 1 = .slice a' (m - l) c' ∧ LsO W a' ((s.drop l).take (m - l)) := by
    intro l m h1 h2
    unfold sliced
    rcases h with ⟨e, rfl⟩ | ⟨p, cap, cur, e, _, h3, _⟩
    · cases e
      refine ⟨_, _, rfl, ?_⟩
      intro j x hx; simp at hx
    · cases e
      by_cases hkl : k = l
      · rw [if_pos hkl]
        refine ⟨_, _, rfl, ?_⟩
        have : m - l = 0 := by omega
        rw [this]; exact LsO.nil _ _
      · rw [if_neg hkl]
        refine ⟨_, _, rfl, ?_⟩
        have e : (⟨p, 0, none⟩ : Addr).add (l * 1) = ⟨p, 0 + l, none⟩ := by rw [Addr.add_lit, Nat.mul_one]
        rw [Option.map_some, e]
        exact (hls.drop l).take _
  constructor
  · obtain ⟨a', c', e, hl⟩ := hcut 0 M (Nat.zero_le _) hM
    refine ⟨_, a', c', rfl, by simpa using hl, fun V => ?_⟩
    rw [slice_run V q s.length k _ _ 0 M (by simp [Instr.sliceBounds, run_sliceBound, Result.andThen, show (M : Int) ≤ (k : Int) by omega]), e, List.length_take, Nat.min_eq_left hM]
    rfl
  · obtain ⟨a', c', e, hl⟩ := hcut M s.length hM (Nat.le_refl _)
    refine ⟨_, a', c', rfl, by rw [List.take_of_length_le (by simp)] at hl; exact hl, fun V => ?_⟩
    rw [slice_run V q s.length k _ _ M s.length (by simp [Instr.sliceBounds, run_sliceBound, Result.andThen, show (M : Int) ≤ (s.length : Int) by omega]), e, List.length_drop]
end Go.Proofs.Ytfifcfdlmpgohaa
