/-
  What waits as it lies in memory; a map that counts cells; a buffer of the program.
-/
import Derived.Test.YteehkekmaikeiaaBufA
import Derived.Test.YteehkekmaikeiaaBufZ
import Derived.Maps.OwnSet
import Derived.WideKeyPair
import Derived.WideKeyEntry
import Derived.DeepKeys4
namespace Go.Proofs.Yteehkekmaikeiaa
open Go.ChangeShapes Go.WideShapes Go.ChangeAt Go.RowKit
open Go.ChangeMaps (setBlock)

abbrev Loc := Option Addr × Nat
/-- What waits, and where its bytes lie. -/
abbrev Sl := It × Loc
def slC (s : Sl) : List Value := [.int .i64 s.1.e, .int .i64 s.1.i, .slice s.2.1 s.1.b.length s.2.2]
theorem slC_one (x : Sl) : ∀ u ∈ slC x, u.oneCell' = true := by
  intro v hv
  simp only [slC, List.mem_cons, List.not_mem_nil, or_false] at hv
  rcases hv with rfl | rfl | rfl <;> rfl
theorem slC_nob (x : Sl) : ∀ u ∈ slC x, ∀ k y, u = Value.int k y → k = .i64 := by
  intro v hv k y
  simp only [slC, List.mem_cons, List.not_mem_nil, or_false] at hv
  rcases hv with rfl | rfl | rfl <;> intro e <;> cases e <;> rfl
def zSl : Value := .agg #[.int .i64 0, .int .i64 0, .slice none 0 0]
theorem zSl_nob : ∀ u ∈ zSl.cells.toList, ∀ k y, u = Value.int k y → k = .i64 := by
  intro v hv k y
  simp only [zSl, Value.cells, List.mem_cons, List.not_mem_nil, or_false] at hv
  rcases hv with rfl | rfl | rfl <;> intro e <;> cases e <;> rfl
/-- The program's list. -/
def E57 : Enc Sl := ⟨57, 46, 3, zSl, 40, slC, fun _ => rfl, slC_one, slC_nob, by kernel_rfl, by kernel_rfl, rfl, by decide, zSl_nob⟩
/-- The document's. -/
def E59 : Enc Sl := ⟨59, 40, 3, zSl, 40, slC, fun _ => rfl, slC_one, slC_nob, by kernel_rfl, by kernel_rfl, rfl, by decide, zSl_nob⟩
/-- Bytes, and where they lie. -/
abbrev Bl := List UInt8 × Loc
def blC (s : Bl) : List Value := [.slice s.2.1 s.1.length s.2.2]
theorem blC_one (x : Bl) : ∀ u ∈ blC x, u.oneCell' = true := by
  intro v hv
  simp only [blC, List.mem_cons, List.not_mem_nil, or_false] at hv
  subst hv; rfl
theorem blC_nob (x : Bl) : ∀ u ∈ blC x, ∀ k y, u = Value.int k y → k = .i64 := by
  intro v hv k y
  simp only [blC, List.mem_cons, List.not_mem_nil, or_false] at hv
  subst hv; intro e; cases e
theorem zBl_nob : ∀ u ∈ (Value.slice none 0 0).cells.toList, ∀ k y, u = Value.int k y → k = .i64 := by
  intro v hv k y
  simp only [Value.cells, List.mem_cons, List.not_mem_nil, or_false] at hv
  subst hv; intro e; cases e
def E22 : Enc Bl := ⟨22, 24, 1, .slice none 0 0, 24, blC, fun _ => rfl, blC_one, blC_nob, by kernel_rfl, by kernel_rfl, rfl, by decide, zBl_nob⟩

/-! ### A map that counts cells -/
def keyV (k : Key) : Value := .agg #[.int .i64 k.1, .int .i64 k.2]
def keyL (k : Key) : Lit := .string (keyBytes [.int .i64 k.1, .int .i64 k.2])
def wfK (k : Key) : Prop := (Lit.int .i64 k.1).wf = true ∧ (Lit.int .i64 k.2).wf = true
theorem laidOut : laidOutB Try.prog = true := by kernel_rfl
theorem row51 : (51 : TypeId) < Try.prog.types.size := of_decide_eq_true (by kernel_rfl)
theorem arr51 : WideMaps.ArrKey Try.prog 51 3 2 := ⟨Try.underlying51, by kernel_rfl, by kernel_rfl, by kernel_rfl⟩
theorem wide51 : (match Try.prog.underlying 51 with | some (.array _ _) | some (.struct _) => true | _ => false) = true := by rw [Try.underlying51]
theorem law51 : WideMaps.KeyLaw Try.prog 51 := deep_law_laid laidOut (m := 2) (by omega) row51 (by kernel_rfl) wide51
theorem keyed51 : Maps.Keyed Try.prog 51 := Maps.Keyed.of_law law51
theorem types_pos : ∃ m, Try.prog.types.size = m + 1 := Nat.exists_eq_add_one.2 (Nat.lt_of_le_of_lt (Nat.zero_le _) row51)
theorem key_pair {k : Key} (h : wfK k) : keyOf Try.prog 51 (keyV k) = some (keyL k) := WideMaps.keyOf_pair arr51 Try.underlying3 types_pos h.1 h.2
theorem keyL_ne {j k : Key} (hj : wfK j) (hk : wfK k) (h : j ≠ k) : keyL j ≠ keyL k := fun e => h (by
  have h1 := key_pair hj
  rw [e] at h1
  have h2 := law51.inj h1 (key_pair hk)
  simp only [keyV, Value.agg.injEq] at h2
  have h3 := congrArg Array.toList h2
  simp at h3
  exact Prod.ext h3.1 h3.2)
theorem zero3 (w : World) : (zeroValue 3).run Try.prog w = .ok (.int .i64 0) w := by kernel_rfl
theorem u47 : Try.prog.underlying 47 = some (.map 51 3) := by kernel_rfl
theorem inI_wf {x : Int} (h0 : -9223372036854775808 ≤ x) (h1 : x ≤ 9223372036854775807) : (Lit.int .i64 x).wf = true := WalkArith.wf_i64 (by omega)

/-- Block m is a map of at most n entries that counts f. -/
def MapAt (w : World) (m n : Nat) (f : Key → Nat) : Prop :=
  ∃ D : DataW Unit, w.ownsMap Try.prog 51 (plainElem Try.prog 3) m n D ∧ ∀ k : Key, wfK k → D.atKey (keyL k) (.lit (.int .i64 0)) = .lit (.int .i64 (f k : Int))
theorem MapAt.lt {w : World} {m n : Nat} {f : Key → Nat} (h : MapAt w m n f) : m < w.heap.size := by
  obtain ⟨D, h1, _⟩ := h; exact h1.lt
theorem MapAt.keep {w w' : World} {m n : Nat} {f : Key → Nat} (h : MapAt w m n f) (hb : w'.heap[m]? = w.heap[m]?) : MapAt w' m n f := by
  obtain ⟨D, ⟨es, clock, h1, h2⟩, h3⟩ := h
  exact ⟨D, ⟨es, clock, hb.trans h1, h2⟩, h3⟩
theorem MapAt.mono {w : World} {m n n' : Nat} {f : Key → Nat} (h : MapAt w m n f) (hn : n ≤ n') : MapAt w m n' f := by
  obtain ⟨D, h1, h2⟩ := h; exact ⟨D, h1.mono hn, h2⟩
theorem MapAt.congr {w : World} {m n : Nat} {f g : Key → Nat} (h : MapAt w m n f) (e : ∀ k, f k = g k) : MapAt w m n g := by
  have : f = g := funext e
  subst this; exact h
theorem MapAt.isMap {w : World} {m n : Nat} {f : Key → Nat} (h : MapAt w m n f) : ∃ es clock, w.heap[m]? = some (.map es clock) := by
  obtain ⟨D, ⟨es, clock, h1, _⟩, _⟩ := h; exact ⟨es, clock, h1⟩
theorem MapAt.plain {w : World} {m n : Nat} {f : Key → Nat} (h : MapAt w m n f) : Plain w m := by
  obtain ⟨es, clock, h1⟩ := h.isMap
  intro i x e
  simp [World.cell?, h1] at e
theorem MapAt.new (w : World) : MapAt (w.alloc (.map #[] 0)) w.heap.size 0 fun _ => 0 :=
  ⟨.map [], World.ownsMap_made w _ _ _, fun x _ => by simp [DataW.atKey]⟩
theorem MapAt.look {w : World} {m n : Nat} {f : Key → Nat} (h : MapAt w m n f) {k : Key} (hk : wfK k) :
    (Instr.lookup 47 (.map (some m)) (keyV k) false).run Try.prog w = .ok (.int .i64 (f k : Int)) w := by
  obtain ⟨D, h1, h2⟩ := h
  obtain ⟨c, hrun, hat, _⟩ := h1.lookup_int keyed51 u47 Try.underlying3 (zero3 w) (key_pair hk)
  rw [h2 k hk] at hat
  cases hat
  exact hrun
theorem MapAt.del {w : World} {m n : Nat} {f : Key → Nat} (h : MapAt w m n f) {k : Key} (hk : wfK k) (ty : TypeId) :
    ∃ w', (Builtin.delete_ #[47, 51] ty #[.map (some m), keyV k]).run Try.prog w = .ok (.tuple #[]) w' ∧ MapAt w' m n (fun j => if j = k then 0 else f j) ∧ Apart (fun j => j = m) w w' ∧ w'.heap.size = w.heap.size := by
  obtain ⟨D, h1, h2⟩ := h
  obtain ⟨w', hrun, hown, hturn⟩ := h1.drop keyed51 u47 (key_pair hk) ty
  refine ⟨w', hrun, ⟨_, hown, fun x hx => ?_⟩, (Apart.refl _ w).grown hturn.grown (fun k e => .inl (by cases e; rfl)), ?_⟩
  · dsimp only
    by_cases e : x = k
    · subst e; rw [if_pos rfl, Maps.atKey_del_same]; rfl
    · rw [if_neg e, Maps.atKey_del_other (keyL_ne hx hk e), h2 x hx]
  · obtain ⟨es, clock, es', clock', _, rfl⟩ := hturn
    simp [ChangeMaps.setBlock]
/-- The entry at a key is laid, then what is stored there. -/
theorem MapAt.entry {w : World} {m n : Nat} {f : Key → Nat} (h : MapAt w m n f) (hn : n < maxLen) {k : Key} (hk : wfK k) :
    ∃ v0 st w1, (Instr.mapEntry 47 (.map (some m)) (keyV k)).run Try.prog w = .ok (.tuple #[v0, .int .i64 st]) w1 ∧ MapAt w1 m (n + 1) f ∧ Apart (fun j => j = m) w w1 ∧ w1.heap.size = w.heap.size ∧
      ∀ (w2 : World) (c : Nat), (Lit.int .i64 (c : Int)).wf = true → w2.heap[m]? = w1.heap[m]? → ∃ w3, (Instr.entryStore 47 (.map (some m)) (.int .i64 st) (.int .i64 (c : Int))).run Try.prog w2 = .ok () w3 ∧
        MapAt w3 m (n + 1) (fun j => if j = k then c else f j) ∧ Apart (fun j => j = m) w2 w3 ∧ w3.heap.size = w2.heap.size := by
  obtain ⟨D, h1, h2⟩ := h
  have h1' := h1
  obtain ⟨es, clock, hb, F, hs, hD⟩ := h1
  obtain ⟨v0, st, es1, clock1, hE, _, hS⟩ := WideElems.entry_then_store law51 u47 zero3 hb F (key_pair hk)
  have hset : ∀ (W : World) (o : Obj), W.heap[m]?.isSome = true → (setBlock W m o).heap[m]? = some o := fun W o hW => by
    have : m < W.heap.size := by
      rcases Nat.lt_or_ge m W.heap.size with h | h
      · exact h
      · rw [Array.getElem?_eq_none h] at hW; cases hW
    simp [setBlock, this]
  have hap : ∀ (W : World) (o : Obj), Apart (fun j => j = m) W (setBlock W m o) ∧ (setBlock W m o).heap.size = W.heap.size := fun W o =>
    ⟨⟨rfl, rfl, rfl, by simp [setBlock], fun j _ hj => by simp [setBlock, Array.getElem?_setIfInBounds]; intro e; exact absurd e.symm hj⟩, by simp [setBlock]⟩
  -- what the entry leaves reads as it did
  have hM1 : MapAt (setBlock w m (.map es1 clock1)) m (n + 1) f := by
    have hcase : (es1 = es ∧ clock1 = clock) ∨ (f k = 0 ∧ (Instr.mapUpdate 47 (.map (some m)) (keyV k) (.int .i64 0)).run Try.prog w = .ok () (setBlock w m (.map es1 clock1))) := by
      have hlk := MapAt.look (w := w) (m := m) (n := n) (f := f) ⟨D, h1', h2⟩ hk
      rcases law51.find w (key_pair hk) es.toList F.keys with ⟨f1, f2⟩ | ⟨j, e0, f1, f2, f3⟩
      · right
        have hE2 : (Instr.mapEntry 47 (.map (some m)) (keyV k)).run Try.prog w = .ok (.tuple #[.int .i64 0, goInt clock]) (setBlock w m (.map (es.push ⟨keyV k, .int .i64 0, clock⟩) (clock + 1))) := by
          simp [Instr.mapEntry, run_underlying u47, MapKept.run_getObj_map hb, law51.check w false (key_pair hk), f1, MapKept.run_setObj_map _ hb, Result.andThen, setBlock]
        have hU : (Instr.mapUpdate 47 (.map (some m)) (keyV k) (.int .i64 0)).run Try.prog w = .ok () (setBlock w m (.map (es.push ⟨keyV k, .int .i64 0, clock⟩) (clock + 1))) := by
          simp [Instr.mapUpdate, run_underlying u47, MapKept.run_getObj_map hb, law51.check w false (key_pair hk), f1, MapKept.run_setObj_map _ hb, Result.andThen, setBlock]
        have hL : (Instr.lookup 47 (.map (some m)) (keyV k) false).run Try.prog w = .ok (.int .i64 0) w := by
          simp [Instr.lookup, run_underlying u47, MapKept.run_getObj_map hb, law51.check w _ (key_pair hk), f1, Result.andThen]
        rw [hlk] at hL
        rw [hE] at hE2
        injection hE2 with _ hw
        rw [hw]
        refine ⟨?_, hU⟩
        injection hL with hv _
        injection hv with _ hz
        omega
      · left
        have hj : es[j]? = some e0 := by simpa using f2
        have hsame : es.modify j (fun e => { e with key := keyV k }) = es := by
          apply Array.ext'
          rw [Array.toList_modify, ChangeMaps.modify_eq_set _ _ _ _ f2]
          have : ({ e0 with key := keyV k } : MapEntry) = e0 := by rw [← f3]
          rw [this]
          exact WideElems.set_self _ _ _ f2
        have hE2 : (Instr.mapEntry 47 (.map (some m)) (keyV k)).run Try.prog w = .ok (.tuple #[e0.val, goInt e0.born]) (setBlock w m (.map es clock)) := by
          simp [Instr.mapEntry, run_underlying u47, MapKept.run_getObj_map hb, law51.check w false (key_pair hk), f1, hj, f3, law51.stays w (key_pair hk), hsame, MapKept.run_setObj_map _ hb, Result.andThen, setBlock]
        rw [hE] at hE2
        injection hE2 with _ hw
        have h3 := hset w (.map es1 clock1) (by rw [hb]; rfl)
        rw [hw, hset w (.map es clock) (by rw [hb]; rfl)] at h3
        injection h3 with h4
        injection h4 with h5 h6
        exact ⟨h5.symm, h6.symm⟩
    rcases hcase with ⟨rfl, rfl⟩ | ⟨hf, hU⟩
    · exact MapAt.keep (MapAt.mono ⟨D, h1', h2⟩ (Nat.le_succ n)) ((hset w _ (by rw [hb]; rfl)).trans hb.symm)
    · obtain ⟨w', hrun, hown, _⟩ := h1'.store keyed51 u47 hn (key_pair hk) (plainElem_int (H := Unit) Try.underlying3 (a := 0) (by decide))
      rw [hU] at hrun
      injection hrun with _ hw
      refine ⟨_, hw ▸ hown, fun y hy => ?_⟩
      by_cases e : y = k
      · subst e; rw [Maps.atKey_put_same h1'.isMap (keyed51.key (key_pair hk)), hf]; rfl
      · rw [Maps.atKey_put_other (keyL_ne hy hk e), h2 y hy]
  refine ⟨v0, st, _, hE, hM1, (hap w _).1, (hap w _).2, fun w2 c hc hw2 => ?_⟩
  obtain ⟨es', clock', hrun2, hupd⟩ := hS w2 (.int .i64 (c : Int)) (hw2.trans (hset w _ (by rw [hb]; rfl)))
  obtain ⟨w', hrun, hown, _⟩ := h1'.store keyed51 u47 hn (key_pair hk) (plainElem_int (H := Unit) Try.underlying3 hc)
  rw [hupd] at hrun
  injection hrun with _ hw
  refine ⟨_, hrun2, ?_, (hap w2 _).1, (hap w2 _).2⟩
  have hM : MapAt (setBlock w m (.map es' clock')) m (n + 1) (fun j => if j = k then c else f j) := by
    refine ⟨_, hw ▸ hown, fun y hy => ?_⟩
    dsimp only
    by_cases e : y = k
    · subst e; rw [if_pos rfl, Maps.atKey_put_same h1'.isMap (keyed51.key (key_pair hk))]
    · rw [if_neg e, Maps.atKey_put_other (keyL_ne hy hk e), h2 y hy]
  exact hM.keep ((hset w2 _ (by rw [hw2, hset w _ (by rw [hb]; rfl)]; rfl)).trans (hset w _ (by rw [hb]; rfl)).symm)
end Go.Proofs.Yteehkekmaikeiaa
