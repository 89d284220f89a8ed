/-
  Objects in memory with the blocks that they lie in; two of them side by side. No program here.
-/
import Derived.Test.YtfifcfdlmpgohaaBase
import Derived.Deep.RegionHeld3
import Derived.Deep.AppendLies
import Derived.Deep.RegionLaw
import Derived.Maps.AppendAt
namespace Go.Proofs.Ytfifcfdlmpgohaa
open Go.ChangeShapes Go.WideShapes Go.ChangeAt Go.RowKit

/-- All but the blocks of F, and new ones, stay. -/
structure Apart (F : Nat → Prop) (w w' : World) : Prop where
  os : w'.os = w.os
  tape : w'.tape = w.tape
  output : w'.output = w.output
  size : w.heap.size ≤ w'.heap.size
  block : ∀ k, k < w.heap.size → ¬ F k → w'.heap[k]? = w.heap[k]?

theorem Apart.refl (F : Nat → Prop) (w : World) : Apart F w w := ⟨rfl, rfl, rfl, Nat.le_refl _, fun _ _ _ => rfl⟩
theorem Apart.of_below {F : Nat → Prop} {w w' : World} (h : Below w.heap.size w w') : Apart F w w' := ⟨h.os, h.tape, h.output, h.size, fun k hk _ => h.block k hk⟩
theorem Apart.mono {F G : Nat → Prop} {w w' : World} (h : Apart F w w') (hs : ∀ k, F k → G k) : Apart G w w' := ⟨h.os, h.tape, h.output, h.size, fun k hk hn => h.block k hk fun hf => hn (hs k hf)⟩
theorem Apart.trans {F G : Nat → Prop} {w w' w'' : World} (h : Apart F w w') (k : Apart G w' w'') (hs : ∀ i, G i → F i ∨ w.heap.size ≤ i) : Apart F w w'' :=
  ⟨k.os.trans h.os, k.tape.trans h.tape, k.output.trans h.output, Nat.le_trans h.size k.size, fun i hi hn => (k.block i (Nat.lt_of_lt_of_le hi h.size) fun hg => by
    rcases hs i hg with h1 | h1
    · exact hn h1
    · omega).trans (h.block i hi hn)⟩
theorem Apart.below {F : Nat → Prop} {w0 w w' : World} {B : Nat} (h : Apart F w w') (hb : Below B w0 w) (hF : ∀ k, F k → B ≤ k) (hB : B ≤ w.heap.size) : Below B w0 w' :=
  ⟨h.os.trans hb.os, h.tape.trans hb.tape, h.output.trans hb.output, Nat.le_trans hb.size h.size, fun k hk => (h.block k (by omega) (fun hf => by have := hF k hf; omega)).trans (hb.block k hk)⟩
theorem Apart.setCell {F : Nat → Prop} {w w' : World} (h : Apart F w w') {b : Nat} (hb : F b ∨ w.heap.size ≤ b) (i : Nat) (v : Value) : Apart F w (w'.setCell ⟨b, i, none⟩ v) :=
  ⟨h.os, h.tape, h.output, by simpa using h.size, fun k hk hn => by
    rw [heap_setCell_other _ _ _ _ (by rintro rfl; rcases hb with h1 | h1; exact hn h1; omega)]; exact h.block k hk hn⟩
theorem Apart.drew {F : Nat → Prop} {w w' : World} (h : Apart F w w') : Apart F w w'.drew := ⟨h.os, h.tape, h.output, h.size, h.block⟩
theorem Apart.grown {F : Nat → Prop} {w w' w'' : World} (h : Apart F w w') {row : Option Nat} (hg : w'.grownBy w'' row) (hr : ∀ k, row = some k → F k ∨ w.heap.size ≤ k) : Apart F w w'' :=
  ⟨hg.os.trans h.os, hg.tape.trans h.tape, hg.output.trans h.output, Nat.le_trans h.size hg.size, fun k hk hn => (hg.block k (Nat.lt_of_lt_of_le hk h.size) (fun e => by
    rcases hr k e.symm with h1 | h1
    · exact hn h1
    · omega)).trans (h.block k hk hn)⟩
theorem Apart.cell {F : Nat → Prop} {w w' : World} (h : Apart F w w') {a : Addr} {v : Value} (hv : w.cell? a = some v) (hn : ¬ F a.block) : w'.cell? a = some v := by
  rw [World.cell?_of_block (w := w) (h.block a.block (World.block_lt_of_cell? w a hv) hn)]; exact hv
theorem Apart.sees {F : Nat → Prop} {w w' : World} (h : Apart F w w') {a : Option Addr} {cap : Nat} {l : List UInt8} (hs : Sees w a cap l) (hn : ∀ b off, a = some ⟨b, off, none⟩ → l ≠ [] → ¬ F b) : Sees w' a cap l :=
  ⟨hs.fits, hs.room, hs.bare, fun hne => by
    obtain ⟨b, off, ha, hc⟩ := hs.at' hne
    exact ⟨b, off, ha, fun i x hx => h.cell (hc i x hx) (hn b off ha hne)⟩⟩

/-- What is said of an object: its state, and the blocks that it lies in; it stands where they stay. -/
structure Kept {σ : Type} (M : World → Nat → σ → (Nat → Prop) → Prop) : Prop where
  lt : ∀ {w b s F}, M w b s F → ∀ k, F k → k < w.heap.size
  keep : ∀ {w w' b s F}, M w b s F → (∀ k, F k → w'.heap[k]? = w.heap[k]?) → M w' b s F
/-- What an act on it leaves. -/
def Left {σ : Type} (M : World → Nat → σ → (Nat → Prop) → Prop) (w : World) (F : Nat → Prop) (b : Nat) (s : σ) (w' : World) : Prop := ∃ F', M w' b s F' ∧ Apart F w w' ∧ ∀ k, F' k → F k ∨ w.heap.size ≤ k

theorem Kept.below {σ : Type} {M : World → Nat → σ → (Nat → Prop) → Prop} (h : Kept M) {w w' : World} {b : Nat} {s : σ} {F : Nat → Prop} (hm : M w b s F) (hb : Below w.heap.size w w') : M w' b s F :=
  h.keep hm fun k hk => hb.block k (h.lt hm k hk)

/-- Two objects apart from each other, both at or above B. -/
def Both {σ τ : Type} (M : World → Nat → σ → (Nat → Prop) → Prop) (N : World → Nat → τ → (Nat → Prop) → Prop) (B : Nat) (w : World) (b : Nat) (s : σ) (g : Nat) (t : τ) : Prop :=
  ∃ F G, M w b s F ∧ N w g t G ∧ (∀ k, F k → ¬ G k) ∧ (∀ k, F k → B ≤ k) ∧ ∀ k, G k → B ≤ k

theorem Both.below {σ τ : Type} {M : World → Nat → σ → (Nat → Prop) → Prop} {N : World → Nat → τ → (Nat → Prop) → Prop} (hM : Kept M) (hN : Kept N) {B : Nat} {w w' : World} {b : Nat} {s : σ} {g : Nat} {t : τ}
    (h : Both M N B w b s g t) (hb : Below w.heap.size w w') : Both M N B w' b s g t := by
  obtain ⟨F, G, hm, hn, h1, h2, h3⟩ := h
  exact ⟨F, G, hM.below hm hb, hN.below hn hb, h1, h2, h3⟩
/-- An act on the first. -/
theorem Both.first {σ τ : Type} {M : World → Nat → σ → (Nat → Prop) → Prop} {N : World → Nat → τ → (Nat → Prop) → Prop} (hN : Kept N) {B : Nat} {w w' : World} {b : Nat} {s' : σ} {g : Nat} {t : τ} {F G : Nat → Prop}
    (hn : N w g t G) (h1 : ∀ k, F k → ¬ G k) (h2 : ∀ k, F k → B ≤ k) (h3 : ∀ k, G k → B ≤ k) (hB : B ≤ w.heap.size) (hl : Left M w F b s' w') : Both M N B w' b s' g t := by
  obtain ⟨F', hm', ha, hf⟩ := hl
  refine ⟨F', G, hm', hN.keep hn fun k hk => ha.block k (hN.lt hn k hk) fun hF => h1 k hF hk, fun k hk hg => ?_, fun k hk => ?_, h3⟩
  · rcases hf k hk with h | h
    · exact h1 k h hg
    · have := hN.lt hn k hg; omega
  · rcases hf k hk with h | h
    · exact h2 k h
    · omega
/-- An act on the second. -/
theorem Both.second {σ τ : Type} {M : World → Nat → σ → (Nat → Prop) → Prop} {N : World → Nat → τ → (Nat → Prop) → Prop} (hM : Kept M) {B : Nat} {w w' : World} {b : Nat} {s : σ} {g : Nat} {t' : τ} {F G : Nat → Prop}
    (hm : M w b s F) (h1 : ∀ k, F k → ¬ G k) (h2 : ∀ k, F k → B ≤ k) (h3 : ∀ k, G k → B ≤ k) (hB : B ≤ w.heap.size) (hl : Left N w G g t' w') : Both M N B w' b s g t' := by
  obtain ⟨G', hn', ha, hg⟩ := hl
  refine ⟨F, G', hM.keep hm fun k hk => ha.block k (hM.lt hm k hk) fun hG => h1 k hk hG, hn', fun k hk hgk => ?_, h2, fun k hk => ?_⟩
  · rcases hg k hgk with h | h
    · exact h1 k hk h
    · have := hM.lt hm k hk; omega
  · rcases hg k hk with h | h
    · exact h3 k h
    · omega
theorem Left.below {σ : Type} {M : World → Nat → σ → (Nat → Prop) → Prop} {w w0 w' : World} {F : Nat → Prop} {b : Nat} {s : σ} {B : Nat} (h : Left M w F b s w') (hb : Below B w0 w) (hF : ∀ k, F k → B ≤ k) (hB : B ≤ w.heap.size) : Below B w0 w' := by
  obtain ⟨_, _, ha, _⟩ := h; exact ha.below hb hF hB
/-- An append in a region that draws its order, its run known. -/
theorem step_append_run {P : Program} {w w' : World} {ops : Array Oper} {o : Oper} {a : Act} {K : Act → World → Prop} {Q : Exit → Act → World → Prop} {E : Prop} (hgd : o.guard = none) (s x : Operand) (t : TypeId)
    (ho : o.op = .call { callee := .builtin .append, args := #[s, x], argTypes := #[t, t] }) (v u r : Value) (hs : a.eval s = v) (hx : a.eval x = u)
    (hrun : (Builtin.append_ #[t, t] o.type #[v, u]).run P w = .ok r w') (h : K (a.put o.dst r) w') : if Region.wanted o (yielded ops a.tmps) = true then Oper.wp P o a w K Q else E := by
  have hw : Region.wanted o (yielded ops a.tmps) = true := by simp [Region.wanted, hgd]
  rw [if_pos hw]
  unfold Oper.wp execOp
  simp only [ho, resolve, invoke, builtin, Sem.run_bind, Sem.run_pure, Result.andThen_ok, List.map_toArray, List.map_cons, List.map_nil, hs, hx, hrun]
  exact h
end Go.Proofs.Ytfifcfdlmpgohaa
