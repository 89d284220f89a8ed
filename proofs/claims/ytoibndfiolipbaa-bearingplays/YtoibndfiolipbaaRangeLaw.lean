/-
  A range over a function whose iterator promises something of the memory that it hands over (a slice of its own making ..). No program here.
-/
import Derived.RangeFuncNested
import Derived.RangeFuncBound
import Derived.RangeFuncCalls
import Derived.RangeFuncLeaves
import Derived.RangeFuncBox
import Derived.Test.YtoibndfiolipbaaBase
namespace Go.Proofs.Ytoibndfiolipbaa
open Go.RowKit

/-- The record of a loop, at or above block B, has turned; nothing else. -/
def Turned (B : Nat) (W W' : World) : Prop := ∃ l r r', B ≤ l ∧ W.heap[l]? = some (.loop r) ∧ W' = W.putObj l (.loop r')

theorem Turned.block {B : Nat} {W W' : World} (h : Turned B W W') {k : Nat} {o : Obj} (hk : W.heap[k]? = some o) (ho : o.isCells = true) : W'.heap[k]? = some o := by
  obtain ⟨l, r, r', _, hl, rfl⟩ := h
  rw [World.putObj_heap_other, hk]
  rintro rfl
  rw [hl] at hk
  cases hk
  cases ho
theorem Turned.size {B : Nat} {W W' : World} (h : Turned B W W') : W'.heap.size = W.heap.size := by
  obtain ⟨l, r, r', _, _, rfl⟩ := h; simp
theorem Turned.cell {B : Nat} {W W' : World} (h : Turned B W W') {a : Addr} {v : Value} (hv : W.cell? a = some v) : W'.cell? a = some v := by
  obtain ⟨o, ho, hc⟩ := cells_of_cell hv
  have := h.block ho hc
  unfold World.cell? at hv ⊢
  rw [ho] at hv
  rw [this]
  exact hv
theorem Turned.below {B n : Nat} {w W W' : World} (h : Turned B W W') (hb : Below n w W) (hn : n ≤ B) : Below n w W' := by
  obtain ⟨l, r, r', hl, hh, rfl⟩ := h
  exact ⟨hb.os, hb.tape, hb.output, by simpa using hb.size, fun k hk => by rw [World.putObj_heap_other (by omega)]; exact hb.block k hk⟩
theorem Turned.sees {B : Nat} {W W' : World} (h : Turned B W W') {a : Option Addr} {cap : Nat} {bs : List UInt8} (hs : Sees W a cap bs) : Sees W' a cap bs :=
  ⟨hs.fits, hs.room, hs.bare, fun hne => by
    obtain ⟨b, off, ha, hc⟩ := hs.at' hne
    exact ⟨b, off, ha, fun i x hx => h.cell (hc i x hx)⟩⟩
theorem Turned.owns {B base e s n : Nat} {W W' : World} {v : Value} {xs : List Value} (h : Turned B W W') (ho : W.ownsRow base e s v n xs) : W'.ownsRow base e s v n xs := by
  refine ⟨ho.1, ?_⟩
  rcases ho.2 with h0 | ⟨g, cap, cur, rfl, hlow, hg, h4⟩
  · exact .inl h0
  · exact .inr ⟨g, cap, cur, rfl, hlow, h.block hg rfl, h4⟩
theorem Turned.boxed {B b : Nat} {t : TypeId} {v : Value} {W W' : World} (h : Turned B W W') (hb : Boxed W b t v) : Boxed W' b t v := h.block hb rfl

/-- How a round's body may be left: the loop's own blocks (at or above B, no cells) lie as they lay. -/
def roundEnds {σ : Type} (B : Nat) (I : σ → World → Prop) (Ix : Code → σ → World → Prop) (s : σ) (W : World) : Exit → Act → World → Prop
  | .normal, _, W' => KeepsFrom B W W' ∧ I s W'
  | .ret, _, W' => KeepsFrom B W W' ∧ Ix .ret s W'
  | .exit id, _, W' => KeepsFrom B W W' ∧ Ix (.exit id) s W'
  | .goto t, _, W' => KeepsFrom B W W' ∧ Ix (.goto t) s W'
  | .panic _, _, _ => False
  | .outgrown, _, _ => False

theorem Below.keepsFrom {W W' : World} (h : Below W.heap.size W W') (B : Nat) : KeepsFrom B W W' :=
  ⟨h.size, fun k o _ hk _ => by rw [h.block k (Array.getElem?_eq_some_iff.1 hk).1]; exact hk⟩

/-- THE LAW. 'I s': between two rounds, s being over; 'Pr s x': what the iterator promises where it hands x over; 'nx s x': what is over then; 'Ix c s': a round has left by c. The iterator's walk carries 'Bk', which whatever keeps the blocks below the heap's size keeps, and meets yield by 'hY'. -/
theorem range_pre {σ α : Type} {n : Nat} {P : Program} {g : Operand} {ps : Array Tmp} {assign body : Code} {Q : Exit → Act → World → Prop} {a : Act} {w : World}
    (gf : Nat) (lb : Array Value) (hg : a.eval g = .func (.func gf) #[] lb) (eg : ∀ args w, (callFunc gf args).run P w = .ok (.enter gf args) w)
    (encs : α → Array Value) (hps : ∀ x, (encs x).size = ps.size)
    (I : σ → World → Prop) (Pr : σ → α → World → Prop) (nx : σ → α → σ) (Ix : Code → σ → World → Prop) (Done : σ → Prop)
    (fI : ∀ s W W', I s W → Turned w.heap.size W W' → I s W') (fP : ∀ s x W W', Pr s x W → Turned w.heap.size W W' → Pr s x W') (fX : ∀ c s W W', Ix c s W → Turned w.heap.size W W' → Ix c s W')
    (a₁ : α → Act)
    (hassign : ∀ (l : Nat) (x : α) (W : World) (K : Act → World → Prop), K (a₁ x) W →
      assign.wpIn (Fence.wide.inRound l) (n - 1 - 1) P (Exit.then K (fun _ _ _ => False)) { tmps := (ps.zip (encs x)).foldl (fun t (p, v) => t.setIfInBounds p v) a.tmps, defers := [] } W)
    (hbody : ∀ (l : Nat) (s : σ) (x : α) (W : World), Pr s x W → body.wpIn (Fence.wide.inRound l) (n - 1 - 1) P (roundEnds w.heap.size I Ix (nx s x) W) (a₁ x) W)
    (hiter : ∀ (l : Nat) (W1 : World), Below w.heap.size w W1 → W1.heap.size = w.heap.size + 2 → l < W1.heap.size →
      ∀ (Bk Bx : World → Prop), (∀ W W', Bk W → Below W.heap.size W W' → Bk W') →
        (∀ s x W, Bk W → Pr s x W → YieldAt Fence.wide (n - 1 - 1) P l (encs x) W fun e W' => (e = .returned (.bool true) ∧ Bk W' ∧ I (nx s x) W') ∨ (e = .returned (.bool false) ∧ Bx W')) → (∀ W W', Bx W → Below W.heap.size W W' → Bx W') → Bk W1 →
      CallsIn Fence.wide (n - 1) P gf (#[.func (.yield l) #[] #[]] ++ lb) W1 fun e W' => (∃ v, e = .returned v) ∧ ((∃ s, Done s ∧ Bk W' ∧ I s W') ∨ Bx W'))
    (hkeepX : ∀ c s W W', Ix c s W → Below W.heap.size W W' → Ix c s W')
    (hdone : ∀ (D : Nat) (s : σ) (W : World), w.heap.size ≤ D → Done s → I s W → W.heap[D]? = some (.deferred (some [])) → Q .normal { a with defers := { target := .collected D, args := #[] } :: a.defers } W)
    (hstop : ∀ (D : Nat) (c : Code) (s : σ) (W : World), w.heap.size ≤ D → Ix c s W → W.heap[D]? = some (.deferred (some [])) → c.wpIn Fence.wide n P Q { a with defers := { target := .collected D, args := #[] } :: a.defers } W) :
    (Code.rangeFunc g ps assign body).wpIn Fence.wide n P Q a w := by
  refine wpIn_rangeFunc fun fn hfn => ?_
  -- the record, and the world behind the two blocks
  obtain ⟨rec, hrec⟩ : ∃ rec : LoopState → Option Code → Loop, rec = fun st pe => { state := st, pending := pe, fn, tmps := a.tmps, params := ps, assign, body, defers := w.heap.size } := ⟨_, rfl⟩
  obtain ⟨W1, hW1⟩ : ∃ W1, W1 = (w.alloc (.deferred (some []))).alloc (.loop (rec .ready none)) := ⟨_, rfl⟩
  have hsz : W1.heap.size = w.heap.size + 2 := by rw [hW1]; simp
  have hB1 : Below w.heap.size w W1 := by rw [hW1]; exact ((Below.refl _ _).alloc (Nat.le_refl _) _).alloc (by simp) _
  have hrun := run_enterLoop_outer (P := P) (w := w) fn a.tmps ps assign body
  have hrec0 : rec .ready none = { state := .ready, pending := none, fn, tmps := a.tmps, params := ps, assign, body, defers := w.heap.size } := by rw [hrec]
  rw [← hrec0, ← hW1] at hrun
  have hL : W1.heap[w.heap.size + 1]? = some (.loop (rec .ready none)) := by
    have h1 := World.alloc_heap_new (w.alloc (.deferred (some []))) (.loop (rec .ready none))
    rw [World.size_alloc] at h1
    rw [hW1]; exact h1
  have hD : W1.heap[w.heap.size]? = some (.deferred (some [])) := by
    rw [hW1]; exact (Below.heap_alloc _ _ _ (by simp)).trans (World.alloc_heap_new w _)
  refine ⟨w.heap.size + 1, _, W1, { target := .fn (.func gf) lb, args := #[.func (.yield (w.heap.size + 1)) #[] #[]] }, W1, gf, #[.func (.yield (w.heap.size + 1)) #[] #[]] ++ lb, W1, hrun, ?_, fun _ _ => trivial, ?_, (fun h => by cases h), ?_⟩
  · simp only [resolve, hg]; simp [go_sem]
  · simp [invoke, go_sem, eg]
  -- what the iterator's walk carries
  have keepB : ∀ (st : LoopState) (pe : Option Code) (W W' : World), W.heap[w.heap.size + 1]? = some (.loop (rec st pe)) ∧ W.heap[w.heap.size]? = some (.deferred (some [])) → Below W.heap.size W W' →
      W'.heap[w.heap.size + 1]? = some (.loop (rec st pe)) ∧ W'.heap[w.heap.size]? = some (.deferred (some [])) := fun st pe W W' h hb =>
    ⟨by rw [hb.block _ (Array.getElem?_eq_some_iff.1 h.1).1]; exact h.1, by rw [hb.block _ (Array.getElem?_eq_some_iff.1 h.2).1]; exact h.2⟩
  have hcall := hiter (w.heap.size + 1) W1 hB1 hsz (by omega)
    (fun W => W.heap[w.heap.size + 1]? = some (.loop (rec .ready none)) ∧ W.heap[w.heap.size]? = some (.deferred (some [])))
    (fun W => ∃ c s, Ix c s W ∧ W.heap[w.heap.size + 1]? = some (.loop (rec .done (some c))) ∧ W.heap[w.heap.size]? = some (.deferred (some [])))
    (keepB .ready none) ?round (fun W W' ⟨c, s, hx, hbk⟩ hb => ⟨c, s, hkeepX c s W W' hx hb, keepB _ _ W W' hbk hb⟩) ⟨hL, hD⟩
  case round =>
    rintro s x W ⟨hl, hd⟩ hp
    have hlt : w.heap.size + 1 < W.heap.size := (Array.getElem?_eq_some_iff.1 hl).1
    have hy := run_yield (P := P) (args := encs x) hl (by rw [hrec]; exact hps x)
    rw [hrec] at hy
    refine ⟨fn, _, assign, body, hy, roundIn_of_wpIn hfn (hassign _ x W _ ⟨_, run_beginRound hl (by rw [hrec]), ?_⟩)⟩
    -- the round begins: the record is busy
    obtain ⟨W2, hW2⟩ : ∃ W2, W2 = W.putObj (w.heap.size + 1) (.loop { rec .ready none with state := .busy }) := ⟨_, rfl⟩
    rw [← hW2]
    have hl2 : W2.heap[w.heap.size + 1]? = some (.loop { rec .ready none with state := .busy }) := by rw [hW2]; exact World.putObj_heap_same hlt
    have hd2 : W2.heap[w.heap.size]? = some (.deferred (some [])) := by rw [hW2, World.putObj_heap_other (by omega)]; exact hd
    have ht : Turned w.heap.size W W2 := ⟨_, _, _, by omega, hl, hW2⟩
    refine wpIn_mono (hbody _ s x W2 (fP s x W W2 hp ht)) ?_
    -- the round ends, by whatever way
    have ends : ∀ (jump : Option Code) (W3 : World), KeepsFrom w.heap.size W2 W3 → ∃ W4, (Instr.endRound (w.heap.size + 1) jump).run P W3 = .ok (.bool jump.isNone) W4 ∧ Turned w.heap.size W3 W4 ∧
        W4.heap[w.heap.size + 1]? = some (.loop (rec (if jump.isNone then .ready else .done) jump)) ∧ W4.heap[w.heap.size]? = some (.deferred (some [])) := fun jump W3 hk => by
      have hl3 := hk.same _ _ (by omega) hl2 rfl
      have hd3 := hk.same _ _ (Nat.le_refl _) hd2 rfl
      have hrun := run_endRound (P := P) jump hl3
      refine ⟨_, hrun, ⟨_, _, _, by omega, hl3, rfl⟩, ?_, ?_⟩
      · rw [World.putObj_heap_same (Array.getElem?_eq_some_iff.1 hl3).1, hrec]
      · rw [World.putObj_heap_other (by omega)]; exact hd3
    intro e a3 W3 hp3
    cases e with
    | normal =>
      obtain ⟨hk, hi⟩ := hp3
      obtain ⟨W4, hr, ht4, hl4, hd4⟩ := ends none W3 hk
      exact ⟨_, W4, hr, .inl ⟨rfl, ⟨hl4, hd4⟩, fI _ _ _ hi ht4⟩⟩
    | ret =>
      obtain ⟨hk, hi⟩ := hp3
      obtain ⟨W4, hr, ht4, hl4, hd4⟩ := ends (some .ret) W3 hk
      exact ⟨_, W4, hr, .inr ⟨rfl, .ret, _, fX _ _ _ _ hi ht4, hl4, hd4⟩⟩
    | exit id =>
      obtain ⟨hk, hi⟩ := hp3
      obtain ⟨W4, hr, ht4, hl4, hd4⟩ := ends (some (.exit id)) W3 hk
      exact ⟨_, W4, hr, .inr ⟨rfl, .exit id, _, fX _ _ _ _ hi ht4, hl4, hd4⟩⟩
    | goto t =>
      obtain ⟨hk, hi⟩ := hp3
      obtain ⟨W4, hr, ht4, hl4, hd4⟩ := ends (some (.goto t)) W3 hk
      exact ⟨_, W4, hr, .inr ⟨rfl, .goto t, _, fX _ _ _ _ hi ht4, hl4, hd4⟩⟩
    | panic _ => exact hp3.elim
    | outgrown => exact hp3.elim
  -- behind the iterator
  refine hcall.mono ?_
  rintro e W2 ⟨⟨v, rfl⟩, ⟨s, hds, ⟨hl, hd⟩, hi⟩ | ⟨c, s, hx, hl, hd⟩⟩
  · have hr := run_endLoop (P := P) hl (by rw [hrec]; simp)
    refine ⟨_, _, hr, ?_⟩
    have hpe : (rec .ready none).pending = none := by rw [hrec]
    rw [hpe]
    exact hdone w.heap.size s _ (Nat.le_refl _) hds (fI _ _ _ hi ⟨_, _, _, by omega, hl, rfl⟩) (by rw [World.putObj_heap_other (by omega)]; exact hd)
  · have hr := run_endLoop (P := P) hl (by rw [hrec]; simp)
    refine ⟨_, _, hr, ?_⟩
    have hpe : (rec .done (some c)).pending = some c := by rw [hrec]
    rw [hpe]
    exact hstop w.heap.size c s _ (Nat.le_refl _) (fX _ _ _ _ hx ⟨_, _, _, by omega, hl, rfl⟩) (by rw [World.putObj_heap_other (by omega)]; exact hd)
end Go.Proofs.Ytoibndfiolipbaa
