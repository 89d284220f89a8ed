/-
  A region that draws its order, inside a round of a range over a function, and inside the iterator itself: as it is walked outside.
  The law of a range over a function whose rounds begin by making memory. No program here.
-/
import Derived.OrdersHeld
import Derived.OrdersIn
import Derived.TacticsIn
import Derived.RangeFuncCalls
import Derived.Test.YtoibndfiolipbaaDraws
import Derived.Test.YtoibndfiolipbaaRangeLaw
namespace Go.Proofs.Ytoibndfiolipbaa
open Go

theorem rows_wide {n : Nat} {P : Program} {row : String} {args : Array Value} {w : World} {R : Value → World → Prop} (l : Nat) (h : Rows P row args w R) : RowsIn (Fence.wide.inRound l) n P row args w R :=
  fun c cs _ => let ⟨v, w', r, s⟩ := h c cs; ⟨v, w', r, stepsIn_wide.2 s⟩

/-- An operation that is no defer statement goes in a round as it goes outside. -/
theorem oper_round {l n : Nat} {P : Program} {o : Oper} {a : Act} {w : World} {K : Act → World → Prop} {Q : Exit → Act → World → Prop} (hd : ∀ c, o.op ≠ .defer c) (h : o.wp P a w K Q) : o.wpIn (Fence.wide.inRound l) n P a w K Q := by
  unfold Oper.wp at h
  unfold Oper.wpIn
  refine ⟨fun _ _ => trivial, ?_⟩
  rw [Oper.semAt_eq _ _ _ hd]
  generalize (execOp a.eval o).run P w = r at *
  cases r with
  | ok x w' =>
    cases x <;> simp only [Oper.upon, Oper.uponIn] at h ⊢
    case value => exact h
    case skip => exact h
    case defer => exact h
    case enter => exact ⟨(fun h => by cases h), (callsIn_wide.2 h).inRound l⟩
    case row => exact ⟨(fun h => by cases h), rows_wide l h⟩
  | halt x w' =>
    cases x <;> simp only [Oper.upon, Oper.uponIn] at h ⊢
    case panic => exact h

theorem op_round {l n : Nat} {P : Program} {ops : Array Oper} {Q : Exit → Act → World → Prop} (hL : ¬ LetsOut Q) (hd : ∀ (i : Nat) (o : Oper), ops[i]? = some o → ∀ c, o.op ≠ .defer c) {i : Nat} {K : Act → World → Prop} {a : Act} {w : World} (h : wpOp P ops Q i K a w) : wpOpIn (Fence.wide.inRound l) n P ops Q i K a w := by
  unfold wpOp at h
  unfold wpOpIn
  cases ho : ops[i]? with
  | none => simp only [ho] at h; exact h
  | some o =>
    simp only [ho] at h ⊢
    split
    · rename_i hw
      simp only [hw, if_true] at h
      exact oper_round (hd i o ho) (h.resolve_right fun q => hL q.2)
    · rename_i hw
      simp only [hw] at h
      exact ⟨fun _ _ => trivial, h⟩

theorem any_round {l n : Nat} {P : Program} {md : Region.Mode} {ops : Array Oper} {Q : Exit → Act → World → Prop} (hL : ¬ LetsOut Q) (hd : ∀ (i : Nat) (o : Oper), ops[i]? = some o → ∀ c, o.op ≠ .defer c) : ∀ (fuel : Nat) (listed : Array Bool) (a : Act) (w : World), wpAny P md ops Q fuel listed a w → wpAnyIn (Fence.wide.inRound l) n P md ops Q fuel listed a w
  | 0, _, _, _, h => h
  | fuel + 1, _, _, _, h => ⟨h.1, fun i hi => wpOpIn_mono (fun a' w' h' => any_round hL hd fuel _ a' w' h') (op_round hL hd (h.2 i hi))⟩

def noDefer (o : Oper) : Bool := match o.op with
  | .defer _ => false
  | _ => true
theorem no_defers {ops : Array Oper} (h : ops.all noDefer = true) : ∀ (i : Nat) (o : Oper), ops[i]? = some o → ∀ c, o.op ≠ .defer c := by
  intro i o ho c hc
  have h1 := Array.all_eq_true'.1 h o (Array.mem_of_getElem? ho)
  unfold noDefer at h1
  rw [hc] at h1
  cases h1

/-- The beginning: from here on by any_take, any_one, as outside. -/
theorem region_round {l n id : Nat} {P : Program} {ops : Array Oper} {Q : Exit → Act → World → Prop} {S : World → Prop} {a : Act} {w : World} (hL : ¬ LetsOut Q) (hm : P.follows .mixedOrders = true) (hd : ops.all noDefer = true)
    (h : wpAnyH P .any ops Q S ops.size (Array.replicate ops.size false) a w.drew) : (Code.region id ops true).wpIn (Fence.wide.inRound l) n P Q a w :=
  wpIn_region_any hm (any_round hL (no_defers hd) _ _ _ _ (wpAny_of_held _ _ _ _ h))
theorem rows_plain {n : Nat} {P : Program} {row : String} {args : Array Value} {w : World} {R : Value → World → Prop} (h : Rows P row args w R) : RowsIn Fence.wide n P row args w R :=
  fun c cs _ => let ⟨v, w', r, s⟩ := h c cs; ⟨v, w', r, stepsIn_wide.2 s⟩

/-- An operation that is no defer statement goes in a round as it goes outside. -/
theorem oper_wide {n : Nat} {P : Program} {o : Oper} {a : Act} {w : World} {K : Act → World → Prop} {Q : Exit → Act → World → Prop} (hd : ∀ c, o.op ≠ .defer c) (h : o.wp P a w K Q) : o.wpIn Fence.wide n P a w K Q := by
  unfold Oper.wp at h
  unfold Oper.wpIn
  refine ⟨fun _ _ => trivial, ?_⟩
  rw [Oper.semAt_eq _ _ _ hd]
  generalize (execOp a.eval o).run P w = r at *
  cases r with
  | ok x w' =>
    cases x <;> simp only [Oper.upon, Oper.uponIn] at h ⊢
    case value => exact h
    case skip => exact h
    case defer => exact h
    case enter => exact ⟨(fun h => by cases h), callsIn_wide.2 h⟩
    case row => exact ⟨(fun h => by cases h), rows_plain h⟩
  | halt x w' =>
    cases x <;> simp only [Oper.upon, Oper.uponIn] at h ⊢
    case panic => exact h

theorem op_wide {n : Nat} {P : Program} {ops : Array Oper} {Q : Exit → Act → World → Prop} (hL : ¬ LetsOut Q) (hd : ∀ (i : Nat) (o : Oper), ops[i]? = some o → ∀ c, o.op ≠ .defer c) {i : Nat} {K : Act → World → Prop} {a : Act} {w : World} (h : wpOp P ops Q i K a w) : wpOpIn Fence.wide n P ops Q i K a w := by
  unfold wpOp at h
  unfold wpOpIn
  cases ho : ops[i]? with
  | none => simp only [ho] at h; exact h
  | some o =>
    simp only [ho] at h ⊢
    split
    · rename_i hw
      simp only [hw, if_true] at h
      exact oper_wide (hd i o ho) (h.resolve_right fun q => hL q.2)
    · rename_i hw
      simp only [hw] at h
      exact ⟨fun _ _ => trivial, h⟩

theorem any_wide {n : Nat} {P : Program} {md : Region.Mode} {ops : Array Oper} {Q : Exit → Act → World → Prop} (hL : ¬ LetsOut Q) (hd : ∀ (i : Nat) (o : Oper), ops[i]? = some o → ∀ c, o.op ≠ .defer c) : ∀ (fuel : Nat) (listed : Array Bool) (a : Act) (w : World), wpAny P md ops Q fuel listed a w → wpAnyIn Fence.wide n P md ops Q fuel listed a w
  | 0, _, _, _, h => h
  | fuel + 1, _, _, _, h => ⟨h.1, fun i hi => wpOpIn_mono (fun a' w' h' => any_wide hL hd fuel _ a' w' h') (op_wide hL hd (h.2 i hi))⟩

/-- The beginning: from here on by any_take, any_one, as outside. -/
theorem region_wide {n id : Nat} {P : Program} {ops : Array Oper} {Q : Exit → Act → World → Prop} {S : World → Prop} {a : Act} {w : World} (hL : ¬ LetsOut Q) (hm : P.follows .mixedOrders = true) (hd : ops.all noDefer = true)
    (h : wpAnyH P .any ops Q S ops.size (Array.replicate ops.size false) a w.drew) : (Code.region id ops true).wpIn Fence.wide n P Q a w :=
  wpIn_region_any hm (any_wide hL (no_defers hd) _ _ _ _ (wpAny_of_held _ _ _ _ h))
/-- Q, but 'False' at a panic and where the memory is too small. -/
def NoOut (Q : Exit → Act → World → Prop) : Exit → Act → World → Prop
  | .panic _, _, _ => False
  | .outgrown, _, _ => False
  | e, a, w => Q e a w
theorem NoOut.normal {Q : Exit → Act → World → Prop} {a : Act} {w : World} (h : Q .normal a w) : NoOut Q .normal a w := h
theorem NoOut.imp {Q : Exit → Act → World → Prop} : ∀ (e : Exit) (a : Act) (w : World), NoOut Q e a w → Q e a w := fun e a w h => by
  cases e <;> first | exact h | exact (h : False).elim
/-- .. where nothing panics. -/
theorem region_wideN {n id : Nat} {P : Program} {ops : Array Oper} {Q : Exit → Act → World → Prop} {S : World → Prop} {a : Act} {w : World} (hm : P.follows .mixedOrders = true) (hd : ops.all noDefer = true)
    (h : wpAnyH P .any ops (NoOut Q) S ops.size (Array.replicate ops.size false) a w.drew) : (Code.region id ops true).wpIn Fence.wide n P Q a w :=
  wpIn_mono (region_wide (fun ⟨_, _, h⟩ => h) hm hd h) NoOut.imp
theorem region_roundN {l n id : Nat} {P : Program} {ops : Array Oper} {Q : Exit → Act → World → Prop} {S : World → Prop} {a : Act} {w : World} (hm : P.follows .mixedOrders = true) (hd : ops.all noDefer = true)
    (h : wpAnyH P .any ops (NoOut Q) S ops.size (Array.replicate ops.size false) a w.drew) : (Code.region id ops true).wpIn (Fence.wide.inRound l) n P Q a w :=
  wpIn_mono (region_round (fun ⟨_, _, h⟩ => h) hm hd h) NoOut.imp
end Go.Proofs.Ytoibndfiolipbaa

namespace Go.Proofs.Ytoibndfiolipbaa
open Go.RowKit

/-- As range_pre; the iterator's walk keeps 'Bk' over whatever keeps the loop's own blocks. -/
theorem range_own {σ α : Type} {n : Nat} {P : Program} {g : Operand} {ps : Array Tmp} {assign body : Code} {Q : Exit → Act → World → Prop} {a : Act} {w : World}
    (gf : Nat) (lb : Array Value) (hg : a.eval g = .func (.func gf) #[] lb) (eg : ∀ args w, (callFunc gf args).run P w = .ok (.enter gf args) w)
    (encs : α → Array Value) (hps : ∀ x, (encs x).size = ps.size)
    (I : σ → World → Prop) (Pr : σ → α → World → Prop) (nx : σ → α → σ) (Ix : Code → σ → World → Prop) (Done : σ → Prop)
    (fI : ∀ s W W', I s W → Turned w.heap.size W W' → I s W') (fX : ∀ c s W W', Ix c s W → Turned w.heap.size W W' → Ix c s W')
    (a₁ : α → Nat → Act) (Pa : σ → α → Nat → World → Prop) (fA : ∀ s x N W W', Pa s x N W → Turned w.heap.size W W' → Pa s x N W')
    (hassign : ∀ (l : Nat) (s : σ) (x : α) (W : World) (K : Act → World → Prop), Pr s x W → (∀ N W', KeepsFrom w.heap.size W W' → Pa s x N W' → K (a₁ x N) W') →
      assign.wpIn (Fence.wide.inRound l) (n - 1 - 1) P (Exit.then K (fun _ _ _ => False)) { tmps := (ps.zip (encs x)).foldl (fun t (p, v) => t.setIfInBounds p v) a.tmps, defers := [] } W)
    (hbody : ∀ (l : Nat) (s : σ) (x : α) (N : Nat) (W : World), Pa s x N W → body.wpIn (Fence.wide.inRound l) (n - 1 - 1) P (roundEnds w.heap.size I Ix (nx s x) W) (a₁ x N) W)
    (hiter : ∀ (l : Nat) (W1 : World), Below w.heap.size w W1 → W1.heap.size = w.heap.size + 2 → l < W1.heap.size →
      ∀ (Bk Bx : World → Prop), (∀ W W', Bk W → KeepsFrom w.heap.size W W' → Bk W') →
        (∀ s x W, Bk W → Pr s x W → YieldAt Fence.wide (n - 1 - 1) P l (encs x) W fun e W' => (e = .returned (.bool true) ∧ Bk W' ∧ I (nx s x) W') ∨ (e = .returned (.bool false) ∧ Bx W')) → (∀ W W', Bx W → Below W.heap.size W W' → Bx W') → Bk W1 →
      CallsIn Fence.wide (n - 1) P gf (#[.func (.yield l) #[] #[]] ++ lb) W1 fun e W' => (∃ v, e = .returned v) ∧ ((∃ s, Done s ∧ Bk W' ∧ I s W') ∨ Bx W'))
    (hkeepX : ∀ c s W W', Ix c s W → Below W.heap.size W W' → Ix c s W')
    (hdone : ∀ (D : Nat) (s : σ) (W : World), w.heap.size ≤ D → Done s → I s W → W.heap[D]? = some (.deferred (some [])) → Q .normal { a with defers := { target := .collected D, args := #[] } :: a.defers } W)
    (hstop : ∀ (D : Nat) (c : Code) (s : σ) (W : World), w.heap.size ≤ D → Ix c s W → W.heap[D]? = some (.deferred (some [])) → c.wpIn Fence.wide n P Q { a with defers := { target := .collected D, args := #[] } :: a.defers } W) :
    (Code.rangeFunc g ps assign body).wpIn Fence.wide n P Q a w := by
  refine wpIn_rangeFunc fun fn hfn => ?_
  -- the record, and the world behind the two blocks
  obtain ⟨rec, hrec⟩ : ∃ rec : LoopState → Option Code → Loop, rec = fun st pe => { state := st, pending := pe, fn, tmps := a.tmps, params := ps, assign, body, defers := w.heap.size } := ⟨_, rfl⟩
  obtain ⟨W1, hW1⟩ : ∃ W1, W1 = (w.alloc (.deferred (some []))).alloc (.loop (rec .ready none)) := ⟨_, rfl⟩
  have hsz : W1.heap.size = w.heap.size + 2 := by rw [hW1]; simp
  have hB1 : Below w.heap.size w W1 := by rw [hW1]; exact ((Below.refl _ _).alloc (Nat.le_refl _) _).alloc (by simp) _
  have hrun := run_enterLoop_outer (P := P) (w := w) fn a.tmps ps assign body
  have hrec0 : rec .ready none = { state := .ready, pending := none, fn, tmps := a.tmps, params := ps, assign, body, defers := w.heap.size } := by rw [hrec]
  rw [← hrec0, ← hW1] at hrun
  have hL : W1.heap[w.heap.size + 1]? = some (.loop (rec .ready none)) := by
    have h1 := World.alloc_heap_new (w.alloc (.deferred (some []))) (.loop (rec .ready none))
    rw [World.size_alloc] at h1
    rw [hW1]; exact h1
  have hD : W1.heap[w.heap.size]? = some (.deferred (some [])) := by
    rw [hW1]; exact (Below.heap_alloc _ _ _ (by simp)).trans (World.alloc_heap_new w _)
  refine ⟨w.heap.size + 1, _, W1, { target := .fn (.func gf) lb, args := #[.func (.yield (w.heap.size + 1)) #[] #[]] }, W1, gf, #[.func (.yield (w.heap.size + 1)) #[] #[]] ++ lb, W1, hrun, ?_, fun _ _ => trivial, ?_, (fun h => by cases h), ?_⟩
  · simp only [resolve, hg]; simp [go_sem]
  · simp [invoke, go_sem, eg]
  -- what the iterator's walk carries
  have keepB : ∀ (st : LoopState) (pe : Option Code) (W W' : World), W.heap[w.heap.size + 1]? = some (.loop (rec st pe)) ∧ W.heap[w.heap.size]? = some (.deferred (some [])) → KeepsFrom w.heap.size W W' →
      W'.heap[w.heap.size + 1]? = some (.loop (rec st pe)) ∧ W'.heap[w.heap.size]? = some (.deferred (some [])) := fun st pe W W' h hb =>
    ⟨hb.same _ _ (by omega) h.1 rfl, hb.same _ _ (Nat.le_refl _) h.2 rfl⟩
  have hcall := hiter (w.heap.size + 1) W1 hB1 hsz (by omega)
    (fun W => W.heap[w.heap.size + 1]? = some (.loop (rec .ready none)) ∧ W.heap[w.heap.size]? = some (.deferred (some [])))
    (fun W => ∃ c s, Ix c s W ∧ W.heap[w.heap.size + 1]? = some (.loop (rec .done (some c))) ∧ W.heap[w.heap.size]? = some (.deferred (some [])))
    (keepB .ready none) ?round (fun W W' ⟨c, s, hx, hbk⟩ hb => ⟨c, s, hkeepX c s W W' hx hb, keepB _ _ W W' hbk (Below.keepsFrom hb _)⟩) ⟨hL, hD⟩
  case round =>
    rintro s x W0 ⟨hl0, hd0⟩ hp
    have hy := run_yield (P := P) (args := encs x) hl0 (by rw [hrec]; exact hps x)
    rw [hrec] at hy
    refine ⟨fn, _, assign, body, hy, roundIn_of_wpIn hfn (hassign _ s x W0 _ hp fun N W hkf hpa => ?_)⟩
    have hl := hkf.same _ _ (by omega) hl0 rfl
    have hd := hkf.same _ _ (Nat.le_refl _) hd0 rfl
    have hlt : w.heap.size + 1 < W.heap.size := (Array.getElem?_eq_some_iff.1 hl).1
    refine ⟨_, run_beginRound hl (by rw [hrec]), ?_⟩
    -- the round begins: the record is busy
    obtain ⟨W2, hW2⟩ : ∃ W2, W2 = W.putObj (w.heap.size + 1) (.loop { rec .ready none with state := .busy }) := ⟨_, rfl⟩
    rw [← hW2]
    have hl2 : W2.heap[w.heap.size + 1]? = some (.loop { rec .ready none with state := .busy }) := by rw [hW2]; exact World.putObj_heap_same hlt
    have hd2 : W2.heap[w.heap.size]? = some (.deferred (some [])) := by rw [hW2, World.putObj_heap_other (by omega)]; exact hd
    have ht : Turned w.heap.size W W2 := ⟨_, _, _, by omega, hl, hW2⟩
    refine wpIn_mono (hbody _ s x N W2 (fA s x N W W2 hpa ht)) ?_
    -- the round ends, by whatever way
    have ends : ∀ (jump : Option Code) (W3 : World), KeepsFrom w.heap.size W2 W3 → ∃ W4, (Instr.endRound (w.heap.size + 1) jump).run P W3 = .ok (.bool jump.isNone) W4 ∧ Turned w.heap.size W3 W4 ∧
        W4.heap[w.heap.size + 1]? = some (.loop (rec (if jump.isNone then .ready else .done) jump)) ∧ W4.heap[w.heap.size]? = some (.deferred (some [])) := fun jump W3 hk => by
      have hl3 := hk.same _ _ (by omega) hl2 rfl
      have hd3 := hk.same _ _ (Nat.le_refl _) hd2 rfl
      have hrun := run_endRound (P := P) jump hl3
      refine ⟨_, hrun, ⟨_, _, _, by omega, hl3, rfl⟩, ?_, ?_⟩
      · rw [World.putObj_heap_same (Array.getElem?_eq_some_iff.1 hl3).1, hrec]
      · rw [World.putObj_heap_other (by omega)]; exact hd3
    intro e a3 W3 hp3
    cases e with
    | normal =>
      obtain ⟨hk, hi⟩ := hp3
      obtain ⟨W4, hr, ht4, hl4, hd4⟩ := ends none W3 hk
      exact ⟨_, W4, hr, .inl ⟨rfl, ⟨hl4, hd4⟩, fI _ _ _ hi ht4⟩⟩
    | ret =>
      obtain ⟨hk, hi⟩ := hp3
      obtain ⟨W4, hr, ht4, hl4, hd4⟩ := ends (some .ret) W3 hk
      exact ⟨_, W4, hr, .inr ⟨rfl, .ret, _, fX _ _ _ _ hi ht4, hl4, hd4⟩⟩
    | exit id =>
      obtain ⟨hk, hi⟩ := hp3
      obtain ⟨W4, hr, ht4, hl4, hd4⟩ := ends (some (.exit id)) W3 hk
      exact ⟨_, W4, hr, .inr ⟨rfl, .exit id, _, fX _ _ _ _ hi ht4, hl4, hd4⟩⟩
    | goto t =>
      obtain ⟨hk, hi⟩ := hp3
      obtain ⟨W4, hr, ht4, hl4, hd4⟩ := ends (some (.goto t)) W3 hk
      exact ⟨_, W4, hr, .inr ⟨rfl, .goto t, _, fX _ _ _ _ hi ht4, hl4, hd4⟩⟩
    | panic _ => exact hp3.elim
    | outgrown => exact hp3.elim
  -- behind the iterator
  refine hcall.mono ?_
  rintro e W2 ⟨⟨v, rfl⟩, ⟨s, hds, ⟨hl, hd⟩, hi⟩ | ⟨c, s, hx, hl, hd⟩⟩
  · have hr := run_endLoop (P := P) hl (by rw [hrec]; simp)
    refine ⟨_, _, hr, ?_⟩
    have hpe : (rec .ready none).pending = none := by rw [hrec]
    rw [hpe]
    exact hdone w.heap.size s _ (Nat.le_refl _) hds (fI _ _ _ hi ⟨_, _, _, by omega, hl, rfl⟩) (by rw [World.putObj_heap_other (by omega)]; exact hd)
  · have hr := run_endLoop (P := P) hl (by rw [hrec]; simp)
    refine ⟨_, _, hr, ?_⟩
    have hpe : (rec .done (some c)).pending = some c := by rw [hrec]
    rw [hpe]
    exact hstop w.heap.size c s _ (Nat.le_refl _) (fX _ _ _ _ hx ⟨_, _, _, by omega, hl, rfl⟩) (by rw [World.putObj_heap_other (by omega)]; exact hd)
end Go.Proofs.Ytoibndfiolipbaa
