/-
  The program's bank and the document's, act by act; both in memory with their flashes.
-/
import Derived.Test.YtgnllmcgebonpaaBankRefS
namespace Go.Proofs.Ytgnllmcgebonpaa
open Go.ChangeShapes Go.WideShapes Go.ChangeAt Go.RowKit

theorem Sim.row {s : PS} {t : RS} (h : Sim s t) (A N k : Nat) : rowL (psOf t) A N k = rowL s A N k := by unfold rowL; rw [h.b]; rfl
theorem Sim.newest {s : PS} {t : RS} (h : Sim s t) (A N : Nat) : newI (psOf t) A N = newI s A N := by unfold newI; rw [h.row, h.row]
theorem Sim.num {s : PS} {t : RS} (h : Sim s t) (A N : Nat) : numN (psOf t) A N = numN s A N := by
  unfold numN; rw [h.newest, show (psOf t).dead = s.dead from h.dead.symm]; congr 1; cases newI s A N <;> simp [h.row]
theorem Sim.loadl {s : PS} {t : RS} (h : Sim s t) (A N : Nat) : loadL (psOf t) A N = loadL s A N := by
  unfold loadL; rw [h.newest, show (psOf t).dead = s.dead from h.dead.symm]; congr 1; cases newI s A N <;> simp [h.row]
theorem Sim.loade {s : PS} {t : RS} (h : Sim s t) (A N : Nat) : loadE (psOf t) A N = loadE s A N := by
  unfold loadE; rw [h.newest, show (psOf t).dead = s.dead from h.dead.symm]
theorem Sim.fresh {s : PS} {t : RS} (h : Sim s t) (A N : Nat) : freshB (psOf t) A N = freshB s A N := by
  unfold freshB; rw [h.row, h.row, show (psOf t).dead = s.dead from h.dead.symm]
theorem Sim.slot {s : PS} {t : RS} (h : Sim s t) (A N : Nat) : slotN (psOf t) A N = slotN s A N := by unfold slotN; rw [h.newest]
theorem Sim.three {s : PS} {t : RS} (h : Sim s t) (p : Int) (B : List UInt8) : threeE writeE writeS s p B = threeE rwriteE rwriteT t p B ∧ Sim (threeS writeE writeS s p B) (threeS rwriteE rwriteT t p B) := by
  have h1 := sim_write h p [0]
  have h2 := sim_write h1.2 (p + 1) B
  have h3 := sim_write h2.2 p [90]
  unfold threeE threeS
  rw [h1.1, h2.1, h3.1]
  refine ⟨rfl, ?_⟩
  split
  · exact h1.2
  · split
    · exact h2.2
    · exact h3.2
theorem Sim.save {s : PS} {t : RS} (h : Sim s t) (A N : Nat) (l : List UInt8) : rsaveE t A N l = saveE s A N l ∧ Sim (saveS s A N l) (rsaveT t A N l) := by
  unfold rsaveE saveE saveS rsaveT
  rw [h.num, h.slot, ← h.dead]
  have h1 := h.three ((A + slotN s A N * (N + 8) : Nat) : Int) (bodyL (numN s A N + 1) l)
  rw [h1.1]
  refine ⟨rfl, ?_⟩
  split
  · exact h
  · split
    · exact h
    · split
      · exact h
      · exact h1.2

theorem write_len (s : PS) (a : Int) (l : List UInt8) : (writeS s a l).b.length = s.b.length := by
  unfold writeS
  split
  · rfl
  · rename_i h
    have h0 : checkE s a l.length = 0 := by simpa using h
    obtain ⟨_, h1, _, h2⟩ := check_zero h0
    have hc : cutN s l.length ≤ l.length := by unfold cutN; split <;> omega
    exact putAt_len s.b a.toNat _ l (by omega) hc
theorem rwrite_len (t : RS) (a : Int) (l : List UInt8) : (rwriteT t a l).b.length = t.b.length := by
  unfold rwriteT
  split
  · rfl
  · rename_i h
    have h0 : chk t.dead t.b.length a l.length = 0 := by simpa using h
    obtain ⟨_, h1, _, h2⟩ := chk_zero h0
    have hc : rcut t l.length ≤ l.length := by unfold rcut; split <;> omega
    exact putAt_len t.b a.toNat _ l (by omega) hc
theorem save_len (s : PS) (A N : Nat) (l : List UInt8) : (saveS s A N l).b.length = s.b.length := by
  unfold saveS threeS
  repeat' split
  all_goals simp only [write_len]
theorem save_n (s : PS) (A N : Nat) (l : List UInt8) : (saveS s A N l).n ≤ s.n + 3 := by
  have w1 := fun s a l => write_n s a l
  unfold saveS threeS
  repeat' split
  all_goals first
    | omega
    | (have h1 := w1 s ((A + slotN s A N * (N + 8) : Nat) : Int) [0]
       have h2 := w1 (writeS s ((A + slotN s A N * (N + 8) : Nat) : Int) [0]) (((A + slotN s A N * (N + 8) : Nat) : Int) + 1) (bodyL (numN s A N + 1) l)
       have h3 := w1 (writeS (writeS s ((A + slotN s A N * (N + 8) : Nat) : Int) [0]) (((A + slotN s A N * (N + 8) : Nat) : Int) + 1) (bodyL (numN s A N + 1) l)) ((A + slotN s A N * (N + 8) : Nat) : Int) [90]
       omega)
theorem rsave_len (t : RS) (A N : Nat) (l : List UInt8) : (rsaveT t A N l).b.length = t.b.length := by
  unfold rsaveT threeS
  repeat' split
  all_goals simp only [rwrite_len]
theorem tear_len (s : PS) (k n : Int) : (tearS s k n).b.length = s.b.length := by unfold tearS; split <;> rfl
theorem rtear_len (t : RS) (k n : Int) : (rtearT t k n).b.length = t.b.length := by unfold rtearT; split <;> rfl

/-- Both banks with their flashes, in memory that w0 has not, apart from each other. -/
structure Four (w0 w : World) (b g v r A N : Nat) (s : PS) (t : RS) (F G : Nat → Prop) : Prop where
  p : BK w b g A N s F
  q : RK w v r A N t G
  dis : ∀ k, F k → ¬ G k
  f0 : ∀ k, F k → w0.heap.size ≤ k
  g0 : ∀ k, G k → w0.heap.size ≤ k
  fb : ¬ F b
  gb : ¬ G b
  fv : ¬ F v
  gv : ¬ G v
  low : Below w0.heap.size w0 w
def Quad (w0 w : World) (b g v r A N : Nat) (s : PS) (t : RS) : Prop := ∃ F G, Four w0 w b g v r A N s t F G

theorem Quad.low {w0 w : World} {b g v r A N : Nat} {s : PS} {t : RS} (h : Quad w0 w b g v r A N s t) : Below w0.heap.size w0 w := by obtain ⟨F, G, h⟩ := h; exact h.low
theorem Quad.next {w0 w w' : World} {b g v r A N : Nat} {s : PS} {t : RS} (h : Quad w0 w b g v r A N s t) (hb : Below w.heap.size w w') : Quad w0 w' b g v r A N s t := by
  obtain ⟨F, G, h⟩ := h
  exact ⟨F, G, h.p.below hb, h.q.below hb, h.dis, h.f0, h.g0, h.fb, h.gb, h.fv, h.gv, h.low.trans (hb.mono h.low.size)⟩
theorem Quad.drew {w0 w : World} {b g v r A N : Nat} {s : PS} {t : RS} (h : Quad w0 w b g v r A N s t) : Quad w0 w.drew b g v r A N s t := h.next (Below.refl _ _).drew
/-- An act on the program's flash. -/
theorem Four.first {w0 w w' : World} {b g v r A N : Nat} {s s' : PS} {t : RS} {F G : Nat → Prop} (h : Four w0 w b g v r A N s t F G) (hl : Left PF w F g s' w') (hs : s'.b.length = s.b.length) : Quad w0 w' b g v r A N s' t := by
  obtain ⟨F', k1, k2, k3⟩ := id hl
  have hbl := h.p.bk.lt
  have hvl := h.q.bk.lt
  have hsz := h.low.size
  refine ⟨F', G, ⟨k1, hl.ba h.p.bk h.fb, by rw [hs]; exact h.p.fits, h.p.small, by rw [hs]; exact h.p.len⟩, ⟨rf_kept.keep h.q.fl fun k hk => k2.block k (rf_kept.lt h.q.fl k hk) fun hF => h.dis k hF hk, ?_, h.q.fits, h.q.small, h.q.len⟩,
    fun k hk hg => ?_, fun k hk => ?_, h.g0, fun hk => ?_, h.gb, fun hk => ?_, h.gv, hl.below h.low h.f0 hsz⟩
  · show w'.heap[v]? = _
    rw [k2.block v hvl h.fv]; exact h.q.bk
  · rcases k3 k hk with h1 | h1
    · exact h.dis k h1 hg
    · have := rf_kept.lt h.q.fl k hg; omega
  · rcases k3 k hk with h1 | h1
    · exact h.f0 k h1
    · omega
  · rcases k3 b hk with h1 | h1
    · exact h.fb h1
    · omega
  · rcases k3 v hk with h1 | h1
    · exact h.fv h1
    · omega
/-- An act on the document's flash. -/
theorem Four.second {w0 w w' : World} {b g v r A N : Nat} {s : PS} {t t' : RS} {F G : Nat → Prop} (h : Four w0 w b g v r A N s t F G) (hl : Left RF w G r t' w') (hs : t'.b.length = t.b.length) : Quad w0 w' b g v r A N s t' := by
  obtain ⟨G', k1, k2, k3⟩ := id hl
  have hbl := h.p.bk.lt
  have hvl := h.q.bk.lt
  have hsz := h.low.size
  refine ⟨F, G', ⟨pf_kept.keep h.p.fl fun k hk => k2.block k (pf_kept.lt h.p.fl k hk) fun hG => h.dis k hk hG, ?_, h.p.fits, h.p.small, h.p.len⟩, ⟨k1, hl.rba h.q.bk h.gv, by rw [hs]; exact h.q.fits, h.q.small, by rw [hs]; exact h.q.len⟩,
    fun k hk hg => ?_, h.f0, fun k hk => ?_, h.fb, fun hk => ?_, h.fv, fun hk => ?_, hl.below h.low h.g0 hsz⟩
  · show w'.heap[b]? = _
    rw [k2.block b hbl h.gb]; exact h.p.bk
  · rcases k3 k hg with h1 | h1
    · exact h.dis k hk h1
    · have := pf_kept.lt h.p.fl k hk; omega
  · rcases k3 k hk with h1 | h1
    · exact h.g0 k h1
    · omega
  · rcases k3 b hk with h1 | h1
    · exact h.gb h1
    · omega
  · rcases k3 v hk with h1 | h1
    · exact h.gv h1
    · omega

theorem psave_quad {w0 w : World} {b g v r A N : Nat} {s : PS} {t : RS} (h : Quad w0 w b g v r A N s t) (hn : s.n ≤ 999990) (x : Option Addr) (cx : Nat) (l : List UInt8) (hx : Sees w0 x cx l) (E : Nat) (hE : E = saveE s A N l) (S : PS) (hS : S = saveS s A N l) :
    Calls Try.prog 15 #[.pointer (some ⟨b, 0, none⟩), .slice x l.length cx] w fun e w' => e = .returned (.int .i64 (E : Int)) ∧ Quad w0 w' b g v r A N S t := by
  obtain ⟨F, G, h⟩ := h
  refine (save_ok w b g A N s F h.p h.fb hn x cx l (hx.below h.low) (fun bb off he hne hf => ?_) E hE S hS).mono ?_
  · have := h.f0 bb hf; have := sees_lt hx bb off he hne; omega
  · rintro e w' ⟨rfl, hl⟩
    exact ⟨rfl, h.first hl (by rw [hS, save_len])⟩
theorem rsave_quad {w0 w : World} {b g v r A N : Nat} {s : PS} {t : RS} (h : Quad w0 w b g v r A N s t) (hn : t.n ≤ 999990) (x : Option Addr) (cx : Nat) (l : List UInt8) (hx : Sees w0 x cx l) (E : Nat) (hE : E = rsaveE t A N l) (T : RS) (hT : T = rsaveT t A N l) :
    Calls Try.prog 16 #[.pointer (some ⟨v, 0, none⟩), .slice x l.length cx] w fun e w' => e = .returned (.int .i64 (E : Int)) ∧ Quad w0 w' b g v r A N s T := by
  obtain ⟨F, G, h⟩ := h
  refine (rsave_ok w v r A N t G h.q h.gv hn x cx l (hx.below h.low) E hE T hT).mono ?_
  rintro e w' ⟨rfl, hl⟩
  exact ⟨rfl, h.second hl (by rw [hT, rsave_len])⟩
theorem ptear_quad {w0 w : World} {b g v r A N : Nat} {s : PS} {t : RS} (h : Quad w0 w b g v r A N s t) (k n : Int) (hk : (Lit.int .i64 k).wf = true) (hn : (Lit.int .i64 n).wf = true) :
    Calls Try.prog 13 #[.pointer (some ⟨g, 0, none⟩), .int .i64 k, .int .i64 n] w fun e w' => (∃ z, e = .returned z) ∧ Quad w0 w' b g v r A N (tearS s k n) t := by
  obtain ⟨F, G, h⟩ := h
  refine (tear_ok w g s F h.p.fl k n hk hn).mono ?_
  rintro e w' ⟨he, hl⟩
  exact ⟨he, h.first hl (tear_len s k n)⟩
theorem rtear_quad {w0 w : World} {b g v r A N : Nat} {s : PS} {t : RS} (h : Quad w0 w b g v r A N s t) (k n : Int) (hk : (Lit.int .i64 k).wf = true) (hn : (Lit.int .i64 n).wf = true) :
    Calls Try.prog 14 #[.pointer (some ⟨r, 0, none⟩), .int .i64 k, .int .i64 n] w fun e w' => (∃ z, e = .returned z) ∧ Quad w0 w' b g v r A N s (rtearT t k n) := by
  obtain ⟨F, G, h⟩ := h
  refine (rtear_ok w r t G h.q.fl k n hk hn).mono ?_
  rintro e w' ⟨he, hl⟩
  exact ⟨he, h.second hl (rtear_len t k n)⟩
theorem pwake_quad {w0 w : World} {b g v r A N : Nat} {s : PS} {t : RS} (h : Quad w0 w b g v r A N s t) :
    Calls Try.prog 17 #[.pointer (some ⟨g, 0, none⟩)] w fun e w' => (∃ z, e = .returned z) ∧ Quad w0 w' b g v r A N (wakeS s) t := by
  obtain ⟨F, G, h⟩ := h
  refine (wake_ok w g s F h.p.fl).mono ?_
  rintro e w' ⟨he, hl⟩
  exact ⟨he, h.first hl rfl⟩
theorem rwake_quad {w0 w : World} {b g v r A N : Nat} {s : PS} {t : RS} (h : Quad w0 w b g v r A N s t) :
    Calls Try.prog 18 #[.pointer (some ⟨r, 0, none⟩)] w fun e w' => (∃ z, e = .returned z) ∧ Quad w0 w' b g v r A N s (rwakeT t) := by
  obtain ⟨F, G, h⟩ := h
  refine (rwake_ok w r t G h.q.fl).mono ?_
  rintro e w' ⟨he, hl⟩
  exact ⟨he, h.second hl rfl⟩

theorem awake_pure : saveE (newS 40) 0 4 [1, 2, 3, 4] = 0 ∧ numN (saveS (newS 40) 0 4 [1, 2, 3, 4]) 0 4 = 1 := by decide +kernel
end Go.Proofs.Ytgnllmcgebonpaa
