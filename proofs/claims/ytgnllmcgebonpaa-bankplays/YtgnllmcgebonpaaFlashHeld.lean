/-
  A flash that lies in memory behind a world's own: the contracts over one such.
-/
import Derived.Test.YtgnllmcgebonpaaFlashNew
import Derived.Test.YtgnllmcgebonpaaFlashRead
import Derived.Test.YtgnllmcgebonpaaFlashWrite
namespace Go.Proofs.Ytgnllmcgebonpaa
open Go.ChangeShapes Go.WideShapes Go.ChangeAt Go.RowKit

/-- The flash at g holds s; it lies in memory that w0 has not; w0's own memory is as it was. -/
def Held (w0 w : World) (g : Nat) (s : PS) : Prop := ∃ F, PF w g s F ∧ (∀ k, F k → w0.heap.size ≤ k) ∧ Below w0.heap.size w0 w

theorem Held.base {w0 w : World} {g : Nat} {s : PS} (h : Held w0 w g s) : Below w0.heap.size w0 w := by obtain ⟨_, _, _, h⟩ := h; exact h
theorem Held.next {w0 w w' : World} {g : Nat} {s : PS} (h : Held w0 w g s) (hb : Below w.heap.size w w') : Held w0 w' g s := by
  obtain ⟨F, h1, h2, h3⟩ := h
  exact ⟨F, pf_kept.below h1 hb, h2, h3.trans (hb.mono h3.size)⟩
theorem Held.left {w0 w w' : World} {g : Nat} {s' : PS} {F : Nat → Prop} (h2 : ∀ k, F k → w0.heap.size ≤ k) (h3 : Below w0.heap.size w0 w) (hl : Left PF w F g s' w') : Held w0 w' g s' := by
  have hb := hl.below h3 h2 h3.size
  obtain ⟨F', k1, k2, k3⟩ := hl
  refine ⟨F', k1, fun k hk => ?_, hb⟩
  rcases k3 k hk with h | h
  · exact h2 k h
  · exact Nat.le_trans h3.size h

theorem sees_lt {w : World} {a : Option Addr} {ca : Nat} {b : List UInt8} (hs : Sees w a ca b) : ∀ bb off, a = some ⟨bb, off, none⟩ → b ≠ [] → bb < w.heap.size := fun bb off he hne => by
  obtain ⟨b2, o2, he2, hc2⟩ := hs.at' hne
  rw [he] at he2
  obtain ⟨rfl, rfl⟩ : bb = b2 ∧ off = o2 := by simpa using he2
  obtain ⟨y, hy⟩ : ∃ y, b[0]? = some y := by cases b with | nil => exact absurd rfl hne | cons y _ => exact ⟨y, rfl⟩
  exact World.block_lt_of_cell? w _ (hc2 0 y hy)

theorem new_held (w : World) (n : Nat) (hn : n ≤ 4096) : Calls Try.prog 6 #[.int .i64 (n : Int)] w fun e w' => ∃ g, e = .returned (.tuple #[.pointer (some ⟨g, 0, none⟩), .int .i64 0]) ∧ Held w w' g (newS n) := by
  refine (new_ok w n hn).mono ?_
  rintro e w' ⟨g, F, rfl, h1, h2, h3⟩
  exact ⟨g, rfl, F, h1, h2, h3⟩
theorem write_held {w0 w : World} {g : Nat} {s : PS} (h : Held w0 w g s) (hn : s.n ≤ 1000000) (a : Int) (ha : (Lit.int .i64 a).wf = true) (x : Option Addr) (cx : Nat) (l : List UInt8) (hx : Sees w0 x cx l) (E : Nat) (S : PS) (hE : E = writeE s a l) (hS : S = writeS s a l) :
    Calls Try.prog 9 #[.pointer (some ⟨g, 0, none⟩), .int .i64 a, .slice x l.length cx] w fun e w' => e = .returned (.int .i64 (E : Int)) ∧ Held w0 w' g S := by
  obtain ⟨F, h1, h2, h3⟩ := h
  subst hE hS
  refine (write_ok w g s F h1 hn a ha x cx l (hx.below h3) (fun bb off he hne hf => ?_)).mono ?_
  · have := h2 bb hf; have := sees_lt hx bb off he hne; omega
  · rintro e w' ⟨rfl, hl⟩
    exact ⟨rfl, Held.left h2 h3 hl⟩
theorem tear_held {w0 w : World} {g : Nat} {s : PS} (h : Held w0 w g s) (k n : Int) (hk : (Lit.int .i64 k).wf = true) (hn : (Lit.int .i64 n).wf = true) (S : PS) (hS : S = tearS s k n) :
    Calls Try.prog 13 #[.pointer (some ⟨g, 0, none⟩), .int .i64 k, .int .i64 n] w fun e w' => (∃ v, e = .returned v) ∧ Held w0 w' g S := by
  obtain ⟨F, h1, h2, h3⟩ := h
  subst hS
  refine (tear_ok w g s F h1 k n hk hn).mono ?_
  rintro e w' ⟨he, hl⟩
  exact ⟨he, Held.left h2 h3 hl⟩
theorem wake_held {w0 w : World} {g : Nat} {s : PS} (h : Held w0 w g s) (S : PS) (hS : S = wakeS s) :
    Calls Try.prog 17 #[.pointer (some ⟨g, 0, none⟩)] w fun e w' => (∃ v, e = .returned v) ∧ Held w0 w' g S := by
  obtain ⟨F, h1, h2, h3⟩ := h
  subst hS
  refine (wake_ok w g s F h1).mono ?_
  rintro e w' ⟨he, hl⟩
  exact ⟨he, Held.left h2 h3 hl⟩
theorem read_held {w0 w : World} {g : Nat} {s : PS} (h : Held w0 w g s) (a n : Int) (ha : (Lit.int .i64 a).wf = true) (r : List UInt8) (E : Nat) (hr : r = readL s a n) (hE : E = checkE s a n) :
    Calls Try.prog 30 #[.pointer (some ⟨g, 0, none⟩), .int .i64 a, .int .i64 n] w fun e w' => ∃ d cd, e = .returned (.tuple #[.slice d r.length cd, .int .i64 (E : Int)]) ∧ Sees w' d cd r ∧ Held w0 w' g s ∧ Below w.heap.size w w' := by
  have h0 := h
  obtain ⟨F, h1, h2, h3⟩ := h
  refine (read_ok w g s F h1 a n ha).mono ?_
  rintro e w' ⟨d, cd, r', E', hr', hE', rfl, hs, hb⟩
  have e1 : r' = r := by rw [hr'.out, hr]
  have e2 : E' = E := by rw [hE'.out, hE]
  subst e1 e2
  exact ⟨d, cd, rfl, hs, h0.next hb, hb⟩
/-- .. and, beside it, bytes that were read of it. -/
def Beside (w0 w : World) (g : Nat) (s : PS) (d : Option Addr) (cd : Nat) (B : List UInt8) : Prop :=
  ∃ F, PF w g s F ∧ (∀ k, F k → w0.heap.size ≤ k) ∧ Below w0.heap.size w0 w ∧ Sees w d cd B ∧ ∀ bb off, d = some ⟨bb, off, none⟩ → B ≠ [] → ¬ F bb ∧ bb < w.heap.size
theorem Beside.held {w0 w : World} {g : Nat} {s : PS} {d : Option Addr} {cd : Nat} {B : List UInt8} (h : Beside w0 w g s d cd B) : Held w0 w g s := by
  obtain ⟨F, h1, h2, h3, _⟩ := h; exact ⟨F, h1, h2, h3⟩
theorem Beside.sees {w0 w : World} {g : Nat} {s : PS} {d : Option Addr} {cd : Nat} {B : List UInt8} (h : Beside w0 w g s d cd B) : Sees w d cd B := by
  obtain ⟨F, _, _, _, h4, _⟩ := h; exact h4
theorem Beside.left {w0 w w' : World} {g : Nat} {s' : PS} {d : Option Addr} {cd : Nat} {B : List UInt8} {F : Nat → Prop} (h2 : ∀ k, F k → w0.heap.size ≤ k) (h3 : Below w0.heap.size w0 w) (h4 : Sees w d cd B) (h5 : ∀ bb off, d = some ⟨bb, off, none⟩ → B ≠ [] → ¬ F bb ∧ bb < w.heap.size)
    (hl : Left PF w F g s' w') : Beside w0 w' g s' d cd B := by
  have hb := hl.below h3 h2 h3.size
  obtain ⟨F', k1, k2, k3⟩ := hl
  refine ⟨F', k1, fun k hk => ?_, hb, k2.sees h4 (fun bb off he hne => (h5 bb off he hne).1), fun bb off he hne => ⟨fun hf => ?_, Nat.lt_of_lt_of_le (h5 bb off he hne).2 k2.size⟩⟩
  · rcases k3 k hk with h | h
    · exact h2 k h
    · exact Nat.le_trans h3.size h
  · rcases k3 bb hf with h | h
    · exact (h5 bb off he hne).1 h
    · have := (h5 bb off he hne).2; omega
theorem read_beside {w0 w : World} {g : Nat} {s : PS} (h : Held w0 w g s) (a n : Int) (ha : (Lit.int .i64 a).wf = true) (r : List UInt8) (E : Nat) (hr : r = readL s a n) (hE : E = checkE s a n) :
    Calls Try.prog 30 #[.pointer (some ⟨g, 0, none⟩), .int .i64 a, .int .i64 n] w fun e w' => ∃ d cd, e = .returned (.tuple #[.slice d r.length cd, .int .i64 (E : Int)]) ∧ Beside w0 w' g s d cd r := by
  obtain ⟨F, h1, h2, h3⟩ := h
  refine (read_new w g s F h1 a n ha).mono ?_
  rintro e w' ⟨d, cd, r', E', hr', hE', rfl, hs, hb, hf⟩
  have e1 : r' = r := by rw [hr'.out, hr]
  have e2 : E' = E := by rw [hE'.out, hE]
  subst e1 e2
  exact ⟨d, cd, rfl, F, pf_kept.below h1 hb, h2, h3.trans (hb.mono h3.size), hs, fun bb off he hne => ⟨fun hF => by have := hf bb off he hne; have := pf_kept.lt h1 bb hF; omega, sees_lt hs bb off he hne⟩⟩
theorem write_beside {w0 w : World} {g : Nat} {s : PS} {d : Option Addr} {cd : Nat} {B : List UInt8} (h : Beside w0 w g s d cd B) (hn : s.n ≤ 1000000) (a : Int) (ha : (Lit.int .i64 a).wf = true) (x : Option Addr) (cx : Nat) (l : List UInt8) (hx : Sees w0 x cx l) (E : Nat) (S : PS) (hE : E = writeE s a l) (hS : S = writeS s a l) :
    Calls Try.prog 9 #[.pointer (some ⟨g, 0, none⟩), .int .i64 a, .slice x l.length cx] w fun e w' => e = .returned (.int .i64 (E : Int)) ∧ Beside w0 w' g S d cd B := by
  obtain ⟨F, h1, h2, h3, h4, h5⟩ := h
  subst hE hS
  refine (write_ok w g s F h1 hn a ha x cx l (hx.below h3) (fun bb off he hne hf => ?_)).mono ?_
  · have := h2 bb hf; have := sees_lt hx bb off he hne; omega
  · rintro e w' ⟨rfl, hl⟩
    exact ⟨rfl, Beside.left h2 h3 h4 h5 hl⟩
theorem tear_beside {w0 w : World} {g : Nat} {s : PS} {d : Option Addr} {cd : Nat} {B : List UInt8} (h : Beside w0 w g s d cd B) (k n : Int) (hk : (Lit.int .i64 k).wf = true) (hn : (Lit.int .i64 n).wf = true) (S : PS) (hS : S = tearS s k n) :
    Calls Try.prog 13 #[.pointer (some ⟨g, 0, none⟩), .int .i64 k, .int .i64 n] w fun e w' => (∃ v, e = .returned v) ∧ Beside w0 w' g S d cd B := by
  obtain ⟨F, h1, h2, h3, h4, h5⟩ := h
  subst hS
  refine (tear_ok w g s F h1 k n hk hn).mono ?_
  rintro e w' ⟨he, hl⟩
  exact ⟨he, Beside.left h2 h3 h4 h5 hl⟩
theorem wake_beside {w0 w : World} {g : Nat} {s : PS} {d : Option Addr} {cd : Nat} {B : List UInt8} (h : Beside w0 w g s d cd B) (S : PS) (hS : S = wakeS s) :
    Calls Try.prog 17 #[.pointer (some ⟨g, 0, none⟩)] w fun e w' => (∃ v, e = .returned v) ∧ Beside w0 w' g S d cd B := by
  obtain ⟨F, h1, h2, h3, h4, h5⟩ := h
  subst hS
  refine (wake_ok w g s F h1).mono ?_
  rintro e w' ⟨he, hl⟩
  exact ⟨he, Beside.left h2 h3 h4 h5 hl⟩
/-- An operation that converts, its run known. -/
theorem exec_conv {P : Program} {o : Oper} {a : Act} {w : World} (s d : TypeId) (x : Operand) (ho : o.op = .convert s d x) (v r : Value) (hx : a.eval x = v) (hrun : (Go.convert s d v).run P w = .ok r w) : (execOp a.eval o).run P w = .ok (.value r) w := by
  unfold execOp
  simp only [ho, hx, Sem.run_bind, hrun, Result.andThen_ok, Sem.run_pure]
end Go.Proofs.Ytgnllmcgebonpaa
