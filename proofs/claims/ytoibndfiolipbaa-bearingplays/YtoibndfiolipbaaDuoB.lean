/-
  Both tables side by side, act by act.
-/
import Derived.Test.YtoibndfiolipbaaBrfE
import Derived.Test.YtoibndfiolipbaaBrgS
namespace Go.Proofs.Ytoibndfiolipbaa
open Go.ChangeShapes Go.WideShapes Go.ChangeAt Go.RowKit

/-- The times of an act, in a box. -/
def BxT (w : World) (p : Nat) (a b : Int) : Prop := w.heap[p]? = some (.cells #[.int .i64 a, .int .i64 b] 36 (0, 0))
theorem BxT.lt {w : World} {p : Nat} {a b : Int} (h : BxT w p a b) : p < w.heap.size := (Array.getElem?_eq_some_iff.1 h).1
theorem BxT.facts {w : World} {p : Nat} {a b : Int} (h : BxT w p a b) : w.cell? ⟨p, 0, none⟩ = some (.int .i64 a) ∧ w.cell? ⟨p, 1, none⟩ = some (.int .i64 b) := by
  unfold BxT at h
  exact ⟨by simp [World.cell?, h], by simp [World.cell?, h]⟩
theorem BxT.new (w : World) (a b : Int) : BxT (w.alloc (.cells #[.int .i64 a, .int .i64 b] 36)) w.heap.size a b := heap_alloc_new _ _

/-- Both tables, new since w and apart from each other; all that was in w stays. -/
structure Du (w W : World) (g r m q : Nat) (v u : Bt) (n : Nat) : Prop where
  bd : Bd W g m v n
  rd : Rd W r q u
  ne : ∀ k, Own g m k → ¬ Rwn r q k
  lo : ∀ k, Own g m k → w.heap.size ≤ k
  ro : ∀ k, Rwn r q k → w.heap.size ≤ k
  bel : Below w.heap.size w W
  vk : v.ok
  uk : u.ok
def Duo (w W : World) (g r : Nat) (v u : Bt) (n : Nat) : Prop := ∃ m q, Du w W g r m q v u n
theorem Du.below {w W W' : World} {g r m q : Nat} {v u : Bt} {n : Nat} (h : Du w W g r m q v u n) (hb : Below W.heap.size W W') : Du w W' g r m q v u n :=
  ⟨h.bd.below hb, h.rd.below hb, h.ne, h.lo, h.ro, h.bel.trans (hb.mono h.bel.size), h.vk, h.uk⟩
/-- .. and the times of an act beside them. -/
def XD (w W : World) (g r : Nat) (v u : Bt) (n p : Nat) (a b : Int) : Prop := ∃ m q, Du w W g r m q v u n ∧ BxT W p a b ∧ ¬ Own g m p ∧ ¬ Rwn r q p
theorem XD.low {w W : World} {g r : Nat} {v u : Bt} {n p : Nat} {a b : Int} (h : XD w W g r v u n p a b) : Below w.heap.size w W := by
  obtain ⟨m, q, h1, _⟩ := h; exact h1.bel
theorem XD.vk {w W : World} {g r : Nat} {v u : Bt} {n p : Nat} {a b : Int} (h : XD w W g r v u n p a b) : v.ok := by
  obtain ⟨m, q, h1, _⟩ := h; exact h1.vk
theorem XD.box {w W : World} {g r : Nat} {v u : Bt} {n p : Nat} {a b : Int} (h : XD w W g r v u n p a b) : W.cell? ⟨p, 0, none⟩ = some (.int .i64 a) ∧ W.cell? ⟨p, 1, none⟩ = some (.int .i64 b) := by
  obtain ⟨m, q, _, h2, _⟩ := h; exact h2.facts
theorem XD.duo {w W : World} {g r : Nat} {v u : Bt} {n p : Nat} {a b : Int} (h : XD w W g r v u n p a b) : Duo w W g r v u n := by
  obtain ⟨m, q, h1, _⟩ := h; exact ⟨m, q, h1⟩
theorem XD.below {w W W' : World} {g r : Nat} {v u : Bt} {n p : Nat} {a b : Int} (h : XD w W g r v u n p a b) (hb : Below W.heap.size W W') : XD w W' g r v u n p a b := by
  obtain ⟨m, q, h1, h2, h3⟩ := h
  exact ⟨m, q, h1.below hb, (hb.block p h2.lt).trans h2, h3⟩
theorem XD.drew {w W : World} {g r : Nat} {v u : Bt} {n p : Nat} {a b : Int} (h : XD w W g r v u n p a b) : XD w W.drew g r v u n p a b := h.below (Below.refl _ _).drew
theorem Duo.box {w W : World} {g r : Nat} {v u : Bt} {n : Nat} (h : Duo w W g r v u n) (a b : Int) : XD w (W.alloc (.cells #[.int .i64 a, .int .i64 b] 36)) g r v u n W.heap.size a b := by
  obtain ⟨m, q, h1⟩ := h
  refine ⟨m, q, h1.below (Go.Joins.below_alloc1 _ _), BxT.new _ _ _, fun hk => ?_, fun hk => ?_⟩
  · have := h1.bd.lt hk; omega
  · have := h1.rd.lt hk; omega
theorem Duo.low {w W : World} {g r : Nat} {v u : Bt} {n : Nat} (h : Duo w W g r v u n) : Below w.heap.size w W := by
  obtain ⟨m, q, h1⟩ := h; exact h1.bel
theorem Duo.below {w W W' : World} {g r : Nat} {v u : Bt} {n : Nat} (h : Duo w W g r v u n) (hb : Below W.heap.size W W') : Duo w W' g r v u n := by
  obtain ⟨m, q, h1⟩ := h; exact ⟨m, q, h1.below hb⟩
/-- The program's Put; the document's. -/
theorem XD.put {w W : World} {g r : Nat} {v u : Bt} {n p : Nat} {a b : Int} (h : XD w W g r v u n p a b) (hn : n ≤ 999) (f x y t : Int) : Calls Try.prog 12 #[.pointer (some ⟨g, 0, none⟩), .int .i64 f, .agg #[.int .i64 x, .int .i64 y], .int .i64 t] W fun e w' => e = .returned (.int .i64 (putE v f x y t)) ∧ XD w w' g r (putV v f x y t) u (n + 1) p a b := by
  obtain ⟨m, q, h1, h2, h3, h4⟩ := h
  refine (put_ok W g m v n h1.bd h1.vk hn f x y t).mono fun _ _ ⟨he, hg, ha⟩ => ⟨he, m, q, ⟨hg, ?_, h1.ne, h1.lo, h1.ro, ?_, putV_ok h1.vk f x y t, h1.uk⟩, ?_, h3, h4⟩
  · exact h1.rd.keep fun k hk => ha.block k (h1.rd.lt hk) (fun e => h1.ne k (.inr e) hk)
  · exact ha.below h1.bel (fun k hk => h1.lo k (.inr hk)) h1.bel.size
  · exact (ha.block p h2.lt (fun e => h3 (.inr e))).trans h2
theorem XD.rput {w W : World} {g r : Nat} {v u : Bt} {n p : Nat} {a b : Int} (h : XD w W g r v u n p a b) (f x y t : Int) : Calls Try.prog 13 #[.pointer (some ⟨r, 0, none⟩), .int .i64 f, .agg #[.int .i64 x, .int .i64 y], .int .i64 t] W fun e w' => e = .returned (.int .i64 (putE u f x y t)) ∧ XD w w' g r v (putV u f x y t) n p a b := by
  obtain ⟨m, q, h1, h2, h3, h4⟩ := h
  refine (dput_ok W r q u h1.rd h1.uk f x y t).mono fun _ _ ⟨he, hg, ha⟩ => ⟨he, m, q, ⟨?_, hg, h1.ne, h1.lo, h1.ro, ?_, h1.vk, putV_ok h1.uk f x y t⟩, ?_, h3, h4⟩
  · exact h1.bd.keep fun k hk => ha.block k (h1.bd.lt hk) (fun e => h1.ne k hk (.inr e))
  · exact ha.below h1.bel (fun k hk => h1.ro k (.inr hk)) h1.bel.size
  · exact (ha.block p h2.lt (fun e => h4 (.inr e))).trans h2
theorem XD.clear {w W : World} {g r : Nat} {v u : Bt} {n p : Nat} {a b : Int} (h : XD w W g r v u n p a b) : Calls Try.prog 10 #[.pointer (some ⟨g, 0, none⟩)] W fun e w' => e = .returned (.tuple #[]) ∧ XD w w' g r (clrT v) u n p a b := by
  obtain ⟨m, q, h1, h2, h3, h4⟩ := h
  refine (clear_ok W g m v n h1.bd).mono fun _ _ ⟨he, hg, ha⟩ => ⟨he, m, q, ⟨hg, ?_, h1.ne, h1.lo, h1.ro, ?_, clrT_ok h1.vk, h1.uk⟩, ?_, h3, h4⟩
  · exact h1.rd.keep fun k hk => ha.block k (h1.rd.lt hk) (fun e => h1.ne k (.inr e) hk)
  · exact ha.below h1.bel (fun k hk => h1.lo k (.inr hk)) h1.bel.size
  · exact (ha.block p h2.lt (fun e => h3 (.inr e))).trans h2
theorem XD.rclear {w W : World} {g r : Nat} {v u : Bt} {n p : Nat} {a b : Int} (h : XD w W g r v u n p a b) : Calls Try.prog 11 #[.pointer (some ⟨r, 0, none⟩)] W fun e w' => e = .returned (.tuple #[]) ∧ XD w w' g r v (clrT u) n p a b := by
  obtain ⟨m, q, h1, h2, h3, h4⟩ := h
  refine (dclear_ok W r q u h1.rd h1.uk).mono fun _ _ ⟨he, hg, ha⟩ => ⟨he, m, W.heap.size, ⟨?_, hg, ?_, h1.lo, ?_, ?_, h1.vk, clrT_ok h1.uk⟩, ?_, h3, ?_⟩
  · exact h1.bd.keep fun k hk => ha.block k (h1.bd.lt hk) (fun e => h1.ne k hk (.inl e))
  · rintro k hk (hr | hr)
    · exact h1.ne k hk (.inl hr)
    · have := h1.bd.lt hk; omega
  · rintro k (hr | hr)
    · exact h1.ro k (.inl hr)
    · have := h1.bel.size; omega
  · exact ha.below h1.bel (fun k hk => h1.ro k (.inl hk)) h1.bel.size
  · exact (ha.block p h2.lt (fun e => h4 (.inl e))).trans h2
  · rintro (hr | hr)
    · exact h4 (.inl hr)
    · have := h2.lt; omega
/-- What they tell. -/
theorem XD.at {w W : World} {g r : Nat} {v u : Bt} {n p : Nat} {a b : Int} (h : XD w W g r v u n p a b) (f t : Int) : Calls Try.prog 14 #[.pointer (some ⟨g, 0, none⟩), .int .i64 f, .int .i64 t] W fun e w' => e = .returned (.tuple #[.agg #[.int .i64 (atA v f t).a, .int .i64 (atA v f t).b], .int .i64 (atA v f t).e]) ∧ Below W.heap.size W w' := by
  obtain ⟨m, q, h1, _⟩ := h; exact at_ok W g m v n h1.bd h1.vk f t
theorem XD.rat {w W : World} {g r : Nat} {v u : Bt} {n p : Nat} {a b : Int} (h : XD w W g r v u n p a b) (f t : Int) : Calls Try.prog 15 #[.pointer (some ⟨r, 0, none⟩), .int .i64 f, .int .i64 t] W fun e w' => e = .returned (.tuple #[.agg #[.int .i64 (atA u f t).a, .int .i64 (atA u f t).b], .int .i64 (atA u f t).e]) ∧ Below W.heap.size W w' := by
  obtain ⟨m, q, h1, _⟩ := h; exact dat_ok W r q u h1.rd h1.uk f t
theorem XD.most {w W : World} {g r : Nat} {v u : Bt} {n p : Nat} {a b : Int} (h : XD w W g r v u n p a b) (f t : Int) : Calls Try.prog 16 #[.pointer (some ⟨g, 0, none⟩), .int .i64 f, .int .i64 t] W fun e w' => e = .returned (.tuple #[.int .i64 (mosV (atA v f t) t), .int .i64 (atA v f t).e]) ∧ Below W.heap.size W w' := by
  obtain ⟨m, q, h1, _⟩ := h; exact most_ok W g m v n h1.bd h1.vk f t
theorem XD.rmost {w W : World} {g r : Nat} {v u : Bt} {n p : Nat} {a b : Int} (h : XD w W g r v u n p a b) (f t : Int) : Calls Try.prog 17 #[.pointer (some ⟨r, 0, none⟩), .int .i64 f, .int .i64 t] W fun e w' => e = .returned (.tuple #[.int .i64 (mosV (atA u f t) t), .int .i64 (atA u f t).e]) ∧ Below W.heap.size W w' := by
  obtain ⟨m, q, h1, _⟩ := h; exact dmost_ok W r q u h1.rd h1.uk f t
theorem XD.near {w W : World} {g r : Nat} {v u : Bt} {n p : Nat} {a b : Int} (h : XD w W g r v u n p a b) (t : Int) : Calls Try.prog 18 #[.pointer (some ⟨g, 0, none⟩), .int .i64 t] W fun e w' => e = .returned (.int .i64 (neU v t v.c.n.toNat)) ∧ Below W.heap.size W w' := by
  obtain ⟨m, q, h1, _⟩ := h; exact near_ok W g m v n h1.bd h1.vk t
theorem XD.rnear {w W : World} {g r : Nat} {v u : Bt} {n p : Nat} {a b : Int} (h : XD w W g r v u n p a b) (t : Int) : Calls Try.prog 19 #[.pointer (some ⟨r, 0, none⟩), .int .i64 t] W fun e w' => e = .returned (.int .i64 (neU u t u.c.n.toNat)) ∧ Below W.heap.size W w' := by
  obtain ⟨m, q, h1, _⟩ := h; exact dnear_ok W r q u h1.rd h1.uk t
/-- A list of numbers, of intervals, as its cells. -/
def LsI (w : World) (a : Option Addr) (L : List Int) : Prop := ∀ (j : Nat) (x : Int), L[j]? = some x → ∃ b, a = some ⟨b, 0, none⟩ ∧ w.cell? ⟨b, j, none⟩ = some (.int .i64 x)
def LsV (w : World) (a : Option Addr) (L : List (Int × Int)) : Prop := ∀ (j : Nat) (x : Int × Int), L[j]? = some x → ∃ b, a = some ⟨b, 0, none⟩ ∧ w.cell? ⟨b, j * 2, none⟩ = some (.int .i64 x.1) ∧ w.cell? ⟨b, j * 2 + 1, none⟩ = some (.int .i64 x.2)
theorem LsI.below {w w' : World} {a : Option Addr} {L : List Int} (h : LsI w a L) (hb : Below w.heap.size w w') : LsI w' a L := fun j x hx => by
  obtain ⟨b, h1, h2⟩ := h j x hx
  exact ⟨b, h1, by rw [hb.cell (p := ⟨b, j, none⟩) (World.block_lt_of_cell? w _ h2), h2]⟩
theorem LsV.below {w w' : World} {a : Option Addr} {L : List (Int × Int)} (h : LsV w a L) (hb : Below w.heap.size w w') : LsV w' a L := fun j x hx => by
  obtain ⟨b, h1, h2, h3⟩ := h j x hx
  exact ⟨b, h1, by rw [hb.cell (p := ⟨b, j * 2, none⟩) (World.block_lt_of_cell? w _ h2), h2], by rw [hb.cell (p := ⟨b, j * 2 + 1, none⟩) (World.block_lt_of_cell? w _ h3), h3]⟩
theorem lsI_of {w : World} {v : Value} {L : List Int} (h : Row EI w v L) : ∃ a c, v = .slice a L.length c ∧ LsI w a L ∧ L.length ≤ 9223372036854775807 := by
  obtain ⟨a, c, rfl, h1, h2, _⟩ := h.shape
  refine ⟨a, c, rfl, fun j x hx => ?_, by unfold maxLen at h2; omega⟩
  obtain ⟨_, b, hb, hc⟩ := h.get hx
  refine ⟨b, hb, ?_⟩
  have := hc 0 (.int .i64 x) rfl
  have e : j * EI.n + 0 = j := by show j * 1 + 0 = j; omega
  rw [e] at this; exact this
theorem lsV_of {w : World} {v : Value} {L : List (Int × Int)} (h : Row EV w v L) : ∃ a c, v = .slice a L.length c ∧ LsV w a L ∧ L.length ≤ 9223372036854775807 := by
  obtain ⟨a, c, rfl, h1, h2, _⟩ := h.shape
  refine ⟨a, c, rfl, fun j x hx => ?_, by unfold maxLen at h2; omega⟩
  obtain ⟨_, b, hb, hc⟩ := h.get hx
  exact ⟨b, hb, hc 0 (.int .i64 x.1) rfl, hc 1 (.int .i64 x.2) rfl⟩
theorem XD.fresh {w W : World} {g r : Nat} {v u : Bt} {n p : Nat} {a b : Int} (h : XD w W g r v u n p a b) (t : Int) : Calls Try.prog 20 #[.pointer (some ⟨g, 0, none⟩), .int .i64 t] W fun e w' => ∃ x c, e = .returned (.slice x (frU v t v.c.n.toNat).length c) ∧ LsI w' x (frU v t v.c.n.toNat) ∧ Below W.heap.size W w' := by
  obtain ⟨m, q, h1, _⟩ := h
  refine (fresh_ok W g m v n h1.bd h1.vk t).mono fun _ _ ⟨sl, he, hr, _, hb⟩ => ?_
  obtain ⟨x, c, rfl, h2, _⟩ := lsI_of hr
  exact ⟨x, c, he, h2, hb⟩
theorem XD.rfresh {w W : World} {g r : Nat} {v u : Bt} {n p : Nat} {a b : Int} (h : XD w W g r v u n p a b) (t : Int) : Calls Try.prog 21 #[.pointer (some ⟨r, 0, none⟩), .int .i64 t] W fun e w' => ∃ x c, e = .returned (.slice x (frU u t u.c.n.toNat).length c) ∧ LsI w' x (frU u t u.c.n.toNat) ∧ Below W.heap.size W w' := by
  obtain ⟨m, q, h1, _⟩ := h
  refine (dfresh_ok W r q u h1.rd h1.uk t).mono fun _ _ ⟨sl, he, hr, _, hb⟩ => ?_
  obtain ⟨x, c, rfl, h2, _⟩ := lsI_of hr
  exact ⟨x, c, he, h2, hb⟩
theorem XD.offs {w W : World} {g r : Nat} {v u : Bt} {n p : Nat} {a b : Int} (h : XD w W g r v u n p a b) (t : Int) : Calls Try.prog 22 #[.pointer (some ⟨g, 0, none⟩), .int .i64 t] W fun e w' => ∃ x c, e = .returned (.slice x (ofU v t v.c.n.toNat).length c) ∧ LsV w' x (ofU v t v.c.n.toNat) ∧ Below W.heap.size W w' := by
  obtain ⟨m, q, h1, _⟩ := h
  refine (offs_ok W g m v n h1.bd h1.vk t).mono fun _ _ ⟨sl, he, hr, _, hb⟩ => ?_
  obtain ⟨x, c, rfl, h2, _⟩ := lsV_of hr
  exact ⟨x, c, he, h2, hb⟩
theorem XD.roffs {w W : World} {g r : Nat} {v u : Bt} {n p : Nat} {a b : Int} (h : XD w W g r v u n p a b) (t : Int) : Calls Try.prog 23 #[.pointer (some ⟨r, 0, none⟩), .int .i64 t] W fun e w' => ∃ x c, e = .returned (.slice x (ofU u t u.c.n.toNat).length c) ∧ LsV w' x (ofU u t u.c.n.toNat) ∧ Below W.heap.size W w' := by
  obtain ⟨m, q, h1, _⟩ := h
  refine (doffs_ok W r q u h1.rd h1.uk t).mono fun _ _ ⟨sl, he, hr, _, hb⟩ => ?_
  obtain ⟨x, c, rfl, h2, _⟩ := lsV_of hr
  exact ⟨x, c, he, h2, hb⟩
/-- Both are made. -/
theorem Solo.duo {w W : World} {g : Nat} {v : Bt} {n : Nat} (h : Solo w W g v n) (c : Cf) (i : Int) (hi : nodeB c i = true) : Calls Try.prog 8 #[.agg (cfC c), .int .i64 i] W fun e w' => ∃ r, e = .returned (.tuple #[.pointer (some ⟨r, 0, none⟩), .int .i64 0]) ∧ Duo w w' g r v (newT c i) n := by
  obtain ⟨m, h1, h2, h3, h4⟩ := h
  refine (dnew_ok W c i hi).mono fun _ _ ⟨r, q, he, hr, hr1, hq1, hb⟩ => ⟨r, he, m, q, h1.below hb, hr, ?_, h2, ?_, h3.trans (hb.mono h3.size), h4, newT_ok hi⟩
  · rintro k hk (e | e)
    · have := h1.lt hk; omega
    · have := h1.lt hk; omega
  · rintro k (e | e)
    · have := h3.size; omega
    · have := h3.size; omega
end Go.Proofs.Ytoibndfiolipbaa
