/-
  The contract of Fresh, the program's: a range over told.
-/
import Derived.Test.YtoibndfiolipbaaBrgE
import Derived.Test.YtoibndfiolipbaaRowEnc
import Derived.WalkMore
namespace Go.Proofs.Ytoibndfiolipbaa
open Go.ChangeShapes Go.WideShapes Go.ChangeAt Go.RowKit

theorem Boxed.below {W W' : World} {b : Nat} {t : TypeId} {v : Value} (h : Boxed W b t v) (hb : Below W.heap.size W W') : Boxed W' b t v := by
  unfold Boxed; rw [hb.block b h.lt]; exact h
theorem Boxed.apart {F : Nat → Prop} {W W' : World} {b : Nat} {t : TypeId} {v : Value} (h : Boxed W b t v) (ha : Apart F W W') (hn : ¬ F b) : Boxed W' b t v := by
  unfold Boxed; rw [ha.block b h.lt hn]; exact h
theorem Boxed.aside {W : World} {b g : Nat} {t : TypeId} {v : Value} (h : Boxed W b t v) (hne : b ≠ g) (u : Value) : Boxed (W.setCell ⟨g, 0, none⟩ u) b t v := by
  unfold Boxed; rw [heap_setCell_other _ _ _ _ hne]; exact h
theorem Turned.row {B : Nat} {α : Type} {E : Enc α} {W W' : World} {v : Value} {xs : List α} (ht : Turned B W W') (h : Row E W v xs) : Row E W' v xs := h.keep fun k hk => by
  obtain ⟨cur, h1, _⟩ := h.isRow hk
  rw [ht.block h1 rfl, h1]
theorem Row.aside {α : Type} {E : Enc α} {W : World} {g : Nat} {v : Value} {xs : List α} (h : Row E W v xs) (hn : v.ownBlock ≠ some g) (u : Value) : Row E (W.setCell ⟨g, 0, none⟩ u) v xs := h.keep fun k hk => heap_setCell_other _ _ _ _ (fun e => hn (by subst e; exact hk))
theorem Row.alloc {α : Type} {E : Enc α} {W : World} {v : Value} {xs : List α} (h : Row E W v xs) (o : Obj) : Row E (W.alloc o) v xs := h.below (Go.Joins.below_alloc1 _ _)
theorem Row.putO {α : Type} {E : Enc α} {W : World} {v : Value} {xs : List α} (h : Row E W v xs) {l : Nat} {o o' : Obj} (hl : W.heap[l]? = some o) (ho : o.isCells = false) : Row E (W.putObj l o') v xs := h.keep fun k hk => by
  obtain ⟨cur, h1, _⟩ := h.isRow hk
  refine World.putObj_heap_other ?_
  rintro rfl
  rw [hl] at h1; cases h1; cases ho
theorem keeps_apart {F : Nat → Prop} {B : Nat} {W W' : World} (ha : Apart F W W') (hF : ∀ k, F k → k < W.heap.size → ∃ cur t fr, W.heap[k]? = some (.cells cur t fr)) : KeepsFrom B W W' :=
  ⟨ha.size, fun k o _ hk ho => by
    have hlt := (Array.getElem?_eq_some_iff.1 hk).1
    by_cases hf : F k
    · obtain ⟨cur, t, fr, hc⟩ := hF k hf hlt
      rw [hk] at hc; cases hc; cases ho
    · rw [ha.block k hlt hf]; exact hk⟩
theorem wpListIn_append_run {F : Fence} {n : Nat} {P : Program} {w w' : World} {ops : Array Oper} {rest : List Oper} {o : Oper} {a : Act} {Q : Exit → Act → World → Prop} (hgd : o.guard = none) (s x : Operand) (t : TypeId)
    (ho : o.op = .call { callee := .builtin .append, args := #[s, x], argTypes := #[t, t] }) (v u r : Value) (hs : a.eval s = v) (hx : a.eval x = u)
    (hrun : (Builtin.append_ #[t, t] o.type #[v, u]).run P w = .ok r w') (h : wpListIn F n P ops Q rest (a.put o.dst r) w') : wpListIn F n P ops Q (o :: rest) a w := by
  refine wpListIn_plain hgd fun K hK => ?_
  unfold Oper.wpIn
  refine ⟨by simp [Oper.about, ho, resolve, Target.leads, Sem.run_pure], ?_⟩
  rw [Oper.semAt_plain F _ _ (by rw [ho]; intro c hc; cases hc)]
  simp [execOp, ho, resolve, invoke, builtin, hs, hx, hrun, Result.andThen]
  exact hK _ _ h

/-- Between two rounds: the first s nodes are gone over. -/
structure FI (w : World) (p : Value) (v : Bt) (t s : Int) (W : World) : Prop where
  bx : Boxed W w.heap.size 28 p
  bt : Boxed W (w.heap.size + 2) 28 p
  bn : Boxed W (w.heap.size + 3) 2 (.int .i64 t)
  row : ∃ sl, Boxed W (w.heap.size + 1) 25 sl ∧ Row EI W sl (frU v t s.toNat) ∧ ∀ k, sl.ownBlock = some k → w.heap.size + 4 ≤ k
  bel : Below w.heap.size w W
theorem FI.turned {w : World} {p : Value} {v : Bt} {t s : Int} {W W' : World} {B : Nat} (h : FI w p v t s W) (hB : w.heap.size ≤ B) (ht : Turned B W W') : FI w p v t s W' := by
  obtain ⟨h1, h2, h3, ⟨sl, h4, h5, h6⟩, h7⟩ := h
  exact ⟨ht.boxed h1, ht.boxed h2, ht.boxed h3, ⟨sl, ht.boxed h4, ht.row h5, h6⟩, ht.below h7 hB⟩
theorem FI.below {w : World} {p : Value} {v : Bt} {t s : Int} {W W' : World} (h : FI w p v t s W) (hb : Below W.heap.size W W') : FI w p v t s W' := by
  obtain ⟨h1, h2, h3, ⟨sl, h4, h5, h6⟩, h7⟩ := h
  exact ⟨Boxed.below h1 hb, Boxed.below h2 hb, Boxed.below h3 hb, ⟨sl, Boxed.below h4 hb, h5.below hb, h6⟩, h7.trans (hb.mono h7.size)⟩
theorem fr_none {v : Bt} {t s : Int} (h0 : 0 ≤ s) (h : ¬ (atA v s t).e = 0) : frU v t (s + 1).toNat = frU v t s.toNat := by
  obtain ⟨k, rfl⟩ : ∃ k : Nat, s = (k : Int) := ⟨s.toNat, by omega⟩
  rw [show ((k : Int) + 1).toNat = k + 1 by omega, Int.toNat_natCast, frU, if_neg h, List.append_nil]
theorem fr_some {v : Bt} {t s : Int} (h0 : 0 ≤ s) (h : (atA v s t).e = 0) : frU v t (s + 1).toNat = frU v t s.toNat ++ [s] := by
  obtain ⟨k, rfl⟩ : ∃ k : Nat, s = (k : Int) := ⟨s.toNat, by omega⟩
  rw [show ((k : Int) + 1).toNat = k + 1 by omega, Int.toNat_natCast, frU, if_pos h]
theorem fr_len (v : Bt) (t : Int) : ∀ k : Nat, (frU v t k).length ≤ k
  | 0 => by simp [frU]
  | k + 1 => by
    have := fr_len v t k
    rw [frU, List.length_append]
    split <;> simp <;> omega
theorem tol_no {v : Bt} {t s : Int} (h : tolB v t s = false) : ¬ (atA v s t).e = 0 ∧ s ≠ v.i := by
  simp [tolB] at h
  exact h
theorem tol_yes {v : Bt} {t s : Int} (h : tolB v t s = true) (hi : s ≠ v.i) : (atA v s t).e = 0 := by
  simp [tolB] at h
  rcases h with h | h
  · exact h
  · exact absurd h hi
/-- A node more is told of. -/
theorem FI.put {w : World} {p : Value} {v : Bt} {t s : Int} {W : World} (h : FI w p v t s W) (h0 : 0 ≤ s) (h8 : s ≤ 8) (he : (atA v s t).e = 0) :
    ∃ sl sa sk sc W', W.cell? ⟨w.heap.size + 1, 0, none⟩ = some sl ∧ (Builtin.append_ #[25, 25] 25 #[sl, .slice (some ⟨W.heap.size, 0, none⟩) 1 1]).run Try.prog (W.alloc (.cells #[.int .i64 s] 3)) = .ok (.slice sa sk sc) W' ∧
      W'.cell? ⟨w.heap.size + 1, 0, none⟩ = some sl ∧ W'.frozen? ⟨w.heap.size + 1, 0, none⟩ = false ∧
      FI w p v t (s + 1) (W'.setCell ⟨w.heap.size + 1, 0, none⟩ (.slice sa sk sc)) ∧ KeepsFrom (w.heap.size + 4) W (W'.setCell ⟨w.heap.size + 1, 0, none⟩ (.slice sa sk sc)) := by
  obtain ⟨h1, h2, h3, ⟨sl, h4, h5, h6⟩, h7⟩ := h
  have hlen := fr_len v t s.toNat
  obtain ⟨sl', W', hrun, hr, ha, ho⟩ := (h5.alloc (.cells #[.int .i64 s] 3)).pushI (by omega) s W.heap.size (Boxed.new W 3 (.int .i64 s)).cell
  obtain ⟨sa, sc, hsl, _⟩ := hr.shape
  have ha2 : Apart (fun k => sl.ownBlock = some k) W W' := (Apart.of_below (Go.Joins.below_alloc1 W (.cells #[.int .i64 s] 3))).trans ha (fun i hi => .inl hi)
  have hs : ∀ b, b < w.heap.size + 4 → sl.ownBlock ≠ some b := fun b hb e => by have := h6 b e; omega
  have hs' : ∀ k, sl'.ownBlock = some k → w.heap.size + 4 ≤ k := fun k hk => by
    rcases ho k hk with h | h
    · exact h6 k h
    · have := h3.lt; simp at h; omega
  have b1 := Boxed.apart h4 ha2 (hs _ (by omega))
  subst hsl
  refine ⟨sl, sa, _, sc, W', h4.cell, hrun, b1.cell, b1.frozen, ⟨?_, ?_, ?_, ⟨_, b1.set _, ?_, hs'⟩, ?_⟩, ?_⟩
  · exact Boxed.aside (Boxed.apart h1 ha2 (hs _ (by omega))) (by omega) _
  · exact Boxed.aside (Boxed.apart h2 ha2 (hs _ (by omega))) (by omega) _
  · exact Boxed.aside (Boxed.apart h3 ha2 (hs _ (by omega))) (by omega) _
  · rw [fr_some h0 he]
    exact hr.aside (fun e => by have := hs' _ e; omega) _
  · exact (ha2.below h7 (fun k hk => by have := h6 k hk; omega) h7.size).setCell (p := ⟨w.heap.size + 1, 0, none⟩) (by show w.heap.size ≤ w.heap.size + 1; omega) _
  · refine (keeps_apart ha2 fun k hk _ => ?_).trans ((KeepsOthers.setCell _ _ _).from _)
    obtain ⟨cur, hc, _⟩ := h5.isRow hk
    exact ⟨cur, _, _, hc⟩
end Go.Proofs.Ytoibndfiolipbaa

namespace Go.Proofs.Ytoibndfiolipbaa
open Go.ChangeShapes Go.WideShapes Go.ChangeAt Go.RowKit Go.Shelf
attribute [local go_sem] Oper.semAt_some

set_option maxRecDepth 100000 in
set_option maxHeartbeats 4000000 in
set_option maxRecDepth 20000 in
theorem fresh_ok (w : World) (g m : Nat) (v : Bt) (n : Nat) (h : Bd w g m v n) (ok : v.ok) (t : Int) :
    Calls Try.prog 20 #[.pointer (some ⟨g, 0, none⟩), .int .i64 t] w fun e w' => ∃ sl, e = .returned sl ∧ Row EI w' sl (frU v t v.c.n.toNat) ∧ (∀ k, sl.ownBlock = some k → w.heap.size ≤ k) ∧ Below w.heap.size w w' := by
  have hr := right_of ok.r
  have HC : Hid (0 ≤ v.c.n ∧ v.c.n ≤ 8) := ⟨by have := hr.n0; omega, hr.n1⟩
  have HB : Hid (Bd w g m v n ∧ v.ok) := ⟨h, ok⟩
  have KT := told_ok ((w.alloc (.cells #[.pointer (some ⟨g, 0, none⟩)] 28)).alloc (.cells #[.slice none 0 0] 25)) (.pointer (some ⟨g, 0, none⟩)) rfl t
  rw [World.size_alloc, World.size_alloc] at KT
  clear h ok hr
  refine (callsIn_wide (n := 9)).1 ?_
  refine callsIn_of_wp_marks Try.func20 rfl trivial ?_ rfl
  simp only [Try.ntmps20, List.size_toArray, List.length_cons, List.length_nil, Nat.reduceAdd, Nat.reduceSub, Array.replicate_succ, Array.replicate_zero, List.push_toArray, List.append_toArray, List.nil_append, List.cons_append]
  gi_wp2
  refine ⟨trivial, (callsIn_wide.2 KT).mono ?_⟩
  rintro e w' ⟨rfl, hw'⟩
  rw [hw']
  clear KT hw' w'
  gi_wp2
  obtain ⟨W0, hW0⟩ : ∃ W0, W0 = (((w.alloc (.cells #[.pointer (some ⟨g, 0, none⟩)] 28)).alloc (.cells #[.slice none 0 0] 25)).alloc (.cells #[.pointer (some ⟨g, 0, none⟩)] 28)).alloc (.cells #[.int .i64 t] 2) := ⟨_, rfl⟩
  have hsz : W0.heap.size = w.heap.size + 4 := by rw [hW0]; simp
  have hI0 : FI w (.pointer (some ⟨g, 0, none⟩)) v t 0 W0 := by
    have a1 := Boxed.new w 28 (.pointer (some ⟨g, 0, none⟩))
    have a2 := Boxed.new (w.alloc (.cells #[.pointer (some ⟨g, 0, none⟩)] 28)) 25 (.slice none 0 0)
    have a3 := Boxed.new ((w.alloc (.cells #[.pointer (some ⟨g, 0, none⟩)] 28)).alloc (.cells #[.slice none 0 0] 25)) 28 (.pointer (some ⟨g, 0, none⟩))
    have a4 := Boxed.new (((w.alloc (.cells #[.pointer (some ⟨g, 0, none⟩)] 28)).alloc (.cells #[.slice none 0 0] 25)).alloc (.cells #[.pointer (some ⟨g, 0, none⟩)] 28)) 2 (.int .i64 t)
    rw [World.size_alloc] at a2
    rw [World.size_alloc, World.size_alloc] at a3
    rw [World.size_alloc, World.size_alloc, World.size_alloc] at a4
    rw [hW0]
    exact ⟨((a1.alloc _).alloc _).alloc _, a3.alloc _, a4, ⟨_, (a2.alloc _).alloc _, Row.nil _ _, fun k hk => by cases hk⟩,
      (((Go.Joins.below_alloc2 _ _ _).alloc (by simp; omega) _).alloc (by simp; omega) _)⟩
  have hsz : W0.heap.size = w.heap.size + 4 := by rw [hW0]; simp
  have hI0 : FI w (.pointer (some ⟨g, 0, none⟩)) v t 0 W0 := by
    have a1 := Boxed.new w 28 (.pointer (some ⟨g, 0, none⟩))
    have a2 := Boxed.new (w.alloc (.cells #[.pointer (some ⟨g, 0, none⟩)] 28)) 25 (.slice none 0 0)
    have a3 := Boxed.new ((w.alloc (.cells #[.pointer (some ⟨g, 0, none⟩)] 28)).alloc (.cells #[.slice none 0 0] 25)) 28 (.pointer (some ⟨g, 0, none⟩))
    have a4 := Boxed.new (((w.alloc (.cells #[.pointer (some ⟨g, 0, none⟩)] 28)).alloc (.cells #[.slice none 0 0] 25)).alloc (.cells #[.pointer (some ⟨g, 0, none⟩)] 28)) 2 (.int .i64 t)
    rw [World.size_alloc] at a2
    rw [World.size_alloc, World.size_alloc] at a3
    rw [World.size_alloc, World.size_alloc, World.size_alloc] at a4
    rw [hW0]
    exact ⟨((a1.alloc _).alloc _).alloc _, a3.alloc _, a4, ⟨_, (a2.alloc _).alloc _, Row.nil _ _, fun k hk => by cases hk⟩,
      (((Go.Joins.below_alloc2 _ _ _).alloc (by simp; omega) _).alloc (by simp; omega) _)⟩
  have hsz : W0.heap.size = w.heap.size + 4 := by rw [hW0]; simp
  have hI0 : FI w (.pointer (some ⟨g, 0, none⟩)) v t 0 W0 := by
    have a1 := Boxed.new w 28 (.pointer (some ⟨g, 0, none⟩))
    have a2 := Boxed.new (w.alloc (.cells #[.pointer (some ⟨g, 0, none⟩)] 28)) 25 (.slice none 0 0)
    have a3 := Boxed.new ((w.alloc (.cells #[.pointer (some ⟨g, 0, none⟩)] 28)).alloc (.cells #[.slice none 0 0] 25)) 28 (.pointer (some ⟨g, 0, none⟩))
    have a4 := Boxed.new (((w.alloc (.cells #[.pointer (some ⟨g, 0, none⟩)] 28)).alloc (.cells #[.slice none 0 0] 25)).alloc (.cells #[.pointer (some ⟨g, 0, none⟩)] 28)) 2 (.int .i64 t)
    rw [World.size_alloc] at a2
    rw [World.size_alloc, World.size_alloc] at a3
    rw [World.size_alloc, World.size_alloc, World.size_alloc] at a4
    rw [hW0]
    exact ⟨((a1.alloc _).alloc _).alloc _, a3.alloc _, a4, ⟨_, (a2.alloc _).alloc _, Row.nil _ _, fun k hk => by cases hk⟩,
      (((Go.Joins.below_alloc2 _ _ _).alloc (by simp; omega) _).alloc (by simp; omega) _)⟩
  have hsz : W0.heap.size = w.heap.size + 4 := by rw [hW0]; simp
  have hI0 : FI w (.pointer (some ⟨g, 0, none⟩)) v t 0 W0 := by
    have a1 := Boxed.new w 28 (.pointer (some ⟨g, 0, none⟩))
    have a2 := Boxed.new (w.alloc (.cells #[.pointer (some ⟨g, 0, none⟩)] 28)) 25 (.slice none 0 0)
    have a3 := Boxed.new ((w.alloc (.cells #[.pointer (some ⟨g, 0, none⟩)] 28)).alloc (.cells #[.slice none 0 0] 25)) 28 (.pointer (some ⟨g, 0, none⟩))
    have a4 := Boxed.new (((w.alloc (.cells #[.pointer (some ⟨g, 0, none⟩)] 28)).alloc (.cells #[.slice none 0 0] 25)).alloc (.cells #[.pointer (some ⟨g, 0, none⟩)] 28)) 2 (.int .i64 t)
    rw [World.size_alloc] at a2
    rw [World.size_alloc, World.size_alloc] at a3
    rw [World.size_alloc, World.size_alloc, World.size_alloc] at a4
    rw [hW0]
    exact ⟨((a1.alloc _).alloc _).alloc _, a3.alloc _, a4, ⟨_, (a2.alloc _).alloc _, Row.nil _ _, fun k hk => by cases hk⟩,
      (((Go.Joins.below_alloc2 _ _ _).alloc (by simp; omega) _).alloc (by simp; omega) _)⟩
  rw [← hW0]
  have HW0 : Hid (w.heap.size ≤ W0.heap.size ∧ W0.heap.size = w.heap.size + 4) := ⟨by omega, hsz⟩
  clear hW0 hsz
  refine range_own 56 #[.pointer (some ⟨w.heap.size + 1 + 1, 0, none⟩), .pointer (some ⟨w.heap.size + 1 + 1 + 1, 0, none⟩)] rfl (enters_of Try.func56 (by kernel_rfl) rfl)
    (fun x : Int × Int × Int => #[.int .i64 x.1, .agg #[.int .i64 x.2.1, .int .i64 x.2.2]]) (fun _ => rfl) (FI w (.pointer (some ⟨g, 0, none⟩)) v t) (fun s x W => FI w (.pointer (some ⟨g, 0, none⟩)) v t s W ∧ s = x.1 ∧ 0 ≤ x.1 ∧ x.1 < v.c.n ∧ tolB v t x.1 = true ∧ x.2.1 = (atA v x.1 t).a ∧ x.2.2 = (atA v x.1 t).b) (fun _ x => x.1 + 1) (fun _ _ _ => False)
    (fun s => AtEnd v s) ?fI (fun _ _ _ _ h _ => h)
    (fun x _ => { tmps := #[.pointer (some ⟨g, 0, none⟩), .int .i64 t, .pointer (some ⟨w.heap.size, 0, none⟩), undef, .slice none 0 0, .pointer (some ⟨w.heap.size + 1, 0, none⟩), .int .i64 x.1, .pointer (some ⟨g, 0, none⟩), .int .i64 t, .func (.func 56) #[] #[.pointer (some ⟨w.heap.size + 1 + 1, 0, none⟩), .pointer (some ⟨w.heap.size + 1 + 1 + 1, 0, none⟩)], .int .i64 x.1, .agg #[.int .i64 x.2.1, .int .i64 x.2.2], undef, undef, undef, undef, undef, undef, undef, undef, undef, undef, undef], defers := [] })
    (fun s x _ W => FI w (.pointer (some ⟨g, 0, none⟩)) v t s W ∧ s = x.1 ∧ 0 ≤ x.1 ∧ x.1 < v.c.n ∧ tolB v t x.1 = true ∧ x.2.1 = (atA v x.1 t).a ∧ x.2.2 = (atA v x.1 t).b) ?fA ?assign ?body ?iter (fun _ _ _ _ h _ => h) ?done (fun _ _ _ _ _ h _ => h.elim)
  case fI => exact fun s V V' h ht => h.turned HW0.out.1 ht
  case fA => exact fun s x N V V' ⟨h1, h2⟩ ht => ⟨h1.turned HW0.out.1 ht, h2⟩
  case assign =>
    intro l s x W K hP hK
    have hk := hK 0 W (KeepsFrom.refl _ _) hP
    clear hK hP
    gi_wp2
    exact hk
  case body =>
    rintro l s ⟨j, x, y⟩ N W ⟨hI, hs, hj0, hj1, htl, _, _⟩
    show Code.wpIn _ _ _ _ (roundEnds W0.heap.size (FI w (.pointer (some ⟨g, 0, none⟩)) v t) (fun _ _ _ => False) (j + 1) W) _ _
    dsimp only at hs hj0 hj1 htl
    subst hs
    have c1 := hI.bx.cell
    have c10 := (HB.out.1.below hI.bel).at'.node
    by_cases hji : s = v.i
    · have HE : Hid (KeepsFrom (w.heap.size + 4) W W ∧ FI w (.pointer (some ⟨g, 0, none⟩)) v t (s + 1) W) := by
        have e : frU v t (s + 1).toNat = frU v t s.toNat := fr_none hj0 (by rw [hji, at_own]; simp [noA])
        obtain ⟨h1, h2, h3, ⟨sl, h4, h5, h6⟩, h7⟩ := hI
        exact ⟨KeepsFrom.refl _ _, ⟨h1, h2, h3, ⟨sl, h4, by rw [e]; exact h5, h6⟩, h7⟩⟩
      clear hI hI0 hj0 hj1 htl
      obtain ⟨i, hi⟩ : ∃ i, i = v.i := ⟨_, rfl⟩
      rw [← hi] at hji c10
      clear hi
      subst hji
      gi_wp2
      exact ⟨by first | exact HE.out.1 | (rw [HW0.out.2]; exact HE.out.1), HE.out.2⟩
    · obtain ⟨sl, sa, sk, sc, W', q1, hrun, q2, q3, hF, hKF⟩ := hI.put hj0 (by have := HC.out; omega) (tol_yes htl hji)
      have HE : Hid (KeepsFrom (w.heap.size + 4) W (W'.setCell ⟨w.heap.size + 1, 0, none⟩ (.slice sa sk sc)) ∧ FI w (.pointer (some ⟨g, 0, none⟩)) v t (s + 1) (W'.setCell ⟨w.heap.size + 1, 0, none⟩ (.slice sa sk sc))) := ⟨hKF, hF⟩
      have HRN : Hid ((Builtin.append_ #[25, 25] 25 #[sl, .slice (some ⟨W.heap.size, 0, none⟩) 1 1]).run Try.prog (W.alloc (.cells #[.int .i64 s] 3)) = .ok (.slice sa sk sc) W') := hrun
      clear hI hI0 hj0 hj1 htl hrun hF hKF
      obtain ⟨i, hi⟩ : ∃ i, i = v.i := ⟨_, rfl⟩
      rw [← hi] at hji c10
      clear hi
      gi_wp2_with (refine wpListIn_append_run rfl _ _ 25 rfl _ _ _ rfl rfl HRN.out ?_)
      exact ⟨by first | exact HE.out.1 | (rw [HW0.out.2]; exact HE.out.1), HE.out.2⟩
  case iter =>
    intro l W1 hB1 hs1 hl Bk Bx kB hY kX hBk
    exact tell_in 8 l _ _ g m v n HB.out.2 t (FI w (.pointer (some ⟨g, 0, none⟩)) v t) (fun s W W' h hb => h.below hb) (fun s W h => ⟨h.bt.cell, h.bn.cell, HB.out.1.below h.bel⟩)
      (fun s W h h0 h1 htl => by
        obtain ⟨a1, a2, a3, ⟨sl, a4, a5, a6⟩, a7⟩ := h
        exact ⟨a1, a2, a3, ⟨sl, a4, by rw [fr_none h0 (tol_no htl).1]; exact a5, a6⟩, a7⟩)
      Bk Bx (fun W W' h hb => kB W W' h (Below.keepsFrom hb _)) hY W1 hBk (hI0.below hB1)
  case done =>
    rintro D s V hD hs ⟨h1, h2, h3, ⟨sl, h4, h5, h6⟩, h7⟩ hK
    have c1 := h4.cell
    have hs2 : s = v.c.n := hs
    have HE : Hid (Row EI V sl (frU v t v.c.n.toNat) ∧ (∀ k, sl.ownBlock = some k → w.heap.size ≤ k) ∧ Below w.heap.size w V) := ⟨by rw [← hs2]; exact h5, fun k hk => by have := h6 k hk; omega, h7⟩
    have HK2 : Hid (V.heap[D]? = some (.deferred (some []))) := hK
    have hDl := (Array.getElem?_eq_some_iff.1 hK).1
    clear hK hI0 hs hs2 h1 h2 h3 h4 h5 h6 h7
    gi_wp2
    refine ⟨by simp, .inl ⟨_, _, rfl, run_takeDeferred HK2.out, ?_⟩⟩
    refine ⟨_, results_tmp rfl _ _ _, sl, rfl, ?_, HE.out.2.1, ?_⟩
    · exact HE.out.1.putO HK2.out rfl
    · exact HE.out.2.2.trans (belowK_b (w := w) (Nat.le_refl _) V D _ _ (by have := HW0.out; omega) HK2.out rfl rfl)
end Go.Proofs.Ytoibndfiolipbaa
