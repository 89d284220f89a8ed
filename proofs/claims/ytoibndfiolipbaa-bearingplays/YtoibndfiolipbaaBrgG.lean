/-
  The contracts of Near and of Offsets, the program's: ranges over told.
-/
import Derived.Test.YtoibndfiolipbaaBrgF
namespace Go.Proofs.Ytoibndfiolipbaa
open Go.ChangeShapes Go.WideShapes Go.ChangeAt Go.RowKit

/-- Between two rounds of Near. -/
structure NI (w : World) (p : Value) (v : Bt) (t s : Int) (W : World) : Prop where
  bx : Boxed W w.heap.size 28 p
  ct : Boxed W (w.heap.size + 1) 3 (.int .i64 (neU v t s.toNat))
  bt : Boxed W (w.heap.size + 2) 28 p
  bn : Boxed W (w.heap.size + 3) 2 (.int .i64 t)
  bel : Below w.heap.size w W
theorem NI.turned {w : World} {p : Value} {v : Bt} {t s : Int} {W W' : World} {B : Nat} (h : NI w p v t s W) (hB : w.heap.size ≤ B) (ht : Turned B W W') : NI w p v t s W' :=
  ⟨ht.boxed h.bx, ht.boxed h.ct, ht.boxed h.bt, ht.boxed h.bn, ht.below h.bel hB⟩
theorem NI.below {w : World} {p : Value} {v : Bt} {t s : Int} {W W' : World} (h : NI w p v t s W) (hb : Below W.heap.size W W') : NI w p v t s W' :=
  ⟨Boxed.below h.bx hb, Boxed.below h.ct hb, Boxed.below h.bt hb, Boxed.below h.bn hb, h.bel.trans (hb.mono h.bel.size)⟩
theorem NI.next {w : World} {p : Value} {v : Bt} {t s r : Int} {W : World} (h : NI w p v t s W) (he : neU v t r.toNat = neU v t s.toNat) : NI w p v t r W :=
  ⟨h.bx, by rw [he]; exact h.ct, h.bt, h.bn, h.bel⟩
theorem NI.set {w : World} {p : Value} {v : Bt} {t s r z : Int} {W : World} (h : NI w p v t s W) (he : neU v t r.toNat = z) : NI w p v t r (W.setCell ⟨w.heap.size + 1, 0, none⟩ (.int .i64 z)) :=
  ⟨Boxed.aside h.bx (by omega) _, by rw [he]; exact h.ct.set _, Boxed.aside h.bt (by omega) _, Boxed.aside h.bn (by omega) _, h.bel.setCell (p := ⟨w.heap.size + 1, 0, none⟩) (by show w.heap.size ≤ w.heap.size + 1; omega) _⟩
theorem ne_step {v : Bt} {t s : Int} (h0 : 0 ≤ s) : neU v t (s + 1).toNat = neU v t s.toNat + (if s = v.i then 1 else if (atA v s t).e = 0 ∧ inB v.c (atA v s t) = true then 1 else 0) := by
  obtain ⟨k, rfl⟩ : ∃ k : Nat, s = (k : Int) := ⟨s.toNat, by omega⟩
  rw [show ((k : Int) + 1).toNat = k + 1 by omega, Int.toNat_natCast, neU]
theorem ne_in (v : Bt) (t : Int) : ∀ k : Nat, 0 ≤ neU v t k ∧ neU v t k ≤ k
  | 0 => by simp [neU]
  | k + 1 => by
    have ih := ne_in v t k
    have hc : ((k + 1 : Nat) : Int) = (k : Int) + 1 := by omega
    rw [neU, hc]
    split
    · omega
    · split <;> omega
/-- What a round of Near adds. -/
theorem ne_told {v : Bt} (ok : v.ok) {t s : Int} (h0 : 0 ≤ s) (htl : tolB v t s = true) : neU v t (s + 1).toNat = neU v t s.toNat + (if insideB (atA v s t).a (atA v s t).b v.c.e = true then 1 else 0) := by
  rw [ne_step h0]
  by_cases hi : s = v.i
  · have he := (right_of ok.r).e0
    have : insideB (atA v s t).a (atA v s t).b v.c.e = true := by
      rw [hi, at_own]
      show insideB 0 0 v.c.e = true
      have h1 : rightB 0 0 = true := by decide
      simp only [insideB, h1, Bool.true_and]
      exact decide_eq_true ⟨by omega, by omega, by omega⟩
    rw [if_pos hi, if_pos this]
  · rw [if_neg hi]
    have h1 := tol_yes htl hi
    have h2 : inB v.c (atA v s t) = insideB (atA v s t).a (atA v s t).b v.c.e := rfl
    rw [h2]
    cases insideB (atA v s t).a (atA v s t).b v.c.e
    · rw [if_neg (by simp), if_neg (by simp)]
    · rw [if_pos ⟨h1, rfl⟩, if_pos rfl]

/-- Between two rounds of Offsets. -/
structure OI (w : World) (p : Value) (v : Bt) (t s : Int) (W : World) : Prop where
  bt : Boxed W (w.heap.size + 1) 28 p
  bn : Boxed W (w.heap.size + 2) 2 (.int .i64 t)
  row : ∃ sl, Boxed W w.heap.size 26 sl ∧ Row EV W sl (ofU v t s.toNat) ∧ ∀ k, sl.ownBlock = some k → w.heap.size + 3 ≤ k
  bel : Below w.heap.size w W
theorem OI.turned {w : World} {p : Value} {v : Bt} {t s : Int} {W W' : World} {B : Nat} (h : OI w p v t s W) (hB : w.heap.size ≤ B) (ht : Turned B W W') : OI w p v t s W' := by
  obtain ⟨h2, h3, ⟨sl, h4, h5, h6⟩, h7⟩ := h
  exact ⟨ht.boxed h2, ht.boxed h3, ⟨sl, ht.boxed h4, ht.row h5, h6⟩, ht.below h7 hB⟩
theorem OI.below {w : World} {p : Value} {v : Bt} {t s : Int} {W W' : World} (h : OI w p v t s W) (hb : Below W.heap.size W W') : OI w p v t s W' := by
  obtain ⟨h2, h3, ⟨sl, h4, h5, h6⟩, h7⟩ := h
  exact ⟨Boxed.below h2 hb, Boxed.below h3 hb, ⟨sl, Boxed.below h4 hb, h5.below hb, h6⟩, h7.trans (hb.mono h7.size)⟩
theorem OI.next {w : World} {p : Value} {v : Bt} {t s r : Int} {W : World} (h : OI w p v t s W) (he : ofU v t r.toNat = ofU v t s.toNat) : OI w p v t r W := by
  obtain ⟨h2, h3, ⟨sl, h4, h5, h6⟩, h7⟩ := h
  exact ⟨h2, h3, ⟨sl, h4, by rw [he]; exact h5, h6⟩, h7⟩
theorem of_step {v : Bt} {t s : Int} (h0 : 0 ≤ s) : ofU v t (s + 1).toNat = ofU v t s.toNat ++ (if s = v.i then [(0, 0)] else if (atA v s t).e = 0 then [((atA v s t).a, (atA v s t).b)] else []) := by
  obtain ⟨k, rfl⟩ : ∃ k : Nat, s = (k : Int) := ⟨s.toNat, by omega⟩
  rw [show ((k : Int) + 1).toNat = k + 1 by omega, Int.toNat_natCast, ofU]
theorem of_len (v : Bt) (t : Int) : ∀ k : Nat, (ofU v t k).length ≤ k
  | 0 => by simp [ofU]
  | k + 1 => by
    have := of_len v t k
    rw [ofU, List.length_append]
    split
    · simp; omega
    · split <;> simp <;> omega
theorem of_told {v : Bt} {t s : Int} (h0 : 0 ≤ s) (htl : tolB v t s = true) : ofU v t (s + 1).toNat = ofU v t s.toNat ++ [((atA v s t).a, (atA v s t).b)] := by
  rw [of_step h0]
  by_cases hi : s = v.i
  · rw [if_pos hi, hi, at_own]; rfl
  · rw [if_neg hi, if_pos (tol_yes htl hi)]
theorem of_none {v : Bt} {t s : Int} (h0 : 0 ≤ s) (htl : tolB v t s = false) : ofU v t (s + 1).toNat = ofU v t s.toNat := by
  rw [of_step h0, if_neg (tol_no htl).2, if_neg (tol_no htl).1, List.append_nil]
theorem ne_none {v : Bt} {t s : Int} (h0 : 0 ≤ s) (htl : tolB v t s = false) : neU v t (s + 1).toNat = neU v t s.toNat := by
  rw [ne_step h0, if_neg (tol_no htl).2, if_neg (by rintro ⟨h, _⟩; exact (tol_no htl).1 h), Int.add_zero]
theorem OI.put {w : World} {p : Value} {v : Bt} {t s : Int} {W : World} (h : OI w p v t s W) (h0 : 0 ≤ s) (h8 : s ≤ 8) (htl : tolB v t s = true) :
    ∃ sl sa sk sc W', W.cell? ⟨w.heap.size, 0, none⟩ = some sl ∧ (Builtin.append_ #[26, 26] 26 #[sl, .slice (some ⟨W.heap.size, 0, none⟩) 1 1]).run Try.prog (W.alloc (.cells #[.int .i64 (atA v s t).a, .int .i64 (atA v s t).b] 39)) = .ok (.slice sa sk sc) W' ∧
      W'.cell? ⟨w.heap.size, 0, none⟩ = some sl ∧ W'.frozen? ⟨w.heap.size, 0, none⟩ = false ∧
      OI w p v t (s + 1) (W'.setCell ⟨w.heap.size, 0, none⟩ (.slice sa sk sc)) ∧ KeepsFrom (w.heap.size + 3) W (W'.setCell ⟨w.heap.size, 0, none⟩ (.slice sa sk sc)) := by
  obtain ⟨h2, h3, ⟨sl, h4, h5, h6⟩, h7⟩ := h
  have hlen := of_len v t s.toNat
  have hp := (Pair.new W (atA v s t).a (atA v s t).b).facts
  obtain ⟨sl', W', hrun, hr, ha, ho⟩ := (h5.alloc (.cells #[.int .i64 (atA v s t).a, .int .i64 (atA v s t).b] 39)).pushV (by omega) ((atA v s t).a, (atA v s t).b) W.heap.size hp.1 hp.2.1
  obtain ⟨sa, sc, hsl, _⟩ := hr.shape
  have ha2 : Apart (fun k => sl.ownBlock = some k) W W' := (Apart.of_below (Go.Joins.below_alloc1 W (.cells #[.int .i64 (atA v s t).a, .int .i64 (atA v s t).b] 39))).trans ha (fun i hi => .inl hi)
  have hs : ∀ b, b < w.heap.size + 3 → sl.ownBlock ≠ some b := fun b hb e => by have := h6 b e; omega
  have hs' : ∀ k, sl'.ownBlock = some k → w.heap.size + 3 ≤ k := fun k hk => by
    rcases ho k hk with h | h
    · exact h6 k h
    · have := h3.lt; simp at h; omega
  have b1 := Boxed.apart h4 ha2 (hs _ (by omega))
  subst hsl
  refine ⟨sl, sa, _, sc, W', h4.cell, hrun, b1.cell, b1.frozen, ⟨?_, ?_, ⟨_, b1.set _, ?_, hs'⟩, ?_⟩, ?_⟩
  · exact Boxed.aside (Boxed.apart h2 ha2 (hs _ (by omega))) (by omega) _
  · exact Boxed.aside (Boxed.apart h3 ha2 (hs _ (by omega))) (by omega) _
  · rw [of_told h0 htl]
    exact hr.aside (fun e => by have := hs' _ e; omega) _
  · exact (ha2.below h7 (fun k hk => by have := h6 k hk; omega) h7.size).setCell (p := ⟨w.heap.size, 0, none⟩) (Nat.le_refl _) _
  · refine (keeps_apart ha2 fun k hk _ => ?_).trans ((KeepsOthers.setCell _ _ _).from _)
    obtain ⟨cur, hc, _⟩ := h5.isRow hk
    exact ⟨cur, _, _, hc⟩
theorem Pair.turned {B : Nat} {W W' : World} {g : Nat} {a b : Int} (ht : Turned B W W') (h : Pair W g a b) : Pair W' g a b := ht.block h rfl
end Go.Proofs.Ytoibndfiolipbaa

namespace Go.Proofs.Ytoibndfiolipbaa
open Go.ChangeShapes Go.WideShapes Go.ChangeAt Go.RowKit Go.Shelf
attribute [local go_sem] Oper.semAt_some

set_option maxRecDepth 100000 in
set_option maxHeartbeats 4000000 in
set_option maxRecDepth 20000 in
theorem offs_ok (w : World) (g m : Nat) (v : Bt) (n : Nat) (h : Bd w g m v n) (ok : v.ok) (t : Int) :
    Calls Try.prog 22 #[.pointer (some ⟨g, 0, none⟩), .int .i64 t] w fun e w' => ∃ sl, e = .returned sl ∧ Row EV w' sl (ofU v t v.c.n.toNat) ∧ (∀ k, sl.ownBlock = some k → w.heap.size ≤ k) ∧ Below w.heap.size w w' := by
  have hr := right_of ok.r
  have HC : Hid (0 ≤ v.c.n ∧ v.c.n ≤ 8) := ⟨by have := hr.n0; omega, hr.n1⟩
  have HB : Hid (Bd w g m v n ∧ v.ok) := ⟨h, ok⟩
  have KT := told_ok (w.alloc (.cells #[.slice none 0 0] 26)) (.pointer (some ⟨g, 0, none⟩)) rfl t
  rw [World.size_alloc] at KT
  clear h ok hr
  refine (callsIn_wide (n := 9)).1 ?_
  refine callsIn_of_wp_marks Try.func22 rfl trivial ?_ rfl
  simp only [Try.ntmps22, List.size_toArray, List.length_cons, List.length_nil, Nat.reduceAdd, Nat.reduceSub, Array.replicate_succ, Array.replicate_zero, List.push_toArray, List.append_toArray, List.nil_append, List.cons_append]
  gi_wp2
  refine ⟨trivial, (callsIn_wide.2 KT).mono ?_⟩
  rintro e w' ⟨rfl, hw'⟩
  rw [hw']
  clear KT hw' w'
  gi_wp2
  obtain ⟨W0, hW0⟩ : ∃ W0, W0 = ((w.alloc (.cells #[.slice none 0 0] 26)).alloc (.cells #[.pointer (some ⟨g, 0, none⟩)] 28)).alloc (.cells #[.int .i64 t] 2) := ⟨_, rfl⟩
  have hsz : W0.heap.size = w.heap.size + 3 := by rw [hW0]; simp
  have hI0 : OI w (.pointer (some ⟨g, 0, none⟩)) v t 0 W0 := by
    have a1 := Boxed.new w 26 (.slice none 0 0)
    have a2 := Boxed.new (w.alloc (.cells #[.slice none 0 0] 26)) 28 (.pointer (some ⟨g, 0, none⟩))
    have a3 := Boxed.new ((w.alloc (.cells #[.slice none 0 0] 26)).alloc (.cells #[.pointer (some ⟨g, 0, none⟩)] 28)) 2 (.int .i64 t)
    rw [World.size_alloc] at a2
    rw [World.size_alloc, World.size_alloc] at a3
    rw [hW0]
    exact ⟨a2.alloc _, a3, ⟨_, (a1.alloc _).alloc _, Row.nil _ _, fun k hk => by cases hk⟩, Go.Joins.below_alloc3 _ _ _ _⟩
  rw [← hW0]
  have HW0 : Hid (w.heap.size ≤ W0.heap.size ∧ W0.heap.size = w.heap.size + 3) := ⟨by omega, hsz⟩
  clear hW0 hsz
  refine range_own 56 #[.pointer (some ⟨w.heap.size + 1, 0, none⟩), .pointer (some ⟨w.heap.size + 1 + 1, 0, none⟩)] rfl (enters_of Try.func56 (by kernel_rfl) rfl)
    (fun x : Int × Int × Int => #[.int .i64 x.1, .agg #[.int .i64 x.2.1, .int .i64 x.2.2]]) (fun _ => rfl) (OI w (.pointer (some ⟨g, 0, none⟩)) v t) (fun s x W => OI w (.pointer (some ⟨g, 0, none⟩)) v t s W ∧ s = x.1 ∧ 0 ≤ x.1 ∧ x.1 < v.c.n ∧ tolB v t x.1 = true ∧ x.2.1 = (atA v x.1 t).a ∧ x.2.2 = (atA v x.1 t).b) (fun _ x => x.1 + 1) (fun _ _ _ => False)
    (fun s => AtEnd v s) ?fI (fun _ _ _ _ h _ => h)
    (fun x N => { tmps := #[.pointer (some ⟨g, 0, none⟩), .int .i64 t, undef, undef, .slice none 0 0, .pointer (some ⟨w.heap.size, 0, none⟩), undef, .pointer (some ⟨N, 0, none⟩), .pointer (some ⟨g, 0, none⟩), .int .i64 t, .func (.func 56) #[] #[.pointer (some ⟨w.heap.size + 1, 0, none⟩), .pointer (some ⟨w.heap.size + 1 + 1, 0, none⟩)], .int .i64 x.1, .agg #[.int .i64 x.2.1, .int .i64 x.2.2], undef, undef, undef, undef, undef], defers := [] })
    (fun s x N W => (OI w (.pointer (some ⟨g, 0, none⟩)) v t s W ∧ Pair W N x.2.1 x.2.2) ∧ s = x.1 ∧ 0 ≤ x.1 ∧ x.1 < v.c.n ∧ tolB v t x.1 = true ∧ x.2.1 = (atA v x.1 t).a ∧ x.2.2 = (atA v x.1 t).b) ?fA ?assign ?body ?iter (fun _ _ _ _ h _ => h) ?done (fun _ _ _ _ _ h _ => h.elim)
  case fI => exact fun s V V' h ht => h.turned HW0.out.1 ht
  case fA => exact fun s x N V V' ⟨⟨h1, h3⟩, h2⟩ ht => ⟨⟨h1.turned HW0.out.1 ht, Pair.turned ht h3⟩, h2⟩
  case assign =>
    intro l s x W K hP hK
    have hk := hK W.heap.size (W.alloc (.cells #[.int .i64 x.2.1, .int .i64 x.2.2] 39)) (Below.keepsFrom (Go.Joins.below_alloc1 _ _) _) ⟨⟨hP.1.below (Go.Joins.below_alloc1 _ _), Pair.new _ _ _⟩, hP.2⟩
    clear hK hP
    gi_wp2
    exact hk
  case body =>
    rintro l s ⟨j, x, y⟩ N W ⟨⟨hI, hP⟩, hs, hj0, hj1, htl, hx, hy⟩
    show Code.wpIn _ _ _ _ (roundEnds W0.heap.size (OI w (.pointer (some ⟨g, 0, none⟩)) v t) (fun _ _ _ => False) (j + 1) W) _ _
    dsimp only at hs hj0 hj1 htl hx hy hP ⊢
    subst hs
    obtain ⟨y0, y1, y2, y3⟩ := hP.facts
    obtain ⟨sl, sa, sk, sc, W', q1, hrun, q2, q3, hF, hKF⟩ := hI.put hj0 (by have := HC.out; omega) htl
    rw [← hx, ← hy] at hrun
    have HE : Hid (KeepsFrom (w.heap.size + 3) W (W'.setCell ⟨w.heap.size, 0, none⟩ (.slice sa sk sc)) ∧ OI w (.pointer (some ⟨g, 0, none⟩)) v t (s + 1) (W'.setCell ⟨w.heap.size, 0, none⟩ (.slice sa sk sc))) := ⟨hKF, hF⟩
    have HRN : Hid ((Builtin.append_ #[26, 26] 26 #[sl, .slice (some ⟨W.heap.size, 0, none⟩) 1 1]).run Try.prog (W.alloc (.cells #[.int .i64 x, .int .i64 y] 39)) = .ok (.slice sa sk sc) W') := hrun
    clear hI hI0 hj0 hj1 htl hrun hF hKF hP hx hy
    gi_wp2_with (refine wpListIn_append_run rfl _ _ 26 rfl _ _ _ rfl rfl HRN.out ?_)
    exact ⟨by first | exact HE.out.1 | (rw [HW0.out.2]; exact HE.out.1), HE.out.2⟩
  case iter =>
    intro l W1 hB1 hs1 hl Bk Bx kB hY kX hBk
    exact tell_in 8 l _ _ g m v n HB.out.2 t (OI w (.pointer (some ⟨g, 0, none⟩)) v t) (fun s W W' h hb => h.below hb) (fun s W h => ⟨h.bt.cell, h.bn.cell, HB.out.1.below h.bel⟩)
      (fun s W h h0 h1 htl => h.next (of_none h0 htl))
      Bk Bx (fun W W' h hb => kB W W' h (Below.keepsFrom hb _)) hY W1 hBk (hI0.below hB1)
  case done =>
    rintro D s V hD hs ⟨h2, h3, ⟨sl, h4, h5, h6⟩, h7⟩ hK
    have c1 := h4.cell
    have hs2 : s = v.c.n := hs
    have HE : Hid (Row EV V sl (ofU v t v.c.n.toNat) ∧ (∀ k, sl.ownBlock = some k → w.heap.size ≤ k) ∧ Below w.heap.size w V) := ⟨by rw [← hs2]; exact h5, fun k hk => by have := h6 k hk; omega, h7⟩
    have HK2 : Hid (V.heap[D]? = some (.deferred (some []))) := hK
    clear hK hI0 hs hs2 h2 h3 h4 h5 h6 h7
    gi_wp2
    refine ⟨by simp, .inl ⟨_, _, rfl, run_takeDeferred HK2.out, ?_⟩⟩
    refine ⟨_, results_tmp rfl _ _ _, sl, rfl, HE.out.1.putO HK2.out rfl, HE.out.2.1, ?_⟩
    exact HE.out.2.2.trans (belowK_b (w := w) (Nat.le_refl _) V D _ _ (by have := HW0.out; omega) HK2.out rfl rfl)

end Go.Proofs.Ytoibndfiolipbaa
