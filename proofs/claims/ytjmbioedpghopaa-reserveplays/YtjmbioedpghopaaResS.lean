/-
  The document's reserve with its bank and its flash; Take and Born.
-/
import Derived.Test.YtjmbioedpghopaaResR
import Derived.Deep.RegionWith
namespace Go.Proofs.Ytjmbioedpghopaa
open Go.ChangeShapes Go.WideShapes Go.ChangeAt Go.RowKit

/-- A reserve of the document's, its bank and its flash: G is all that they lie in. -/
def RRes (v r A : Nat) (w : World) (V : Nat) (x : RS × VS) (G : Nat → Prop) : Prop :=
  ∃ G0, RK w v r A 12 x.1 G0 ∧ RRC w V v x.2 ∧ ¬ G0 v ∧ ¬ G0 V ∧ v ≠ V ∧ ∀ k, G k ↔ G0 k ∨ k = v ∨ k = V
theorem rres_kept (v r A : Nat) : Kept (RRes v r A) where
  lt := by
    rintro w V ⟨t, u⟩ G ⟨G0, hk, hr, h1, h2, h3, hG⟩ k hk'
    rcases (hG k).1 hk' with h | rfl | rfl
    · exact rf_kept.lt hk.fl k h
    · exact hk.bk.lt
    · exact hr.lt
  keep := by
    rintro w w' V ⟨t, u⟩ G ⟨G0, hk, hr, h1, h2, h3, hG⟩ hsame
    refine ⟨G0, ⟨rf_kept.keep hk.fl fun k h => hsame k ((hG k).2 (.inl h)), ?_, hk.fits, hk.small, hk.len⟩, ?_, h1, h2, h3, hG⟩
    · show w'.heap[v]? = _
      rw [hsame v ((hG v).2 (.inr (.inl rfl)))]; exact hk.bk
    · show w'.heap[V]? = _
      rw [hsame V ((hG V).2 (.inr (.inr rfl)))]; exact hr
/-- The bank alone. -/
def RB (r A : Nat) (w : World) (v : Nat) (t : RS) (G : Nat → Prop) : Prop := ∃ G0, RK w v r A 12 t G0 ∧ ¬ G0 v ∧ ∀ k, G k ↔ G0 k ∨ k = v
theorem rb_kept (r A : Nat) : Kept (RB r A) where
  lt := by
    rintro w v t G ⟨G0, hk, h1, hG⟩ k hk'
    rcases (hG k).1 hk' with h | rfl
    · exact rf_kept.lt hk.fl k h
    · exact hk.bk.lt
  keep := by
    rintro w w' v t G ⟨G0, hk, h1, hG⟩ hsame
    refine ⟨G0, ⟨rf_kept.keep hk.fl fun k h => hsame k ((hG k).2 (.inl h)), ?_, hk.fits, hk.small, hk.len⟩, h1, hG⟩
    show w'.heap[v]? = _
    rw [hsame v ((hG v).2 (.inr rfl))]; exact hk.bk
theorem RRes.bank {v r A : Nat} {w : World} {V : Nat} {t : RS} {u : VS} {G : Nat → Prop} (h : RRes v r A w V (t, u) G) : ∃ G1, RB r A w v t G1 ∧ ∀ k, G1 k → G k := by
  obtain ⟨G0, hk, _, h1, _, _, hG⟩ := h
  refine ⟨fun k => G0 k ∨ k = v, ⟨G0, hk, h1, fun _ => Iff.rfl⟩, fun k h => (hG k).2 ?_⟩
  rcases h with h | h
  · exact .inl h
  · exact .inr (.inl h)
theorem RRes.act {v r A : Nat} {w w' : World} {V : Nat} {t t' : RS} {u : VS} {G G0 : Nat → Prop} (hk : RK w v r A 12 t G0) (hr : RRC w V v u) (h1 : ¬ G0 v) (h2 : ¬ G0 V) (h3 : v ≠ V) (hG : ∀ k, G k ↔ G0 k ∨ k = v ∨ k = V) (hl : Left RF w G0 r t' w') (hs : t'.b.length = t.b.length) : Left (RRes v r A) w G V (t', u) w' := by
  obtain ⟨G1, hp, ha, hf⟩ := id hl
  have hvl := hk.bk.lt
  have hVl := hr.lt
  have n1 : ∀ k, k < w.heap.size → ¬ G0 k → ¬ G1 k := fun k hk' hn h => by
    rcases hf k h with h | h
    · exact hn h
    · omega
  refine ⟨fun k => G1 k ∨ k = v ∨ k = V, ⟨G1, ⟨hp, hl.rba hk.bk h1, by rw [hs]; exact hk.fits, hk.small, by rw [hs]; exact hk.len⟩, ?_, n1 v hvl h1, n1 V hVl h2, h3, fun _ => Iff.rfl⟩, ha.mono fun k hk' => (hG k).2 (.inl hk'), fun k hk' => ?_⟩
  · show w'.heap[V]? = _
    rw [ha.block V hVl h2]; exact hr
  · rcases hk' with h | h | h
    · rcases hf k h with h' | h'
      · exact .inl ((hG k).2 (.inl h'))
      · exact .inr h'
    · exact .inl ((hG k).2 (.inr (.inl h)))
    · exact .inl ((hG k).2 (.inr (.inr h)))
theorem RSaved.res {v r A : Nat} {w w' : World} {V : Nat} {t T : RS} {u u' : VS} {G G0 : Nat → Prop} (hk : RK w v r A 12 t G0) (hr : RRC w V v u) (h1 : ¬ G0 v) (h2 : ¬ G0 V) (h3 : v ≠ V) (hG : ∀ k, G k ↔ G0 k ∨ k = v ∨ k = V) (hs : T.b.length = t.b.length) (hl : RSaved w G0 V v r A T u' w') : Left (RRes v r A) w G V (T, u') w' := by
  obtain ⟨G1, hp, hba, hrc, ha, hf⟩ := hl
  have hvl := hk.bk.lt
  have hVl := hr.lt
  have n1 : ∀ k, k < w.heap.size → ¬ G0 k → ¬ G1 k := fun k hk' hn h => by
    rcases hf k h with h | h
    · exact hn h
    · omega
  refine ⟨fun k => G1 k ∨ k = v ∨ k = V, ⟨G1, ⟨hp, hba, by rw [hs]; exact hk.fits, hk.small, by rw [hs]; exact hk.len⟩, hrc, n1 v hvl h1, n1 V hVl h2, h3, fun _ => Iff.rfl⟩, ha.mono fun k hk' => (hG k).2 ?_, fun k hk' => ?_⟩
  · rcases hk' with h | h
    · exact .inl h
    · exact .inr (.inr h)
  · rcases hk' with h | h | h
    · rcases hf k h with h' | h'
      · exact .inl ((hG k).2 (.inl h'))
      · exact .inr h'
    · exact .inl ((hG k).2 (.inr (.inl h)))
    · exact .inl ((hG k).2 (.inr (.inr h)))
theorem RSaved.same {v r A : Nat} {w w' : World} {V : Nat} {t : RS} {u : VS} {G : Nat → Prop} (hk : RK w v r A 12 t G) (hr : RRC w V v u) (hb : Below w.heap.size w w') : RSaved w G V v r A t u w' :=
  ⟨G, rf_kept.below hk.fl hb, hk.bk.below hb, hr.below hb, Apart.of_below hb, fun _ h => .inl h⟩
theorem RSaved.least {v r A : Nat} {w w' : World} {V : Nat} {t : RS} {u : VS} {G : Nat → Prop} (h : RSaved w G V v r A t u w') (h2 : ¬ G V) (h3 : v ≠ V) (hV : V < w.heap.size) (n : Nat) : RSaved w G V v r A t { u with least := n } (w'.setCell ⟨V, 4, none⟩ (.int .i64 (n : Int))) := by
  obtain ⟨G1, hp, hba, hrc, ha, hf⟩ := h
  have hV1 : ¬ G1 V := fun h => by
    rcases hf V h with h1 | h1
    · exact h2 h1
    · omega
  refine ⟨G1, rf_kept.keep hp fun k hk => heap_setCell_other _ _ _ _ (fun e => hV1 (by have e' : k = V := e; exact e' ▸ hk)), ?_, hrc.setLeast n, ha.setCell (.inl (.inr rfl)) _ _, hf⟩
  show (w'.setCell ⟨V, 4, none⟩ (.int .i64 (n : Int))).heap[v]? = _
  rw [heap_setCell_other _ _ _ _ (by show v ≠ V; exact h3)]; exact hba
theorem RSaved.prior {v r A : Nat} {w w1 w' : World} {V : Nat} {t : RS} {u : VS} {G : Nat → Prop} (h : RSaved w1 G V v r A t u w') (hb : Below w.heap.size w w1) : RSaved w G V v r A t u w' := by
  obtain ⟨G1, hp, hba, hrc, ha, hf⟩ := h
  refine ⟨G1, hp, hba, hrc, (Apart.of_below hb).trans ha (fun _ h => .inl h), fun k hk => ?_⟩
  rcases hf k hk with h | h
  · exact .inl h
  · have := hb.size; exact .inr (by omega)

set_option maxHeartbeats 3200000 in
set_option maxRecDepth 20000 in
theorem rborn_ok (v r A : Nat) (w : World) (V : Nat) (t : RS) (u : VS) (G : Nat → Prop) (h : RRes v r A w V (t, u) G) (hu : u.ok) (hn : t.n ≤ 999990) (e0 : Nat) (he0 : e0 = rsaveE t A 12 (recL (u.inc + 1) u.mark)) (t0 : RS) (ht0 : t0 = rsaveT t A 12 (recL (u.inc + 1) u.mark))
    (E : Nat) (hE : E = bnE u e0) (T : RS) (hT : T = bnS u t t0) (U : VS) (hU : U = bnV u e0) :
    Calls Try.prog 19 #[.pointer (some ⟨V, 0, none⟩)] w fun e w' => e = .returned (.int .i64 (E : Int)) ∧ Left (RRes v r A) w G V (T, U) w' := by
  have HL : Hid (Left (RRes v r A) w G V (t, u) w) := Left.same (rres_kept v r A) h (Below.refl _ _)
  obtain ⟨G0, hk, hr, h1, h2, h3, hG⟩ := h
  have c2 := hr.c2
  have c3 := hr.c3
  have hi1 := hu.i1
  by_cases hi : u.inc = 65535
  · have HE : Hid (E = 9 ∧ T = t ∧ U = u) := by show _ ∧ _ ∧ _; rw [hE, hT, hU, bnE, bnS, bnV, if_pos hi, if_pos hi, if_pos hi]; exact ⟨rfl, rfl, rfl⟩
    rw [hi] at c2
    rw [show ((65535 : Nat) : Int) = 65535 from rfl] at c2
    clear hk hr hG hE hT hU he0 ht0 hi hu
    go_enter Try.func19, Try.ntmps19
    go_wp2
    go_ret
    exact ⟨by rw [HE.out.1]; rfl, by rw [HE.out.2.1, HE.out.2.2]; exact HL.out⟩
  · obtain ⟨x, hx⟩ : ∃ x, x = u.inc + 1 := ⟨_, rfl⟩
    obtain ⟨y, hy⟩ : ∃ y, y = u.mark := ⟨_, rfl⟩
    have hsv : Calls Try.prog 39 #[.pointer (some ⟨V, 0, none⟩), .int .i64 (x : Int), .int .i64 (y : Int)] w.drew fun e w' => e = .returned (.int .i64 (E : Int)) ∧ RSaved w.drew G0 V v r A T U w' := by
      have hkd : RK w.drew v r A 12 t G0 := hk.below (Below.refl _ _).drew
      have hrd : RRC w.drew V v u := hr
      by_cases ho : u.over = true
      · refine (rrsave_over w.drew V v u hrd ho _ _).mono ?_
        rintro e w' ⟨rfl, rfl⟩
        rw [hE, hT, hU, bnE, bnS, bnV, if_neg hi, if_neg hi, if_neg hi, if_pos ho, if_pos ho, if_pos ho]
        exact ⟨rfl, RSaved.same hkd hrd (Below.refl _ _)⟩
      · have ho' : u.over = false := by simpa using ho
        refine rrsave_new w.drew V v r A t G0 u hkd h1 h2 h3 hrd ho' hn x y (by omega) (by have := hu.m1; omega) E ?_ T ?_ U ?_
        · rw [hE, bnE, if_neg hi, if_neg ho, he0, hx, hy]
        · rw [hT, bnS, if_neg hi, if_neg ho, ht0, hx, hy]
        · rw [hU, bnV, if_neg hi, if_neg ho, hE, bnE, if_neg hi, if_neg ho, hx, hy]
    have HS : Hid (∀ w', RSaved w.drew G0 V v r A T U w' → Left (RRes v r A) w G V (T, U) w') := fun w' hl =>
      (hl.prior (Below.refl w.heap.size w).drew).res hk hr h1 h2 h3 hG (by
        rw [hT, bnS]
        repeat' split
        all_goals first | rfl | (rw [ht0, rsave_len]))
    obtain ⟨i, hii⟩ : ∃ i, i = u.inc := ⟨_, rfl⟩
    rw [← hii] at c2
    rw [← hy] at c3
    have d0 : ¬ (65535 : Int) ≤ (i : Int) := by omega
    have e1 : (i : Int) + 1 = (x : Int) := by omega
    have e2 : IntKind.i64.wrap (x : Int) = (x : Int) := by rw [IntKind.wrap_i64]; omega
    clear hk hr hG hE hT hU he0 ht0 hi hu HL hx hy hii hi1
    go_enter Try.func19, Try.ntmps19
    go_upto_region 3 with fail
    go_region_with (go_at_call 39; refine hsv.mono ?_; rintro e w2 ⟨rfl, hl2⟩)
    all_goals (
      have HL2 : Hid (Left (RRes v r A) w G V (T, U) w2) := HS.out w2 hl2
      clear hsv hl2 HS
      go_wp2
      go_ret
      exact ⟨rfl, HL2.out⟩)
end Go.Proofs.Ytjmbioedpghopaa
