/-
  A reserve with its bank and its flash; Take and Born.
-/
import Derived.Test.YtjmbioedpghopaaResD
namespace Go.Proofs.Ytjmbioedpghopaa
open Go.ChangeShapes Go.WideShapes Go.ChangeAt Go.RowKit

theorem Left.prior {σ : Type} {M : World → Nat → σ → (Nat → Prop) → Prop} {w w1 w2 : World} {F : Nat → Prop} {R : Nat} {x : σ} (h : Left M w1 F R x w2) (hb : Below w.heap.size w w1) : Left M w F R x w2 := by
  obtain ⟨F', h1, h2, h3⟩ := h
  refine ⟨F', h1, (Apart.of_below (F := F) hb).trans h2 (fun _ hi => .inl hi), fun k hk => ?_⟩
  rcases h3 k hk with h | h
  · exact .inl h
  · have := hb.size; exact .inr (by omega)
theorem Left.later {σ : Type} {M : World → Nat → σ → (Nat → Prop) → Prop} (hM : Kept M) {w w1 w2 : World} {F : Nat → Prop} {R : Nat} {x : σ} (h : Left M w F R x w1) (hb : Below w1.heap.size w1 w2) : Left M w F R x w2 := by
  obtain ⟨F', h1, h2, h3⟩ := h
  exact ⟨F', hM.below h1 hb, h2.trans (Apart.of_below (F := F) hb) (fun _ hi => .inl hi), h3⟩
theorem Left.same {σ : Type} {M : World → Nat → σ → (Nat → Prop) → Prop} (hM : Kept M) {w w1 : World} {F : Nat → Prop} {R : Nat} {x : σ} (h : M w R x F) (hb : Below w.heap.size w w1) : Left M w F R x w1 :=
  ⟨F, hM.below h hb, Apart.of_below hb, fun _ h => .inl h⟩

/-- A reserve, its bank and its flash: F is all that they lie in. -/
def Res (g A : Nat) (w : World) (R : Nat) (x : PS × VS) (F : Nat → Prop) : Prop :=
  ∃ b F0, BK w b g A 12 x.1 F0 ∧ RC w R b x.2 ∧ ¬ F0 b ∧ ¬ F0 R ∧ b ≠ R ∧ ∀ k, F k ↔ F0 k ∨ k = b ∨ k = R
theorem res_kept (g A : Nat) : Kept (Res g A) where
  lt := by
    rintro w R ⟨s, v⟩ F ⟨b, F0, hk, hr, h1, h2, h3, hF⟩ k hk'
    rcases (hF k).1 hk' with h | rfl | rfl
    · exact pf_kept.lt hk.fl k h
    · exact hk.bk.lt
    · exact hr.lt
  keep := by
    rintro w w' R ⟨s, v⟩ F ⟨b, F0, hk, hr, h1, h2, h3, hF⟩ hsame
    refine ⟨b, F0, ⟨pf_kept.keep hk.fl fun k h => hsame k ((hF k).2 (.inl h)), ?_, hk.fits, hk.small, hk.len⟩, ?_, h1, h2, h3, hF⟩
    · show w'.heap[b]? = _
      rw [hsame b ((hF b).2 (.inr (.inl rfl)))]; exact hk.bk
    · show w'.heap[R]? = _
      rw [hsame R ((hF R).2 (.inr (.inr rfl)))]; exact hr
theorem Res.flash {g A : Nat} {w : World} {R : Nat} {s : PS} {v : VS} {F : Nat → Prop} (h : Res g A w R (s, v) F) : ∃ F0, PF w g s F0 ∧ ∀ k, F0 k → F k := by
  obtain ⟨b, F0, hk, _, _, _, _, hF⟩ := h
  exact ⟨F0, hk.fl, fun k h => (hF k).2 (.inl h)⟩
theorem Res.fits {g A : Nat} {w : World} {R : Nat} {s : PS} {v : VS} {F : Nat → Prop} (h : Res g A w R (s, v) F) : A + 40 ≤ s.b.length ∧ s.b.length ≤ 4096 := by
  obtain ⟨b, F0, hk, _⟩ := h
  exact ⟨hk.fits, hk.len⟩
/-- An act on the flash alone. -/
theorem Res.act {g A : Nat} {w w' : World} {R b : Nat} {s s' : PS} {v : VS} {F F0 : Nat → Prop} (hk : BK w b g A 12 s F0) (hr : RC w R b v) (h1 : ¬ F0 b) (h2 : ¬ F0 R) (h3 : b ≠ R) (hF : ∀ k, F k ↔ F0 k ∨ k = b ∨ k = R) (hl : Left PF w F0 g s' w') (hs : s'.b.length = s.b.length) : Left (Res g A) w F R (s', v) w' := by
  obtain ⟨F1, hp, ha, hf⟩ := id hl
  have hbl := hk.bk.lt
  have hRl := hr.lt
  have n1 : ∀ k, k < w.heap.size → ¬ F0 k → ¬ F1 k := fun k hk' hn h => by
    rcases hf k h with h | h
    · exact hn h
    · omega
  refine ⟨fun k => F1 k ∨ k = b ∨ k = R, ⟨b, F1, ⟨hp, hl.ba hk.bk h1, by rw [hs]; exact hk.fits, hk.small, by rw [hs]; exact hk.len⟩, ?_, n1 b hbl h1, n1 R hRl h2, h3, fun _ => Iff.rfl⟩, ha.mono fun k hk' => (hF k).2 (.inl hk'), fun k hk' => ?_⟩
  · show w'.heap[R]? = _
    rw [ha.block R hRl h2]; exact hr
  · rcases hk' with h | h | h
    · rcases hf k h with h' | h'
      · exact .inl ((hF k).2 (.inl h'))
      · exact .inr h'
    · exact .inl ((hF k).2 (.inr (.inl h)))
    · exact .inl ((hF k).2 (.inr (.inr h)))
theorem Saved.res {g A : Nat} {w w' : World} {R b : Nat} {s S : PS} {v v' : VS} {F F0 : Nat → Prop} (hk : BK w b g A 12 s F0) (hr : RC w R b v) (h1 : ¬ F0 b) (h2 : ¬ F0 R) (h3 : b ≠ R) (hF : ∀ k, F k ↔ F0 k ∨ k = b ∨ k = R) (hs : S.b.length = s.b.length) (hl : Saved w F0 R b g A S v' w') : Left (Res g A) w F R (S, v') w' := by
  obtain ⟨F1, hp, hba, hrc, ha, hf⟩ := hl
  have hbl := hk.bk.lt
  have hRl := hr.lt
  have n1 : ∀ k, k < w.heap.size → ¬ F0 k → ¬ F1 k := fun k hk' hn h => by
    rcases hf k h with h | h
    · exact hn h
    · omega
  refine ⟨fun k => F1 k ∨ k = b ∨ k = R, ⟨b, F1, ⟨hp, hba, by rw [hs]; exact hk.fits, hk.small, by rw [hs]; exact hk.len⟩, hrc, n1 b hbl h1, n1 R hRl h2, h3, fun _ => Iff.rfl⟩, ha.mono fun k hk' => (hF k).2 ?_, fun k hk' => ?_⟩
  · rcases hk' with h | h
    · exact .inl h
    · exact .inr (.inr h)
  · rcases hk' with h | h | h
    · rcases hf k h with h' | h'
      · exact .inl ((hF k).2 (.inl h'))
      · exact .inr h'
    · exact .inl ((hF k).2 (.inr (.inl h)))
    · exact .inl ((hF k).2 (.inr (.inr h)))
theorem Saved.same {g A : Nat} {w w' : World} {R b : Nat} {s : PS} {v : VS} {F : Nat → Prop} (hk : BK w b g A 12 s F) (hr : RC w R b v) (hb : Below w.heap.size w w') : Saved w F R b g A s v w' :=
  ⟨F, pf_kept.below hk.fl hb, hk.bk.below hb, hr.below hb, Apart.of_below hb, fun _ h => .inl h⟩
theorem Saved.least {g A : Nat} {w w' : World} {R b : Nat} {s : PS} {v : VS} {F : Nat → Prop} (h : Saved w F R b g A s v w') (h2 : ¬ F R) (h3 : b ≠ R) (hR : R < w.heap.size) (n : Nat) : Saved w F R b g A s { v with least := n } (w'.setCell ⟨R, 5, none⟩ (.int .i64 (n : Int))) := by
  obtain ⟨F1, hp, hba, hrc, ha, hf⟩ := h
  have hR1 : ¬ F1 R := fun h => by
    rcases hf R h with h1 | h1
    · exact h2 h1
    · omega
  refine ⟨F1, pf_kept.keep hp fun k hk => heap_setCell_other _ _ _ _ (fun e => hR1 (by have e' : k = R := e; exact e' ▸ hk)), ?_, hrc.setLeast n, ha.setCell (.inl (.inr rfl)) _ _, hf⟩
  show (w'.setCell ⟨R, 5, none⟩ (.int .i64 (n : Int))).heap[b]? = _
  rw [heap_setCell_other _ _ _ _ (by show b ≠ R; exact h3)]; exact hba

/-- What Take answers and leaves, e being the answer of its save and s' what that leaves. -/
def tkE (v : VS) (n : Int) (e : Nat) : Nat := if n < 0 ∨ 1048576 ≤ n then 1 else if n < (v.least : Int) then 10 else if v.over = true then 9 else if n < (v.mark : Int) then 0 else e
def tkS {σ : Type} (v : VS) (n : Int) (s s' : σ) : σ := if n < 0 ∨ 1048576 ≤ n then s else if n < (v.least : Int) then s else if v.over = true then s else if n < (v.mark : Int) then s else s'
def tkV (v : VS) (n : Int) (e : Nat) : VS := if n < 0 ∨ 1048576 ≤ n then v else if n < (v.least : Int) then v else if v.over = true then v else if n < (v.mark : Int) then { v with least := n.toNat + 1 } else if e = 0 then { v with mark := newM v n.toNat, least := n.toNat + 1 } else { v with over := true }
/-- .. and Born. -/
def bnE (v : VS) (e : Nat) : Nat := if v.inc = 65535 then 9 else if v.over = true then 9 else e
def bnS {σ : Type} (v : VS) (s s' : σ) : σ := if v.inc = 65535 then s else if v.over = true then s else s'
def bnV (v : VS) (e : Nat) : VS := if v.inc = 65535 then v else if v.over = true then v else if e = 0 then { v with inc := v.inc + 1 } else { v with over := true }

theorem call38 (args : Array Value) (W : World) : (callFunc 38 args).run Try.prog W = .ok (.enter 38 args) W := by simp [callFunc, Try.func38, Try.f38]
theorem call40 (args : Array Value) (W : World) : (callFunc 40 args).run Try.prog W = .ok (.enter 40 args) W := by simp [callFunc, Try.func40, Try.f40]

set_option maxHeartbeats 1600000 in
set_option maxRecDepth 20000 in
theorem born_ok (g A : Nat) (w : World) (R : Nat) (s : PS) (v : VS) (F : Nat → Prop) (h : Res g A w R (s, v) F) (hv : v.ok) (hn : s.n ≤ 999990) (e0 : Nat) (he0 : e0 = saveE s A 12 (recL (v.inc + 1) v.mark)) (s0 : PS) (hs0 : s0 = saveS s A 12 (recL (v.inc + 1) v.mark))
    (E : Nat) (hE : E = bnE v e0) (S : PS) (hS : S = bnS v s s0) (V : VS) (hV : V = bnV v e0) :
    Calls Try.prog 18 #[.pointer (some ⟨R, 0, none⟩)] w fun e w' => e = .returned (.int .i64 (E : Int)) ∧ Left (Res g A) w F R (S, V) w' := by
  have HL : Hid (Left (Res g A) w F R (s, v) w) := Left.same (res_kept g A) h (Below.refl _ _)
  obtain ⟨b, F0, hk, hr, h1, h2, h3, hF⟩ := h
  have hst := vstands_ok w R b v hr
  have c2 := hr.c2
  by_cases hi : v.inc = 65535
  · have HE : Hid (E = 9 ∧ S = s ∧ V = v) := by show _ ∧ _ ∧ _; rw [hE, hS, hV, bnE, bnS, bnV, if_pos hi, if_pos hi, if_pos hi]; exact ⟨rfl, rfl, rfl⟩
    rw [hi] at c2
    rw [show ((65535 : Nat) : Int) = 65535 from rfl] at c2
    clear hk hr hF hE hS hV he0 hs0 hi hv
    go_enter Try.func18, Try.ntmps18
    go_wp2_with fail
    refine hst.mono ?_
    rintro e w1 ⟨rfl, rfl⟩
    clear hst
    go_wp2
    go_ret
    exact ⟨by rw [HE.out.1]; rfl, by rw [HE.out.2.1, HE.out.2.2]; exact HL.out⟩
  · have hsv : Calls Try.prog 37 #[.pointer (some ⟨R, 0, none⟩), .func (.func 40) #[] #[]] w fun e w' => e = .returned (.int .i64 (E : Int)) ∧ Saved w F0 R b g A S V w' := by
      have hi1 := hv.i1
      by_cases ho : v.over = true
      · refine (vsave_over w R b v hr ho _).mono ?_
        rintro e w' ⟨rfl, rfl⟩
        rw [hE, hS, hV, bnE, bnS, bnV, if_neg hi, if_neg hi, if_neg hi, if_pos ho, if_pos ho, if_pos ho]
        exact ⟨rfl, Saved.same hk hr (Below.refl _ _)⟩
      · have ho' : v.over = false := by simpa using ho
        refine vsave_new w R b g A s F0 v hk h1 h2 h3 hr ho' hn 40 #[] (v.inc + 1) v.mark (by omega) (by have := hv.m1; omega) call40 ?_ (by omega) E ?_ S ?_ V ?_
        · exact born1_ok w v.inc v.mark 0 hi1
        · rw [hE, bnE, if_neg hi, if_neg ho, he0]
        · rw [hS, bnS, if_neg hi, if_neg ho, hs0]
        · rw [hV, bnV, if_neg hi, if_neg ho, hE, bnE, if_neg hi, if_neg ho]
    have HS : Hid (∀ w', Saved w F0 R b g A S V w' → Left (Res g A) w F R (S, V) w') := fun w' hl => hl.res hk hr h1 h2 h3 hF (by rw [hS, bnS]; split; rfl; split; rfl; rw [hs0, save_len])
    have d0 : ((v.inc : Int) == 65535) = false := by simp; omega
    have d1 : ¬ (v.inc : Int) = 65535 := by omega
    clear hk hr hF hE hS hV he0 hs0 hi hv HL
    generalize v.inc = x at c2 d0 d1
    go_enter Try.func18, Try.ntmps18
    go_wp2_with fail
    refine hst.mono ?_
    rintro e w1 ⟨rfl, rfl⟩
    clear hst
    go_wp2_with fail
    refine hsv.mono ?_
    rintro e w2 ⟨rfl, hl⟩
    have HL2 : Hid (Left (Res g A) w1 F R (S, V) w2) := HS.out w2 hl
    clear hsv hl HS
    go_wp2
    go_ret
    exact ⟨rfl, HL2.out⟩
end Go.Proofs.Ytjmbioedpghopaa
