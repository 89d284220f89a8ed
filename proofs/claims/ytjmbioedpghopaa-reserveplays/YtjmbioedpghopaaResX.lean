/-
  Both reserves side by side, act by act.
-/
import Derived.Test.YtjmbioedpghopaaResU
import Derived.Test.YtjmbioedpghopaaResK
namespace Go.Proofs.Ytjmbioedpghopaa
open Go.ChangeShapes Go.WideShapes Go.ChangeAt Go.RowKit

theorem Sim.told {s : PS} {t : RS} (h : Sim s t) (A : Nat) : lE (psOf t) A = lE s A ∧ lI (psOf t) A = lI s A ∧ lM (psOf t) A = lM s A := by
  unfold lE lI lM
  rw [h.loade, h.loadl, h.fresh]
  exact ⟨rfl, rfl, rfl⟩
theorem Sim.opens {s : PS} {t : RS} (h : Sim s t) (A : Nat) (k : Int) : opE (psOf t) A k = opE s A k ∧ opV (psOf t) A k = opV s A k := by
  obtain ⟨h1, h2, h3⟩ := h.told A
  unfold opE opV
  rw [h1, h2, h3]
  exact ⟨rfl, rfl⟩
theorem Sim.took {s s' : PS} {t t' : RS} (v : VS) (n : Int) (h : Sim s t) (h' : Sim s' t') : Sim (tkS v n s s') (tkS v n t t') := by
  unfold tkS
  repeat' split
  all_goals assumption
theorem Sim.bore {s s' : PS} {t t' : RS} (v : VS) (h : Sim s t) (h' : Sim s' t') : Sim (bnS v s s') (bnS v t t') := by
  unfold bnS
  repeat' split
  all_goals assumption
theorem tkV_ok (v : VS) (n : Int) (e : Nat) (h : v.ok) : (tkV v n e).ok := by
  unfold tkV
  split
  · exact h
  · rename_i hb
    split
    · exact h
    · split
      · exact h
      · split
        · rename_i hm
          exact ⟨h.b1, h.b2, h.i1, h.m1, by show n.toNat + 1 ≤ v.mark; omega⟩
        · obtain ⟨g1, g2⟩ := newM_ge v n.toNat h (by omega)
          split
          · exact ⟨h.b1, h.b2, h.i1, g2, g1⟩
          · exact ⟨h.b1, h.b2, h.i1, h.m1, h.l1⟩
theorem bnV_ok (v : VS) (e : Nat) (h : v.ok) : (bnV v e).ok := by
  unfold bnV
  split
  · exact h
  · rename_i hb
    split
    · exact h
    · split
      · exact ⟨h.b1, h.b2, by show v.inc + 1 ≤ 65535; have := h.i1; omega, h.m1, h.l1⟩
      · exact ⟨h.b1, h.b2, h.i1, h.m1, h.l1⟩
theorem tkS_n (v : VS) (n : Int) (s : PS) (l : List UInt8) : (tkS v n s (saveS s 0 12 l)).n ≤ s.n + 3 := by
  have := save_n s 0 12 l
  unfold tkS
  repeat' split
  all_goals omega
theorem bnS_n (v : VS) (s : PS) (l : List UInt8) : (bnS v s (saveS s 0 12 l)).n ≤ s.n + 3 := by
  have := save_n s 0 12 l
  unfold bnS
  repeat' split
  all_goals omega
theorem tkS_len (v : VS) (n : Int) (s : PS) (l : List UInt8) : (tkS v n s (saveS s 0 12 l)).b.length = s.b.length := by
  have := save_len s 0 12 l
  unfold tkS
  repeat' split
  all_goals first | rfl | exact this
theorem bnS_len (v : VS) (s : PS) (l : List UInt8) : (bnS v s (saveS s 0 12 l)).b.length = s.b.length := by
  have := save_len s 0 12 l
  unfold bnS
  repeat' split
  all_goals first | rfl | exact this

/-- Both flashes, and the document's bank. -/
def Half (w0 w : World) (g : Nat) (s : PS) (bv r : Nat) (t : RS) : Prop := Both PF (RB r 0) w0.heap.size w g s bv t ∧ Below w0.heap.size w0 w
/-- .. and the program's reserve. -/
def Most (w0 w : World) (g R : Nat) (s : PS) (v : VS) (bv r : Nat) (t : RS) : Prop := Both (Res g 0) (RB r 0) w0.heap.size w R (s, v) bv t ∧ Below w0.heap.size w0 w
/-- .. and the document's. -/
def Twin (w0 w : World) (g R : Nat) (s : PS) (v : VS) (bv r V : Nat) (t : RS) (u : VS) : Prop := Both (Res g 0) (RRes bv r 0) w0.heap.size w R (s, v) V (t, u) ∧ Below w0.heap.size w0 w

theorem Half.next {w0 w w' : World} {g : Nat} {s : PS} {bv r : Nat} {t : RS} (h : Half w0 w g s bv r t) (hb : Below w.heap.size w w') : Half w0 w' g s bv r t :=
  ⟨h.1.below pf_kept (rb_kept r 0) hb, h.2.trans (hb.mono h.2.size)⟩
theorem Twin.next {w0 w w' : World} {g R : Nat} {s : PS} {v : VS} {bv r V : Nat} {t : RS} {u : VS} (h : Twin w0 w g R s v bv r V t u) (hb : Below w.heap.size w w') : Twin w0 w' g R s v bv r V t u :=
  ⟨h.1.below (res_kept g 0) (rres_kept bv r 0) hb, h.2.trans (hb.mono h.2.size)⟩
theorem Twin.drew {w0 w : World} {g R : Nat} {s : PS} {v : VS} {bv r V : Nat} {t : RS} {u : VS} (h : Twin w0 w g R s v bv r V t u) : Twin w0 w.drew g R s v bv r V t u := h.next (Below.refl _ _).drew
theorem Twin.low {w0 w : World} {g R : Nat} {s : PS} {v : VS} {bv r V : Nat} {t : RS} {u : VS} (h : Twin w0 w g R s v bv r V t u) : Below w0.heap.size w0 w := h.2

theorem rbnew_half {w0 w : World} {g : Nat} {s : PS} {r : Nat} {t : RS} (h : Duo w0 w g s r t) (hl : t.b.length = 64) :
    Calls Try.prog 11 #[.pointer (some ⟨r, 0, none⟩), .int .i64 0, .int .i64 12] w fun e w' => ∃ bv, e = .returned (.tuple #[.pointer (some ⟨bv, 0, none⟩), .int .i64 0]) ∧ Half w0 w' g s bv r t := by
  obtain ⟨⟨F, G, h1, h2, h3, h4, h5⟩, hb⟩ := h
  have hk : Calls Try.prog 11 #[.pointer (some ⟨r, 0, none⟩), .int .i64 0, .int .i64 12] w _ := rbnew_ok w r t G h2 0 12 (by unfold mayB; omega)
  refine hk.mono ?_
  rintro e w' ⟨bv, rfl, hbs, hba, hbe⟩
  have hlt := rf_kept.lt h2
  have hlf := pf_kept.lt h1
  have hsz := hb.size
  refine ⟨bv, rfl, ⟨F, fun k => G k ∨ k = bv, pf_kept.below h1 hbe, ⟨G, ⟨rf_kept.below h2 hbe, hba, by omega, by omega, by omega⟩, fun hx => ?_, fun _ => Iff.rfl⟩, fun k hk hg => ?_, h4, fun k hk => ?_⟩, hb.trans (hbe.mono hb.size)⟩
  · have := hlt bv hx; omega
  · rcases hg with hg | hg
    · exact h3 k hk hg
    · have := hlf k hk; omega
  · rcases hk with hk | hk
    · exact h5 k hk
    · omega
theorem popen_half {w0 w : World} {g : Nat} {s : PS} {bv r : Nat} {t : RS} (h : Half w0 w g s bv r t) (hl : s.b.length = 64) (k : Int) (h0 : opE s 0 k = 0) (v : VS) (hv : v = opV s 0 k) :
    Calls Try.prog 12 #[.pointer (some ⟨g, 0, none⟩), .int .i64 k] w fun e w' => ∃ R, e = .returned (.tuple #[.pointer (some ⟨R, 0, none⟩), .int .i64 0]) ∧ Most w0 w' g R s v bv r t := by
  obtain ⟨⟨F, G, h1, h2, h3, h4, h5⟩, hb⟩ := h
  refine (opened_yes w g s F h1 (by omega) (by omega) k h0 v hv).mono ?_
  rintro e w' ⟨R, rfl, hle, hbe⟩
  exact ⟨R, rfl, Both.first (rb_kept r 0) h2 h3 h4 h5 hb.size hle, hle.below hb h4 hb.size⟩
theorem popen_half_err {w0 w : World} {g : Nat} {s : PS} {bv r : Nat} {t : RS} (h : Half w0 w g s bv r t) (hl : s.b.length = 64) (k : Int) (hk : (Lit.int .i64 k).wf = true) (E : Nat) (hE : E = opE s 0 k) (h0 : E ≠ 0) :
    Calls Try.prog 12 #[.pointer (some ⟨g, 0, none⟩), .int .i64 k] w fun e w' => e = .returned (.tuple #[.pointer none, .int .i64 (E : Int)]) ∧ Half w0 w' g s bv r t := by
  obtain ⟨⟨F, G, h1, h2, h3, h4, h5⟩, hb⟩ := id h
  refine (opened_err w g s F h1 (by omega) (by omega) k hk E hE h0).mono ?_
  rintro e w' ⟨rfl, hbe⟩
  exact ⟨rfl, h.next hbe⟩
theorem ropen_most {w0 w : World} {g R : Nat} {s : PS} {v : VS} {bv r : Nat} {t : RS} (h : Most w0 w g R s v bv r t) (hs : Sim s t) (k : Int) (h0 : opE s 0 k = 0) (u : VS) (hu : u = opV s 0 k) :
    Calls Try.prog 13 #[.pointer (some ⟨bv, 0, none⟩), .int .i64 k] w fun e w' => ∃ V, e = .returned (.tuple #[.pointer (some ⟨V, 0, none⟩), .int .i64 0]) ∧ Twin w0 w' g R s v bv r V t u := by
  obtain ⟨⟨F, G, h1, h2, h3, h4, h5⟩, hb⟩ := h
  refine (ropened_yes w r 0 bv t G h2 k (by rw [(hs.opens 0 k).1]; exact h0) u (by rw [(hs.opens 0 k).2]; exact hu)).mono ?_
  rintro e w' ⟨V, rfl, hle, hbe⟩
  exact ⟨V, rfl, Both.second (res_kept g 0) h1 h3 h4 h5 hb.size hle, hle.below hb h5 hb.size⟩
theorem ropen_half_err {w0 w : World} {g : Nat} {s : PS} {bv r : Nat} {t : RS} (h : Half w0 w g s bv r t) (hs : Sim s t) (k : Int) (hk : (Lit.int .i64 k).wf = true) (E : Nat) (hE : E = opE s 0 k) (h0 : E ≠ 0) :
    Calls Try.prog 13 #[.pointer (some ⟨bv, 0, none⟩), .int .i64 k] w fun e w' => e = .returned (.tuple #[.pointer none, .int .i64 (E : Int)]) ∧ Half w0 w' g s bv r t := by
  obtain ⟨⟨F, G, h1, h2, h3, h4, h5⟩, hb⟩ := id h
  refine (ropened_err w r 0 bv t G h2 k hk E (by rw [(hs.opens 0 k).1]; exact hE) h0).mono ?_
  rintro e w' ⟨rfl, hbe⟩
  exact ⟨rfl, h.next hbe⟩

/-- Without the reserves. -/
theorem Twin.half {w0 w : World} {g R : Nat} {s : PS} {v : VS} {bv r V : Nat} {t : RS} {u : VS} (h : Twin w0 w g R s v bv r V t u) : Half w0 w g s bv r t := by
  obtain ⟨⟨F, G, h1, h2, h3, h4, h5⟩, hb⟩ := h
  obtain ⟨F0, p, p'⟩ := h1.flash
  obtain ⟨G0, q, q'⟩ := h2.bank
  exact ⟨⟨F0, G0, p, q, fun k hf hg => h3 k (p' k hf) (q' k hg), fun k hk => h4 k (p' k hk), fun k hk => h5 k (q' k hk)⟩, hb⟩
theorem ptear_twin {w0 w : World} {g R : Nat} {s : PS} {v : VS} {bv r V : Nat} {t : RS} {u : VS} (h : Twin w0 w g R s v bv r V t u) (k n : Int) (hk : (Lit.int .i64 k).wf = true) (hn : (Lit.int .i64 n).wf = true) (S : PS) (hS : S = tearS s k n) :
    Calls Try.prog 14 #[.pointer (some ⟨g, 0, none⟩), .int .i64 k, .int .i64 n] w fun e w' => (∃ z, e = .returned z) ∧ Twin w0 w' g R S v bv r V t u := by
  obtain ⟨⟨F, G, ⟨b, F0, p1, p2, p3, p4, p5, p6⟩, h2, h3, h4, h5⟩, hb⟩ := h
  refine (tear_ok w g s F0 p1.fl k n hk hn).mono ?_
  rintro e w' ⟨he, hl⟩
  have hle : Left (Res g 0) w F R (S, v) w' := Res.act p1 p2 p3 p4 p5 p6 (by rw [hS]; exact hl) (by rw [hS]; exact tear_len s k n)
  exact ⟨he, Both.first (rres_kept bv r 0) h2 h3 h4 h5 hb.size hle, hle.below hb h4 hb.size⟩
theorem pwake_twin {w0 w : World} {g R : Nat} {s : PS} {v : VS} {bv r V : Nat} {t : RS} {u : VS} (h : Twin w0 w g R s v bv r V t u) (S : PS) (hS : S = wakeS s) :
    Calls Try.prog 20 #[.pointer (some ⟨g, 0, none⟩)] w fun e w' => (∃ z, e = .returned z) ∧ Twin w0 w' g R S v bv r V t u := by
  obtain ⟨⟨F, G, ⟨b, F0, p1, p2, p3, p4, p5, p6⟩, h2, h3, h4, h5⟩, hb⟩ := h
  refine (wake_ok w g s F0 p1.fl).mono ?_
  rintro e w' ⟨he, hl⟩
  have hle : Left (Res g 0) w F R (S, v) w' := Res.act p1 p2 p3 p4 p5 p6 (by rw [hS]; exact hl) (by rw [hS]; rfl)
  exact ⟨he, Both.first (rres_kept bv r 0) h2 h3 h4 h5 hb.size hle, hle.below hb h4 hb.size⟩
theorem rtear_twin {w0 w : World} {g R : Nat} {s : PS} {v : VS} {bv r V : Nat} {t : RS} {u : VS} (h : Twin w0 w g R s v bv r V t u) (k n : Int) (hk : (Lit.int .i64 k).wf = true) (hn : (Lit.int .i64 n).wf = true) (T : RS) (hT : T = rtearT t k n) :
    Calls Try.prog 15 #[.pointer (some ⟨r, 0, none⟩), .int .i64 k, .int .i64 n] w fun e w' => (∃ z, e = .returned z) ∧ Twin w0 w' g R s v bv r V T u := by
  obtain ⟨⟨F, G, h1, ⟨G0, p1, p2, p3, p4, p5, p6⟩, h3, h4, h5⟩, hb⟩ := h
  refine (rtear_ok w r t G0 p1.fl k n hk hn).mono ?_
  rintro e w' ⟨he, hl⟩
  have hle : Left (RRes bv r 0) w G V (T, u) w' := RRes.act p1 p2 p3 p4 p5 p6 (by rw [hT]; exact hl) (by rw [hT]; exact rtear_len t k n)
  exact ⟨he, Both.second (res_kept g 0) h1 h3 h4 h5 hb.size hle, hle.below hb h5 hb.size⟩
theorem rwake_twin {w0 w : World} {g R : Nat} {s : PS} {v : VS} {bv r V : Nat} {t : RS} {u : VS} (h : Twin w0 w g R s v bv r V t u) (T : RS) (hT : T = rwakeT t) :
    Calls Try.prog 21 #[.pointer (some ⟨r, 0, none⟩)] w fun e w' => (∃ z, e = .returned z) ∧ Twin w0 w' g R s v bv r V T u := by
  obtain ⟨⟨F, G, h1, ⟨G0, p1, p2, p3, p4, p5, p6⟩, h3, h4, h5⟩, hb⟩ := h
  refine (rwake_ok w r t G0 p1.fl).mono ?_
  rintro e w' ⟨he, hl⟩
  have hle : Left (RRes bv r 0) w G V (T, u) w' := RRes.act p1 p2 p3 p4 p5 p6 (by rw [hT]; exact hl) (by rw [hT]; rfl)
  exact ⟨he, Both.second (res_kept g 0) h1 h3 h4 h5 hb.size hle, hle.below hb h5 hb.size⟩
theorem ptake_twin {w0 w : World} {g R : Nat} {s : PS} {v : VS} {bv r V : Nat} {t : RS} {u : VS} (h : Twin w0 w g R s v bv r V t u) (hv : v.ok) (hn : s.n ≤ 999990) (n : Int) (hw : (Lit.int .i64 n).wf = true) (e0 : Nat) (he0 : e0 = saveE s 0 12 (recL v.inc (newM v n.toNat))) (s0 : PS) (hs0 : s0 = saveS s 0 12 (recL v.inc (newM v n.toNat)))
    (E : Nat) (hE : E = tkE v n e0) (S : PS) (hS : S = tkS v n s s0) (v' : VS) (hv' : v' = tkV v n e0) :
    Calls Try.prog 16 #[.pointer (some ⟨R, 0, none⟩), .int .i64 n] w fun e w' => e = .returned (.int .i64 (E : Int)) ∧ Twin w0 w' g R S v' bv r V t u := by
  obtain ⟨⟨F, G, h1, h2, h3, h4, h5⟩, hb⟩ := h
  refine (take_ok g 0 w R s v F h1 hv hn n hw e0 he0 s0 hs0 E hE S hS v' hv').mono ?_
  rintro e w' ⟨rfl, hle⟩
  exact ⟨rfl, Both.first (rres_kept bv r 0) h2 h3 h4 h5 hb.size hle, hle.below hb h4 hb.size⟩
theorem pborn_twin {w0 w : World} {g R : Nat} {s : PS} {v : VS} {bv r V : Nat} {t : RS} {u : VS} (h : Twin w0 w g R s v bv r V t u) (hv : v.ok) (hn : s.n ≤ 999990) (e0 : Nat) (he0 : e0 = saveE s 0 12 (recL (v.inc + 1) v.mark)) (s0 : PS) (hs0 : s0 = saveS s 0 12 (recL (v.inc + 1) v.mark))
    (E : Nat) (hE : E = bnE v e0) (S : PS) (hS : S = bnS v s s0) (v' : VS) (hv' : v' = bnV v e0) :
    Calls Try.prog 18 #[.pointer (some ⟨R, 0, none⟩)] w fun e w' => e = .returned (.int .i64 (E : Int)) ∧ Twin w0 w' g R S v' bv r V t u := by
  obtain ⟨⟨F, G, h1, h2, h3, h4, h5⟩, hb⟩ := h
  refine (born_ok g 0 w R s v F h1 hv hn e0 he0 s0 hs0 E hE S hS v' hv').mono ?_
  rintro e w' ⟨rfl, hle⟩
  exact ⟨rfl, Both.first (rres_kept bv r 0) h2 h3 h4 h5 hb.size hle, hle.below hb h4 hb.size⟩
theorem rtake_twin {w0 w : World} {g R : Nat} {s : PS} {v : VS} {bv r V : Nat} {t : RS} {u : VS} (h : Twin w0 w g R s v bv r V t u) (hu : u.ok) (hn : t.n ≤ 999990) (n : Int) (hw : (Lit.int .i64 n).wf = true) (e0 : Nat) (he0 : e0 = rsaveE t 0 12 (recL u.inc (newM u n.toNat))) (t0 : RS) (ht0 : t0 = rsaveT t 0 12 (recL u.inc (newM u n.toNat)))
    (E : Nat) (hE : E = tkE u n e0) (T : RS) (hT : T = tkS u n t t0) (u' : VS) (hu' : u' = tkV u n e0) :
    Calls Try.prog 17 #[.pointer (some ⟨V, 0, none⟩), .int .i64 n] w fun e w' => e = .returned (.int .i64 (E : Int)) ∧ Twin w0 w' g R s v bv r V T u' := by
  obtain ⟨⟨F, G, h1, h2, h3, h4, h5⟩, hb⟩ := h
  refine (rtake_ok bv r 0 w V t u G h2 hu hn n hw e0 he0 t0 ht0 E hE T hT u' hu').mono ?_
  rintro e w' ⟨rfl, hle⟩
  exact ⟨rfl, Both.second (res_kept g 0) h1 h3 h4 h5 hb.size hle, hle.below hb h5 hb.size⟩
theorem rborn_twin {w0 w : World} {g R : Nat} {s : PS} {v : VS} {bv r V : Nat} {t : RS} {u : VS} (h : Twin w0 w g R s v bv r V t u) (hu : u.ok) (hn : t.n ≤ 999990) (e0 : Nat) (he0 : e0 = rsaveE t 0 12 (recL (u.inc + 1) u.mark)) (t0 : RS) (ht0 : t0 = rsaveT t 0 12 (recL (u.inc + 1) u.mark))
    (E : Nat) (hE : E = bnE u e0) (T : RS) (hT : T = bnS u t t0) (u' : VS) (hu' : u' = bnV u e0) :
    Calls Try.prog 19 #[.pointer (some ⟨V, 0, none⟩)] w fun e w' => e = .returned (.int .i64 (E : Int)) ∧ Twin w0 w' g R s v bv r V T u' := by
  obtain ⟨⟨F, G, h1, h2, h3, h4, h5⟩, hb⟩ := h
  refine (rborn_ok bv r 0 w V t u G h2 hu hn e0 he0 t0 ht0 E hE T hT u' hu').mono ?_
  rintro e w' ⟨rfl, hle⟩
  exact ⟨rfl, Both.second (res_kept g 0) h1 h3 h4 h5 hb.size hle, hle.below hb h5 hb.size⟩
/-- What both tell. -/
theorem Twin.tells {w0 w : World} {g R : Nat} {s : PS} {v : VS} {bv r V : Nat} {t : RS} {u : VS} (h : Twin w0 w g R s v bv r V t u) (hv : v.ok) :
    (Calls Try.prog 23 #[.pointer (some ⟨R, 0, none⟩)] w fun e w' => e = .returned (.int .i64 (v.mark : Int)) ∧ w' = w) ∧ (Calls Try.prog 24 #[.pointer (some ⟨R, 0, none⟩)] w fun e w' => e = .returned (.int .i64 (v.inc : Int)) ∧ w' = w) ∧
    (Calls Try.prog 25 #[.pointer (some ⟨R, 0, none⟩)] w fun e w' => e = .returned (.int .i64 (v.least : Int)) ∧ w' = w) := by
  obtain ⟨⟨F, G, ⟨b, F0, _, p2, _⟩, _⟩, _⟩ := h
  exact ⟨mark_ok w R b v p2 hv.m1, inc_ok w R b v p2 hv.i1, least_ok w R b v p2⟩
theorem Twin.cells {w0 w : World} {g R : Nat} {s : PS} {v : VS} {bv r V : Nat} {t : RS} {u : VS} (h : Twin w0 w g R s v bv r V t u) :
    w.cell? ⟨V, 3, none⟩ = some (.int .i64 (u.mark : Int)) ∧ w.cell? ⟨V, 2, none⟩ = some (.int .i64 (u.inc : Int)) ∧ w.cell? ⟨V, 4, none⟩ = some (.int .i64 (u.least : Int)) := by
  obtain ⟨⟨F, G, _, ⟨G0, _, p2, _⟩, _⟩, _⟩ := h
  exact ⟨p2.c3, p2.c2, p2.c4⟩
end Go.Proofs.Ytjmbioedpghopaa
