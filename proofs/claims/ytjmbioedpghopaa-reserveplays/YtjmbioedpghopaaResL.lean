/-
  One reserve, act by act; awake.
-/
import Derived.Test.YtjmbioedpghopaaResP
namespace Go.Proofs.Ytjmbioedpghopaa
open Go.ChangeShapes Go.WideShapes Go.ChangeAt Go.RowKit

theorem bounds_u8 {n : Int} (h : (Lit.int .u8 n).wf = true) : 0 ≤ n ∧ n < 256 := by
  simp [Lit.wf, IntKind.min, IntKind.max, IntKind.signed, IntKind.bits] at h
  omega
theorem bounds_u16 {n : Int} (h : (Lit.int .u16 n).wf = true) : 0 ≤ n ∧ n < 65536 := by
  simp [Lit.wf, IntKind.min, IntKind.max, IntKind.signed, IntKind.bits] at h
  omega
theorem wf_small (z : Nat) (h : z < 9223372036854775808) : (Lit.int .i64 (z : Int)).wf = true := by
  simp [Lit.wf, IntKind.min, IntKind.max, IntKind.signed, IntKind.bits]
  omega

/-- A reserve with all beneath it, in memory that w0 has not; w0's own is as it was. -/
def Lone (w0 w : World) (g R : Nat) (s : PS) (v : VS) : Prop := ∃ F, Res g 0 w R (s, v) F ∧ (∀ k, F k → w0.heap.size ≤ k) ∧ Below w0.heap.size w0 w
theorem Lone.low {w0 w : World} {g R : Nat} {s : PS} {v : VS} (h : Lone w0 w g R s v) : Below w0.heap.size w0 w := by obtain ⟨_, _, _, h⟩ := h; exact h
theorem Lone.next {w0 w w' : World} {g R : Nat} {s : PS} {v : VS} (h : Lone w0 w g R s v) (hb : Below w.heap.size w w') : Lone w0 w' g R s v := by
  obtain ⟨F, h1, h2, h3⟩ := h
  exact ⟨F, (res_kept g 0).below h1 hb, h2, h3.trans (hb.mono h3.size)⟩
theorem Lone.drew {w0 w : World} {g R : Nat} {s : PS} {v : VS} (h : Lone w0 w g R s v) : Lone w0 w.drew g R s v := h.next (Below.refl _ _).drew
theorem Lone.left {w0 w w' : World} {g R : Nat} {s' : PS} {v' : VS} {F : Nat → Prop} (h2 : ∀ k, F k → w0.heap.size ≤ k) (h3 : Below w0.heap.size w0 w) (hl : Left (Res g 0) w F R (s', v') w') : Lone w0 w' g R s' v' := by
  have hsz := h3.size
  obtain ⟨F', k1, k2, k3⟩ := id hl
  refine ⟨F', k1, fun k hk => ?_, hl.below h3 h2 hsz⟩
  rcases k3 k hk with h | h
  · exact h2 k h
  · omega
theorem Lone.held {w0 w : World} {g R : Nat} {s : PS} {v : VS} (h : Lone w0 w g R s v) : Held w0 w g s := by
  obtain ⟨F, h1, h2, h3⟩ := h
  obtain ⟨F0, p, q⟩ := h1.flash
  exact ⟨F0, p, fun k hk => h2 k (q k hk), h3⟩
theorem take_lone {w0 w : World} {g R : Nat} {s : PS} {v : VS} (h : Lone w0 w g R s v) (hv : v.ok) (hn : s.n ≤ 999990) (n : Int) (hw : (Lit.int .i64 n).wf = true) (e0 : Nat) (he0 : e0 = saveE s 0 12 (recL v.inc (newM v n.toNat))) (s0 : PS) (hs0 : s0 = saveS s 0 12 (recL v.inc (newM v n.toNat)))
    (E : Nat) (hE : E = tkE v n e0) (S : PS) (hS : S = tkS v n s s0) (V : VS) (hV : V = tkV v n e0) :
    Calls Try.prog 16 #[.pointer (some ⟨R, 0, none⟩), .int .i64 n] w fun e w' => e = .returned (.int .i64 (E : Int)) ∧ Lone w0 w' g R S V := by
  obtain ⟨F, h1, h2, h3⟩ := h
  refine (take_ok g 0 w R s v F h1 hv hn n hw e0 he0 s0 hs0 E hE S hS V hV).mono ?_
  rintro e w' ⟨rfl, hl⟩
  exact ⟨rfl, Lone.left h2 h3 hl⟩
theorem born_lone {w0 w : World} {g R : Nat} {s : PS} {v : VS} (h : Lone w0 w g R s v) (hv : v.ok) (hn : s.n ≤ 999990) (e0 : Nat) (he0 : e0 = saveE s 0 12 (recL (v.inc + 1) v.mark)) (s0 : PS) (hs0 : s0 = saveS s 0 12 (recL (v.inc + 1) v.mark))
    (E : Nat) (hE : E = bnE v e0) (S : PS) (hS : S = bnS v s s0) (V : VS) (hV : V = bnV v e0) :
    Calls Try.prog 18 #[.pointer (some ⟨R, 0, none⟩)] w fun e w' => e = .returned (.int .i64 (E : Int)) ∧ Lone w0 w' g R S V := by
  obtain ⟨F, h1, h2, h3⟩ := h
  refine (born_ok g 0 w R s v F h1 hv hn e0 he0 s0 hs0 E hE S hS V hV).mono ?_
  rintro e w' ⟨rfl, hl⟩
  exact ⟨rfl, Lone.left h2 h3 hl⟩
theorem tear_lone {w0 w : World} {g R : Nat} {s : PS} {v : VS} (h : Lone w0 w g R s v) (k n : Int) (hk : (Lit.int .i64 k).wf = true) (hn : (Lit.int .i64 n).wf = true) (S : PS) (hS : S = tearS s k n) :
    Calls Try.prog 14 #[.pointer (some ⟨g, 0, none⟩), .int .i64 k, .int .i64 n] w fun e w' => (∃ z, e = .returned z) ∧ Lone w0 w' g R S v := by
  obtain ⟨F, ⟨b, F0, p1, p2, p3, p4, p5, p6⟩, h2, h3⟩ := h
  refine (tear_ok w g s F0 p1.fl k n hk hn).mono ?_
  rintro e w' ⟨he, hl⟩
  exact ⟨he, Lone.left h2 h3 (Res.act p1 p2 p3 p4 p5 p6 (by rw [hS]; exact hl) (by rw [hS]; exact tear_len s k n))⟩
theorem wake_lone {w0 w : World} {g R : Nat} {s : PS} {v : VS} (h : Lone w0 w g R s v) (S : PS) (hS : S = wakeS s) :
    Calls Try.prog 20 #[.pointer (some ⟨g, 0, none⟩)] w fun e w' => (∃ z, e = .returned z) ∧ Lone w0 w' g R S v := by
  obtain ⟨F, ⟨b, F0, p1, p2, p3, p4, p5, p6⟩, h2, h3⟩ := h
  refine (wake_ok w g s F0 p1.fl).mono ?_
  rintro e w' ⟨he, hl⟩
  exact ⟨he, Lone.left h2 h3 (Res.act p1 p2 p3 p4 p5 p6 (by rw [hS]; exact hl) (by rw [hS]; rfl))⟩
theorem open_lone {w0 w : World} {g : Nat} {s : PS} (h : Held w0 w g s) (hl : s.b.length = 64) (k : Int) (h0 : opE s 0 k = 0) (v : VS) (hv : v = opV s 0 k) :
    Calls Try.prog 12 #[.pointer (some ⟨g, 0, none⟩), .int .i64 k] w fun e w' => ∃ R, e = .returned (.tuple #[.pointer (some ⟨R, 0, none⟩), .int .i64 0]) ∧ Lone w0 w' g R s v := by
  obtain ⟨F, h1, h2, h3⟩ := h
  refine (opened_yes w g s F h1 (by omega) (by omega) k h0 v hv).mono ?_
  rintro e w' ⟨R, rfl, hl, _⟩
  exact ⟨R, rfl, Lone.left h2 h3 hl⟩
theorem mark_lone {w0 w : World} {g R : Nat} {s : PS} {v : VS} (h : Lone w0 w g R s v) (hv : v.ok) (m : Nat) (hm : m = v.mark) : Calls Try.prog 23 #[.pointer (some ⟨R, 0, none⟩)] w fun e w' => e = .returned (.int .i64 (m : Int)) ∧ w' = w := by
  obtain ⟨F, ⟨b, F0, _, p2, _⟩, _⟩ := h; rw [hm]; exact mark_ok w R b v p2 hv.m1
theorem inc_lone {w0 w : World} {g R : Nat} {s : PS} {v : VS} (h : Lone w0 w g R s v) (hv : v.ok) (m : Nat) (hm : m = v.inc) : Calls Try.prog 24 #[.pointer (some ⟨R, 0, none⟩)] w fun e w' => e = .returned (.int .i64 (m : Int)) ∧ w' = w := by
  obtain ⟨F, ⟨b, F0, _, p2, _⟩, _⟩ := h; rw [hm]; exact inc_ok w R b v p2 hv.i1
theorem least_lone {w0 w : World} {g R : Nat} {s : PS} {v : VS} (h : Lone w0 w g R s v) (m : Nat) (hm : m = v.least) : Calls Try.prog 25 #[.pointer (some ⟨R, 0, none⟩)] w fun e w' => e = .returned (.int .i64 (m : Int)) ∧ w' = w := by
  obtain ⟨F, ⟨b, F0, _, p2, _⟩, _⟩ := h; rw [hm]; exact least_ok w R b v p2

theorem open_new (blk : Nat) (h1 : 1 ≤ blk) (h2 : blk ≤ 1024) : opE (newS 64) 0 (blk : Int) = 0 ∧ opV (newS 64) 0 (blk : Int) = ⟨blk, 0, 0, 0, false⟩ := (rise_new blk h1 h2).again blk h1 h2

set_option maxHeartbeats 1600000 in
set_option maxRecDepth 20000 in
theorem vawake_ok (w : World) : Calls Try.prog 22 #[] w fun e w' => e = .returned (.bool true) ∧ Below w.heap.size w w' := by
  have hn : Calls Try.prog 7 #[.int .i64 64] w _ := new_held w 64 (by omega)
  go_enter Try.func22, Try.ntmps22
  go_wp2_with fail
  refine hn.mono ?_
  rintro e w1 ⟨g, rfl, hh⟩
  obtain ⟨F, h1, h2, h3⟩ := hh
  have kb : Calls Try.prog 31 #[.pointer (some ⟨g, 0, none⟩), .int .i64 0, .int .i64 12] w1 _ := bnew_ok w1 g (newS 64) F h1 0 12 (by unfold mayB newS; simp)
  have HP : Hid (PF w1 g (newS 64) F ∧ (∀ k, F k → w.heap.size ≤ k) ∧ Below w.heap.size w w1) := ⟨h1, h2, h3⟩
  clear hn h1 h2 h3
  go_wp2_with fail
  refine kb.mono ?_
  rintro e w2 ⟨b, rfl, hbs, hba, hb2⟩
  have hk : BK w2 b g 0 12 (newS 64) F := ⟨pf_kept.below HP.out.1 hb2, hba, by simp [newS], by omega, by simp [newS]⟩
  obtain ⟨o1, o2⟩ := open_new 8 (by omega) (by omega)
  have ko : Calls Try.prog 26 #[.pointer (some ⟨b, 0, none⟩), .int .i64 8] w2 _ := open_yes w2 b g 0 (newS 64) F hk 8 o1 ⟨8, 0, 0, 0, false⟩ o2.symm
  have HK : Hid (BK w2 b g 0 12 (newS 64) F ∧ w1.heap.size ≤ b ∧ Below w1.heap.size w1 w2) := ⟨hk, hbs, hb2⟩
  clear kb hk hba hb2 o1 o2 hbs
  go_wp2_with fail
  refine ko.mono ?_
  rintro e w3 ⟨R, rfl, hR, hrc, hb3⟩
  have hL : Lone w w3 g R (newS 64) ⟨8, 0, 0, 0, false⟩ := by
    obtain ⟨hk, hbs, hb2⟩ := HK.out
    obtain ⟨h1, h2, h3⟩ := HP.out
    have hlt := pf_kept.lt h1
    have hbl := hk.bk.lt
    have hs1 := h3.size
    have hs2 := hb2.size
    have hb : Below w1.heap.size w1 w3 := hb2.trans (hb3.mono hb2.size)
    refine ⟨fun k => F k ∨ k = b ∨ k = R, ⟨b, F, hk.below hb3, hrc, fun hx => ?_, fun hx => ?_, by omega, fun _ => Iff.rfl⟩, fun j hj => ?_, h3.trans (hb.mono h3.size)⟩
    · have := hlt b hx; omega
    · have := hlt R hx; omega
    · rcases hj with h | h | h
      · exact h2 j h
      · omega
      · omega
  obtain ⟨e0, he0⟩ : ∃ e0, e0 = saveE (newS 64) 0 12 (recL 0 13) := ⟨_, rfl⟩
  obtain ⟨s0, hs0⟩ : ∃ s0, s0 = saveS (newS 64) 0 12 (recL 0 13) := ⟨_, rfl⟩
  have he : e0 = 0 := by
    rcases (rec_new 64 0 (by omega)).save (newS 64) rfl rfl (by omega) 0 13 (by omega) (by omega) e0 he0 s0 hs0 with ⟨e, _⟩ | ⟨_, u, _⟩
    · exact e
    · cases u
  have kt := take_lone hL ⟨by simp, by simp, by simp, by simp, by simp⟩ (by simp [newS]) 5 (by decide) e0 he0 s0 hs0 0 (by rw [he]; rfl) s0 rfl ⟨8, 0, 13, 6, false⟩ (by rw [he]; rfl)
  rw [show ((0 : Nat) : Int) = 0 from rfl] at kt
  clear ko HP HK hrc hb3 hL he0 hs0 he hR
  go_wp2_with fail
  refine kt.mono ?_
  rintro e w4 ⟨rfl, hL4⟩
  have km := mark_lone hL4 ⟨by simp, by simp, by simp, by simp, by simp⟩ 13 rfl
  rw [show ((13 : Nat) : Int) = 13 from rfl] at km
  have HB4 : Hid (Below w.heap.size w w4) := hL4.low
  clear kt hL4
  go_wp2_with fail
  refine km.mono ?_
  rintro e w5 ⟨rfl, rfl⟩
  clear km
  go_wp2
  go_ret
  exact ⟨rfl, HB4.out⟩
end Go.Proofs.Ytjmbioedpghopaa
