/-
  Open.
-/
import Derived.Test.YtjmbioedpghopaaResG
namespace Go.Proofs.Ytjmbioedpghopaa
open Go.ChangeShapes Go.WideShapes Go.ChangeAt Go.RowKit

def opE (s : PS) (A : Nat) (k : Int) : Nat := if k < 1 ∨ 1024 < k then 1 else if lE s A ≠ 0 then lE s A else if 65535 < lI s A ∨ 1048576 < lM s A then 8 else 0
def opV (s : PS) (A : Nat) (k : Int) : VS := ⟨k.toNat, lI s A, lM s A, lM s A, false⟩
theorem op_zero {s : PS} {A : Nat} {k : Int} (h : opE s A k = 0) : 1 ≤ k ∧ k ≤ 1024 ∧ lE s A = 0 ∧ lI s A ≤ 65535 ∧ lM s A ≤ 1048576 := by
  unfold opE at h
  split at h
  · cases h
  · split at h
    · rename_i h1; exact absurd h h1
    · split at h
      · cases h
      · omega
theorem opV_ok {s : PS} {A : Nat} {k : Int} (h : opE s A k = 0) : (opV s A k).ok := by
  obtain ⟨h1, h2, _, h3, h4⟩ := op_zero h
  have e1 : (opV s A k).blk = k.toNat := rfl
  exact ⟨by rw [e1]; omega, by rw [e1]; omega, h3, h4, Nat.le_refl _⟩

set_option maxHeartbeats 3200000 in
set_option maxRecDepth 20000 in
theorem open_yes (w : World) (b g A : Nat) (s : PS) (F : Nat → Prop) (h : BK w b g A 12 s F) (k : Int) (h0 : opE s A k = 0) (v : VS) (hv : v = opV s A k) :
    Calls Try.prog 26 #[.pointer (some ⟨b, 0, none⟩), .int .i64 k] w fun e w' => ∃ R, e = .returned (.tuple #[.pointer (some ⟨R, 0, none⟩), .int .i64 0]) ∧ w.heap.size ≤ R ∧ RC w' R b v ∧ Below w.heap.size w w' := by
  have hst := rstands_ok w b g A 12 h.bk (by omega)
  obtain ⟨k1, k2, hE, hI, hM⟩ := op_zero h0
  obtain ⟨n, rfl⟩ : ∃ n : Nat, k = (n : Int) := ⟨k.toNat, by omega⟩
  obtain ⟨I, hI'⟩ : ∃ I, I = lI s A := ⟨_, rfl⟩
  obtain ⟨M, hM'⟩ : ∃ M, M = lM s A := ⟨_, rfl⟩
  have hv' : v = ⟨n, I, M, M, false⟩ := by rw [hv, opV, ← hI', ← hM', Int.toNat_natCast]
  rw [← hI'] at hI
  rw [← hM'] at hM
  have KS : Hid (∀ V, Below w.heap.size w V → Calls Try.prog 42 #[.pointer (some ⟨b, 0, none⟩)] V fun e w' => e = .returned (.int .i64 12) ∧ w' = V) := fun V hV => size_ok V b g A 12 (h.bk.below hV)
  have KL : Hid (∀ V, Below w.heap.size w V → Calls Try.prog 43 #[.pointer (some ⟨b, 0, none⟩)] V fun e w' => e = .returned (.tuple #[.agg #[.int .u32 (I : Int), .int .u32 (M : Int), .int .u32 0], .int .i64 0]) ∧ Below V.heap.size V w') := fun V hV => rload_rec V b g A s F (h.below hV) 0 I M hE.symm hI' hM'
  have d0 : ¬ (n : Int) < 1 := by omega
  have d1 : ¬ (1024 : Int) < (n : Int) := by omega
  have d2 : ¬ (65535 : Int) < (I : Int) := by omega
  have d3 : ¬ (1048576 : Int) < (M : Int) := by omega
  have wM : IntKind.i64.wrap (M : Int) = (M : Int) := by rw [IntKind.wrap_i64]; omega
  subst hv'
  clear h h0 hv hI' hM' hE
  go_enter Try.func26, Try.ntmps26
  go_wp2_with fail
  refine hst.mono ?_
  rintro e w1 ⟨rfl, hb1⟩
  have ks := KS.out w1 hb1
  clear hst
  go_wp2_with fail
  refine ks.mono ?_
  rintro e w2 ⟨rfl, rfl⟩
  clear ks KS
  have kl := KL.out w2 hb1
  go_wp2_with fail
  refine kl.mono ?_
  rintro e w3 ⟨rfl, hb3⟩
  replace hb3 := hb1.trans (hb3.mono hb1.size)
  clear kl KL hb1
  obtain ⟨W, hW⟩ : ∃ W, W = w3.alloc (.cells #[.int .u32 (I : Int), .int .u32 (M : Int), .int .u32 0] 58) := ⟨_, rfl⟩
  have t : Three 58 W w3.heap.size I M 0 := by rw [hW]; exact Three.new 58 w3 I M 0
  have hbW : Below w.heap.size w W := by rw [hW]; exact hb3.alloc hb3.size _
  have a0 := t.c0
  have a1 := t.c1
  have a2 := t.c2
  have HW : Hid (W = w3.alloc (.cells #[.int .u32 (I : Int), .int .u32 (M : Int), .int .u32 0] 58)) := hW
  have HF : Hid (RC (W.alloc (.cells #[.pointer (some ⟨b, 0, none⟩), .int .i64 (n : Int), .int .u32 (I : Int), .int .u32 (M : Int), .int .u32 0, .int .i64 (M : Int), .bool false] 60)) W.heap.size b ⟨n, I, M, M, false⟩ ∧ w.heap.size ≤ W.heap.size ∧ Below w.heap.size w (W.alloc (.cells #[.pointer (some ⟨b, 0, none⟩), .int .i64 (n : Int), .int .u32 (I : Int), .int .u32 (M : Int), .int .u32 0, .int .i64 (M : Int), .bool false] 60))) :=
    ⟨heap_alloc_new _ _, hbW.size, hbW.alloc hbW.size _⟩
  clear hW t hbW hb3
  go_upto_region 6 with fail
  rw [← HW.out]
  clear HW
  go_wp2
  go_ret2
  exact ⟨W.heap.size, rfl, HF.out.2.1, HF.out.1, HF.out.2.2⟩

set_option maxHeartbeats 3200000 in
set_option maxRecDepth 20000 in
theorem open_err (w : World) (b g A : Nat) (s : PS) (F : Nat → Prop) (h : BK w b g A 12 s F) (k : Int) (hk : (Lit.int .i64 k).wf = true) (E : Nat) (hE : E = opE s A k) (h0 : E ≠ 0) :
    Calls Try.prog 26 #[.pointer (some ⟨b, 0, none⟩), .int .i64 k] w fun e w' => e = .returned (.tuple #[.pointer none, .int .i64 (E : Int)]) ∧ Below w.heap.size w w' := by
  have hst := rstands_ok w b g A 12 h.bk (by omega)
  have hbk := bounds_i64 hk
  by_cases hbad : k < 1 ∨ 1024 < k
  · have hE1 : E = 1 := by rw [hE, opE, if_pos hbad]
    subst hE1
    clear h hE h0 hk
    by_cases hlt : k < 1
    · clear hbad
      go_enter Try.func26, Try.ntmps26
      go_wp2_with fail
      refine hst.mono ?_
      rintro e w1 ⟨rfl, hb1⟩
      have HB1 : Hid (Below w.heap.size w w1) := hb1
      clear hst hb1
      go_wp2
      go_ret2
      exact ⟨rfl, HB1.out⟩
    · have hgt : (1024 : Int) < k := by omega
      clear hbad
      go_enter Try.func26, Try.ntmps26
      go_wp2_with fail
      refine hst.mono ?_
      rintro e w1 ⟨rfl, hb1⟩
      have HB1 : Hid (Below w.heap.size w w1) := hb1
      clear hst hb1
      go_wp2
      go_ret2
      exact ⟨rfl, HB1.out⟩
  obtain ⟨n, rfl⟩ : ∃ n : Nat, k = (n : Int) := ⟨k.toNat, by omega⟩
  obtain ⟨I, hI'⟩ : ∃ I, I = lI s A := ⟨_, rfl⟩
  obtain ⟨M, hM'⟩ : ∃ M, M = lM s A := ⟨_, rfl⟩
  obtain ⟨E1, hE1⟩ : ∃ E1, E1 = lE s A := ⟨_, rfl⟩
  have KS : Hid (∀ V, Below w.heap.size w V → Calls Try.prog 42 #[.pointer (some ⟨b, 0, none⟩)] V fun e w' => e = .returned (.int .i64 12) ∧ w' = V) := fun V hV => size_ok V b g A 12 (h.bk.below hV)
  have KL : Hid (∀ V, Below w.heap.size w V → Calls Try.prog 43 #[.pointer (some ⟨b, 0, none⟩)] V fun e w' => e = .returned (.tuple #[.agg #[.int .u32 (I : Int), .int .u32 (M : Int), .int .u32 0], .int .i64 (E1 : Int)]) ∧ Below V.heap.size V w') := fun V hV => rload_rec V b g A s F (h.below hV) E1 I M hE1 hI' hM'
  have d0 : ¬ (n : Int) < 1 := by omega
  have d1 : ¬ (1024 : Int) < (n : Int) := by omega
  rw [opE, if_neg hbad, ← hE1, ← hI', ← hM'] at hE
  clear h hI' hM' hE1 hbad hk
  by_cases hz : E1 = 0
  · rw [if_neg (by omega)] at hE
    have hor : 65535 < I ∨ 1048576 < M := by
      by_cases hh : 65535 < I ∨ 1048576 < M
      · exact hh
      · rw [if_neg hh] at hE; exact absurd hE h0
    rw [if_pos hor] at hE
    subst hE hz
    clear h0
    go_enter Try.func26, Try.ntmps26
    go_wp2_with fail
    refine hst.mono ?_
    rintro e w1 ⟨rfl, hb1⟩
    have ks := KS.out w1 hb1
    clear hst
    go_wp2_with fail
    refine ks.mono ?_
    rintro e w2 ⟨rfl, rfl⟩
    clear ks KS
    have kl := KL.out w2 hb1
    go_wp2_with fail
    refine kl.mono ?_
    rintro e w3 ⟨rfl, hb3⟩
    replace hb3 := hb1.trans (hb3.mono hb1.size)
    clear kl KL hb1
    rw [show ((0 : Nat) : Int) = 0 from rfl]
    obtain ⟨W, hW⟩ : ∃ W, W = w3.alloc (.cells #[.int .u32 (I : Int), .int .u32 (M : Int), .int .u32 0] 58) := ⟨_, rfl⟩
    have t : Three 58 W w3.heap.size I M 0 := by rw [hW]; exact Three.new 58 w3 I M 0
    have HBW : Hid (Below w.heap.size w W) := by rw [hW]; exact hb3.alloc hb3.size _
    have a0 := t.c0
    have a1 := t.c1
    have HW : Hid (W = w3.alloc (.cells #[.int .u32 (I : Int), .int .u32 (M : Int), .int .u32 0] 58)) := hW
    clear hW t hb3
    by_cases hi : 65535 < I
    · have d2 : (65535 : Int) < (I : Int) := by omega
      clear hor
      go_upto_region 6 with fail
      rw [← HW.out]
      clear HW
      go_wp2
      go_ret2
      exact ⟨rfl, HBW.out⟩
    · have d2 : ¬ (65535 : Int) < (I : Int) := by omega
      have d3 : (1048576 : Int) < (M : Int) := by omega
      clear hor
      go_upto_region 6 with fail
      rw [← HW.out]
      clear HW
      go_wp2
      go_ret2
      exact ⟨rfl, HBW.out⟩
  · rw [if_pos hz] at hE
    subst hE
    have f0 : ((E : Int) == 0) = false := by simp; omega
    have f1 : ¬ (E : Int) = 0 := by omega
    clear h0 hz
    go_enter Try.func26, Try.ntmps26
    go_wp2_with fail
    refine hst.mono ?_
    rintro e w1 ⟨rfl, hb1⟩
    have ks := KS.out w1 hb1
    clear hst
    go_wp2_with fail
    refine ks.mono ?_
    rintro e w2 ⟨rfl, rfl⟩
    clear ks KS
    have kl := KL.out w2 hb1
    go_wp2_with fail
    refine kl.mono ?_
    rintro e w3 ⟨rfl, hb3⟩
    replace hb3 := hb1.trans (hb3.mono hb1.size)
    clear kl KL hb1
    have HBW : Hid (Below w.heap.size w (w3.alloc (.cells #[.int .u32 (I : Int), .int .u32 (M : Int), .int .u32 0] 58))) := hb3.alloc hb3.size _
    clear hb3
    go_wp2
    go_ret2
    exact ⟨rfl, HBW.out⟩

/-- A reserve opened upon a flash, its bank made. -/
theorem opened_yes (w : World) (g : Nat) (s : PS) (F : Nat → Prop) (h : PF w g s F) (hl : 40 ≤ s.b.length) (hl2 : s.b.length ≤ 4096) (k : Int) (h0 : opE s 0 k = 0) (v : VS) (hv : v = opV s 0 k) :
    Calls Try.prog 12 #[.pointer (some ⟨g, 0, none⟩), .int .i64 k] w fun e w' => ∃ R, e = .returned (.tuple #[.pointer (some ⟨R, 0, none⟩), .int .i64 0]) ∧ Left (Res g 0) w F R (s, v) w' ∧ Below w.heap.size w w' := by
  have kb : Calls Try.prog 31 #[.pointer (some ⟨g, 0, none⟩), .int .i64 0, .int .i64 12] w _ := bnew_ok w g s F h 0 12 (by unfold mayB; omega)
  go_enter Try.func12, Try.ntmps12
  go_wp2_with fail
  refine kb.mono ?_
  rintro e w1 ⟨b, rfl, hbs, hba, hb1⟩
  clear kb
  have hk : BK w1 b g 0 12 s F := ⟨pf_kept.below h hb1, hba, by omega, by omega, hl2⟩
  have ko := open_yes w1 b g 0 s F hk k h0 v hv
  have HP : Hid (PF w g s F ∧ BK w1 b g 0 12 s F ∧ w.heap.size ≤ b ∧ Below w.heap.size w w1) := ⟨h, hk, hbs, hb1⟩
  clear h hba hk hb1 h0 hv hbs
  go_wp2_with fail
  refine ko.mono ?_
  rintro e w2 ⟨R, rfl, hR, hrc, hb2⟩
  clear ko
  have HX : Hid (Left (Res g 0) w F R (s, v) w2 ∧ Below w.heap.size w w2) := by
    obtain ⟨h, hk, hbs, hb1⟩ := HP.out
    have hlt := pf_kept.lt h
    have hb : Below w.heap.size w w2 := hb1.trans (hb2.mono hb1.size)
    have hbl := hk.bk.lt
    refine ⟨⟨fun k => F k ∨ k = b ∨ k = R, ⟨b, F, hk.below hb2, hrc, fun hx => ?_, fun hx => ?_, by omega, fun _ => Iff.rfl⟩, Apart.of_below hb, fun j hj => ?_⟩, hb⟩
    · have := hlt b hx; omega
    · have := hlt R hx; have := hb1.size; omega
    · rcases hj with h | h | h
      · exact .inl h
      · exact .inr (by omega)
      · exact .inr (by have := hb1.size; omega)
  clear HP hrc hb2 hR
  go_wp2
  go_ret2
  exact ⟨R, rfl, HX.out.1, HX.out.2⟩
theorem opened_err (w : World) (g : Nat) (s : PS) (F : Nat → Prop) (h : PF w g s F) (hl : 40 ≤ s.b.length) (hl2 : s.b.length ≤ 4096) (k : Int) (hk : (Lit.int .i64 k).wf = true) (E : Nat) (hE : E = opE s 0 k) (h0 : E ≠ 0) :
    Calls Try.prog 12 #[.pointer (some ⟨g, 0, none⟩), .int .i64 k] w fun e w' => e = .returned (.tuple #[.pointer none, .int .i64 (E : Int)]) ∧ Below w.heap.size w w' := by
  have kb : Calls Try.prog 31 #[.pointer (some ⟨g, 0, none⟩), .int .i64 0, .int .i64 12] w _ := bnew_ok w g s F h 0 12 (by unfold mayB; omega)
  go_enter Try.func12, Try.ntmps12
  go_wp2_with fail
  refine kb.mono ?_
  rintro e w1 ⟨b, rfl, hbs, hba, hb1⟩
  clear kb
  have hbk : BK w1 b g 0 12 s F := ⟨pf_kept.below h hb1, hba, by omega, by omega, hl2⟩
  have ko := open_err w1 b g 0 s F hbk k hk E hE h0
  have HP : Hid (Below w.heap.size w w1) := hb1
  clear h hba hbk hb1 h0 hE hbs hk
  go_wp2_with fail
  refine ko.mono ?_
  rintro e w2 ⟨rfl, hb2⟩
  clear ko
  have HX : Hid (Below w.heap.size w w2) := HP.out.trans (hb2.mono HP.out.size)
  clear HP hb2
  go_wp2
  go_ret2
  exact ⟨rfl, HX.out⟩
end Go.Proofs.Ytjmbioedpghopaa
