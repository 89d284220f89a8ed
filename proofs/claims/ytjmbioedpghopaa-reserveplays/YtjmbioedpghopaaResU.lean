/-
  The document's Open.
-/
import Derived.Test.YtjmbioedpghopaaResT
namespace Go.Proofs.Ytjmbioedpghopaa
open Go.ChangeShapes Go.WideShapes Go.ChangeAt Go.RowKit

set_option maxHeartbeats 3200000 in
set_option maxRecDepth 20000 in
theorem ropen_bad (w : World) (v : Nat) (k : Int) (hk : (Lit.int .i64 k).wf = true) (hbad : k < 1 ∨ 1024 < k) :
    Calls Try.prog 13 #[.pointer (some ⟨v, 0, none⟩), .int .i64 k] w fun e w' => e = .returned (.tuple #[.pointer none, .int .i64 1]) ∧ Below w.heap.size w w' := by
  have hbk := bounds_i64 hk
  clear hk
  by_cases hlt : k < 1
  · clear hbad
    go_enter Try.func13, Try.ntmps13
    go_wp2
    go_ret2
    exact ⟨rfl, Below.refl _ _⟩
  · have hgt : (1024 : Int) < k := by omega
    clear hbad
    go_enter Try.func13, Try.ntmps13
    go_wp2
    go_ret2
    exact ⟨rfl, Below.refl _ _⟩

set_option maxHeartbeats 3200000 in
set_option maxRecDepth 20000 in
theorem ropen_good (w : World) (v r A : Nat) (t : RS) (G : Nat → Prop) (h : RK w v r A 12 t G) (n : Nat) (h1 : 1 ≤ n) (h2 : n ≤ 1024) (E : Nat) (hE : E = opE (psOf t) A (n : Int)) (u : VS) (hu : u = opV (psOf t) A (n : Int)) :
    Calls Try.prog 13 #[.pointer (some ⟨v, 0, none⟩), .int .i64 (n : Int)] w fun e w' => ((E = 0 ∧ ∃ V, e = .returned (.tuple #[.pointer (some ⟨V, 0, none⟩), .int .i64 0]) ∧ w.heap.size ≤ V ∧ RRC w' V v u) ∨ (E ≠ 0 ∧ e = .returned (.tuple #[.pointer none, .int .i64 (E : Int)]))) ∧ Below w.heap.size w w' := by
  have c2 := h.bk.c2
  obtain ⟨W, hW⟩ : ∃ W, W = w.alloc (.cells #[.pointer (some ⟨v, 0, none⟩), .int .i64 (n : Int), .int .i64 0, .int .i64 0, .int .i64 0, .bool false] 49) := ⟨_, rfl⟩
  have hb : Below w.heap.size w W := by rw [hW]; exact (Below.refl _ _).alloc (Nat.le_refl _) _
  have hr0 : RRC W w.heap.size v ⟨n, 0, 0, 0, false⟩ := by rw [hW]; exact heap_alloc_new _ _
  have HW : Hid (W = w.alloc (.cells #[.pointer (some ⟨v, 0, none⟩), .int .i64 (n : Int), .int .i64 0, .int .i64 0, .int .i64 0, .bool false] 49)) := hW
  have hk := h.below hb
  obtain ⟨R, hR⟩ : ∃ R, R = loadL (psOf t) A 12 := ⟨_, rfl⟩
  obtain ⟨e1, he1⟩ : ∃ e1, e1 = loadE (psOf t) A 12 := ⟨_, rfl⟩
  have kl := rload_ok W v r A 12 t G hk R e1 hR he1
  have HR0 : Hid (RRC W w.heap.size v ⟨n, 0, 0, 0, false⟩) := hr0
  have HB : Hid (Below w.heap.size w W) := hb
  have d0 : ¬ (n : Int) < 1 := by omega
  have d1 : ¬ (1024 : Int) < (n : Int) := by omega
  have hbad : ¬ ((n : Int) < 1 ∨ 1024 < (n : Int)) := by omega
  rw [opE, if_neg hbad] at hE
  rw [opV, Int.toNat_natCast] at hu
  rcases loadE_cases (psOf t) A 12 with g1 | g1 | g1
  · have HRL : Hid (R.length = 12) := by show R.length = 12; rw [hR]; exact loadL_len (psOf t) A 12 g1 h.fits
    have hl0 : lE (psOf t) A = 0 := by rw [lE, if_neg (by omega), g1]
    rw [if_neg (by omega)] at hE
    obtain ⟨I, hI⟩ : ∃ I, I = lI (psOf t) A := ⟨_, rfl⟩
    obtain ⟨M, hM⟩ : ∃ M, M = lM (psOf t) A := ⟨_, rfl⟩
    have hI' : I = be ((R.drop 0).take 4) := by rw [hI, lI, if_pos g1, hR]
    have hM' : M = be ((R.drop 4).take 4) := by rw [hM, lM, if_pos g1, hR]
    have hIl : I < 4294967296 := by rw [hI]; exact lI_lt _ _
    have hMl : M < 4294967296 := by rw [hM]; exact lM_lt _ _
    rw [← hI, ← hM] at hE hu
    have he : e1 = 0 := by omega
    subst he
    rw [HRL.out] at kl
    have K34 : Hid (∀ X d cd, Sees X d cd R → (Calls Try.prog 34 #[.slice d 12 cd, .int .i64 0] X fun e w' => e = .returned (.tuple #[.int .u32 (I : Int), .int .i64 0]) ∧ w' = X) ∧ (Calls Try.prog 34 #[.slice d 12 cd, .int .i64 4] X fun e w' => e = .returned (.tuple #[.int .u32 (M : Int), .int .i64 0]) ∧ w' = X)) := fun X d cd hs => by
      have a0 := RefLoad_yes X d cd R 0 hs (by rw [HRL.out]; omega)
      have a1 := RefLoad_yes X d cd R 4 hs (by rw [HRL.out]; omega)
      rw [HRL.out, ← hI'] at a0
      rw [HRL.out, ← hM'] at a1
      exact ⟨a0, a1⟩
    have wI : IntKind.i64.wrap (I : Int) = (I : Int) := by rw [IntKind.wrap_i64]; omega
    have wM : IntKind.i64.wrap (M : Int) = (M : Int) := by rw [IntKind.wrap_i64]; omega
    clear hR he1 hk h g1 hI' hM' hb hr0 hW hl0 hI hM hbad
    by_cases hor : 65535 < I ∨ 1048576 < M
    · rw [if_pos hor] at hE
      subst hE
      by_cases hi : 65535 < I
      · have f2 : (65535 : Int) < (I : Int) := by omega
        clear hor hu
        go_enter Try.func13, Try.ntmps13
        go_upto_region 4 with fail
        rw [← HW.out]
        go_wp2_with fail
        refine kl.mono ?_
        rintro e w1 ⟨d, cd, rfl, hs1, hb1⟩
        clear kl HW
        rw [show ((0 : Nat) : Int) = 0 from rfl]
        obtain ⟨k0, k4⟩ := K34.out w1 d cd hs1
        have HB1 : Hid (Below w.heap.size w w1) := HB.out.trans (hb1.mono HB.out.size)
        clear hs1 hb1 K34
        go_wp2_with fail
        refine k0.mono ?_
        rintro e w2 ⟨rfl, rfl⟩
        go_wp2_with fail
        refine k4.mono ?_
        rintro e w3 ⟨rfl, rfl⟩
        clear k0 k4
        go_wp2
        go_ret2
        exact ⟨.inr ⟨by decide, rfl⟩, HB1.out⟩
      · have f2 : ¬ (65535 : Int) < (I : Int) := by omega
        have f3 : (1048576 : Int) < (M : Int) := by omega
        clear hor hu
        go_enter Try.func13, Try.ntmps13
        go_upto_region 4 with fail
        rw [← HW.out]
        go_wp2_with fail
        refine kl.mono ?_
        rintro e w1 ⟨d, cd, rfl, hs1, hb1⟩
        clear kl HW
        rw [show ((0 : Nat) : Int) = 0 from rfl]
        obtain ⟨k0, k4⟩ := K34.out w1 d cd hs1
        have HB1 : Hid (Below w.heap.size w w1) := HB.out.trans (hb1.mono HB.out.size)
        clear hs1 hb1 K34
        go_wp2_with fail
        refine k0.mono ?_
        rintro e w2 ⟨rfl, rfl⟩
        go_wp2_with fail
        refine k4.mono ?_
        rintro e w3 ⟨rfl, rfl⟩
        clear k0 k4
        go_wp2
        go_ret2
        exact ⟨.inr ⟨by decide, rfl⟩, HB1.out⟩
    · rw [if_neg hor] at hE
      subst hE
      have f2 : ¬ (65535 : Int) < (I : Int) := by omega
      have f3 : ¬ (1048576 : Int) < (M : Int) := by omega
      clear hor
      go_enter Try.func13, Try.ntmps13
      go_upto_region 4 with fail
      rw [← HW.out]
      go_wp2_with fail
      refine kl.mono ?_
      rintro e w1 ⟨d, cd, rfl, hs1, hb1⟩
      clear kl HW
      rw [show ((0 : Nat) : Int) = 0 from rfl]
      obtain ⟨k0, k4⟩ := K34.out w1 d cd hs1
      have hr1 := HR0.out.below hb1
      have HB1 : Hid (Below w.heap.size w w1) := HB.out.trans (hb1.mono HB.out.size)
      have HR1 : Hid (RRC w1 w.heap.size v ⟨n, 0, 0, 0, false⟩) := hr1
      clear hs1 hb1 K34 hr1
      go_wp2_with fail
      refine k0.mono ?_
      rintro e w2 ⟨rfl, rfl⟩
      go_wp2_with fail
      refine k4.mono ?_
      rintro e w3 ⟨rfl, rfl⟩
      clear k0 k4
      have x1 := HR1.out.setRec I M
      have HX : Hid (RRC (((w3.setCell ⟨w.heap.size, 2, none⟩ (.int .i64 (I : Int))).setCell ⟨w.heap.size, 3, none⟩ (.int .i64 (M : Int))).setCell ⟨w.heap.size, 4, none⟩ (.int .i64 (M : Int))) w.heap.size v u ∧ Below w.heap.size w (((w3.setCell ⟨w.heap.size, 2, none⟩ (.int .i64 (I : Int))).setCell ⟨w.heap.size, 3, none⟩ (.int .i64 (M : Int))).setCell ⟨w.heap.size, 4, none⟩ (.int .i64 (M : Int)))) := by
        rw [hu]
        exact ⟨x1.setLeast M, ((HB1.out.setCell (p := ⟨w.heap.size, 2, none⟩) (Nat.le_refl _) _).setCell (p := ⟨w.heap.size, 3, none⟩) (Nat.le_refl _) _).setCell (p := ⟨w.heap.size, 4, none⟩) (Nat.le_refl _) _⟩
      have y2 := HR1.out.c2
      have y3 := HR1.out.c3
      have y4 := HR1.out.c4
      have z2 := HR1.out.fz 2
      have z3 := HR1.out.fz 3
      have z4 := HR1.out.fz 4
      clear x1 hu HR0 HB HR1
      go_wp2
      go_ret2
      exact ⟨.inl ⟨trivial, w.heap.size, rfl, Nat.le_refl _, HX.out.1⟩, HX.out.2⟩
  · have hl5 : lE (psOf t) A = 5 := by rw [lE, if_neg (by omega), g1]
    rw [if_pos (by omega), hl5] at hE
    have he : e1 = 5 := by omega
    subst he hE
    clear hR he1 hk h g1 hb hr0 hW hl5 hu hbad
    go_enter Try.func13, Try.ntmps13
    go_upto_region 4 with fail
    rw [← HW.out]
    go_wp2_with fail
    refine kl.mono ?_
    rintro e w1 ⟨d, cd, rfl, hs1, hb1⟩
    clear kl HW hs1
    rw [show ((5 : Nat) : Int) = 5 from rfl]
    have HB1 : Hid (Below w.heap.size w w1) := HB.out.trans (hb1.mono HB.out.size)
    clear hb1
    go_wp2
    go_ret2
    exact ⟨.inr ⟨by decide, rfl⟩, HB1.out⟩
  · have he : e1 = 8 := by omega
    obtain ⟨f, hf⟩ : ∃ f, f = freshB (psOf t) A 12 := ⟨_, rfl⟩
    have K33 : Hid (∀ X, Below W.heap.size W X → Calls Try.prog 33 #[.pointer (some ⟨v, 0, none⟩)] X fun e w' => e = .returned (.bool f) ∧ Below X.heap.size X w') := fun X hX => rfresh_ok X v r A 12 t G (hk.below hX) f hf
    have hI : lI (psOf t) A = 0 := by rw [lI, if_neg (by omega)]
    have hM : lM (psOf t) A = 0 := by rw [lM, if_neg (by omega)]
    have hl : lE (psOf t) A = if f = true then 0 else 8 := by rw [lE, g1, ← hf]; simp
    rw [hI, hM] at hE hu
    subst he
    clear hR he1 hk h g1 hb hr0 hW hf hbad hI hM
    cases f
    · rw [if_neg (by simp)] at hl
      rw [if_pos (by omega), hl] at hE
      subst hE
      clear hu hl
      go_enter Try.func13, Try.ntmps13
      go_upto_region 4 with fail
      rw [← HW.out]
      go_wp2_with fail
      refine kl.mono ?_
      rintro e w1 ⟨d, cd, rfl, hs1, hb1⟩
      clear kl HW hs1
      rw [show ((8 : Nat) : Int) = 8 from rfl]
      have k33 := K33.out w1 hb1
      go_wp2_with fail
      refine k33.mono ?_
      rintro e w2 ⟨rfl, hb2⟩
      replace hb2 := hb1.trans (hb2.mono hb1.size)
      have HB1 : Hid (Below w.heap.size w w2) := HB.out.trans (hb2.mono HB.out.size)
      clear hb1 hb2 k33 K33
      go_wp2
      go_ret2
      exact ⟨.inr ⟨by decide, rfl⟩, HB1.out⟩
    · rw [if_pos rfl] at hl
      rw [if_neg (by omega), if_neg (by omega)] at hE
      subst hE
      clear hl
      go_enter Try.func13, Try.ntmps13
      go_upto_region 4 with fail
      rw [← HW.out]
      go_wp2_with fail
      refine kl.mono ?_
      rintro e w1 ⟨d, cd, rfl, hs1, hb1⟩
      clear kl HW hs1
      rw [show ((8 : Nat) : Int) = 8 from rfl]
      have k33 := K33.out w1 hb1
      go_wp2_with fail
      refine k33.mono ?_
      rintro e w2 ⟨rfl, hb2⟩
      replace hb2 := hb1.trans (hb2.mono hb1.size)
      have HB1 : Hid (Below w.heap.size w w2) := HB.out.trans (hb2.mono HB.out.size)
      have HX : Hid (RRC w2 w.heap.size v u) := by rw [hu]; exact HR0.out.below hb2
      clear hb1 hb2 k33 K33 hu
      go_wp2
      go_ret2
      exact ⟨.inl ⟨trivial, w.heap.size, rfl, Nat.le_refl _, HX.out⟩, HB1.out⟩

/-- The document's reserve opened upon its bank. -/
theorem ropened_yes (w : World) (r A v : Nat) (t : RS) (G : Nat → Prop) (h : RB r A w v t G) (k : Int) (h0 : opE (psOf t) A k = 0) (u : VS) (hu : u = opV (psOf t) A k) :
    Calls Try.prog 13 #[.pointer (some ⟨v, 0, none⟩), .int .i64 k] w fun e w' => ∃ V, e = .returned (.tuple #[.pointer (some ⟨V, 0, none⟩), .int .i64 0]) ∧ Left (RRes v r A) w G V (t, u) w' ∧ Below w.heap.size w w' := by
  obtain ⟨k1, k2, _⟩ := op_zero h0
  obtain ⟨n, rfl⟩ : ∃ n : Nat, k = (n : Int) := ⟨k.toNat, by omega⟩
  obtain ⟨G0, hk, hv, hG⟩ := h
  refine (ropen_good w v r A t G0 hk n (by omega) (by omega) 0 h0.symm u hu).mono ?_
  rintro e w' ⟨⟨_, V, rfl, hV, hrc⟩ | ⟨hne, _⟩, hb⟩
  · have hlt := rf_kept.lt hk.fl
    have hvl := hk.bk.lt
    refine ⟨V, rfl, ⟨fun k => G0 k ∨ k = v ∨ k = V, ⟨G0, hk.below hb, hrc, hv, fun hx => ?_, by omega, fun _ => Iff.rfl⟩, Apart.of_below hb, fun j hj => ?_⟩, hb⟩
    · have := hlt V hx; omega
    · rcases hj with h | h | h
      · exact .inl ((hG j).2 (.inl h))
      · exact .inl ((hG j).2 (.inr h))
      · exact .inr (by omega)
  · exact absurd rfl hne
theorem ropened_err (w : World) (r A v : Nat) (t : RS) (G : Nat → Prop) (h : RB r A w v t G) (k : Int) (hk : (Lit.int .i64 k).wf = true) (E : Nat) (hE : E = opE (psOf t) A k) (h0 : E ≠ 0) :
    Calls Try.prog 13 #[.pointer (some ⟨v, 0, none⟩), .int .i64 k] w fun e w' => e = .returned (.tuple #[.pointer none, .int .i64 (E : Int)]) ∧ Below w.heap.size w w' := by
  obtain ⟨G0, hrk, hv, hG⟩ := h
  by_cases hbad : k < 1 ∨ 1024 < k
  · have hE1 : E = 1 := by rw [hE, opE, if_pos hbad]
    subst hE1
    exact ropen_bad w v k hk hbad
  · obtain ⟨n, rfl⟩ : ∃ n : Nat, k = (n : Int) := ⟨k.toNat, by omega⟩
    refine (ropen_good w v r A t G0 hrk n (by omega) (by omega) E hE _ rfl).mono ?_
    rintro e w' ⟨⟨he, _⟩ | ⟨_, he⟩, hb⟩
    · exact absurd he h0
    · exact ⟨he, hb⟩
end Go.Proofs.Ytjmbioedpghopaa
