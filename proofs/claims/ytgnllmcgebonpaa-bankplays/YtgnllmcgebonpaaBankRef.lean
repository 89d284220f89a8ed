/-
  The document's bank: the contracts of one and newest.
-/
import Derived.Test.YtgnllmcgebonpaaBankNew
import Derived.Test.YtgnllmcgebonpaaRef
namespace Go.Proofs.Ytgnllmcgebonpaa
open Go.ChangeShapes Go.WideShapes Go.ChangeAt Go.RowKit

/-- What the document's flash holds, as the program's. -/
def psOf (t : RS) : PS := ⟨t.b, t.n, false, 0, 0, t.dead⟩

theorem rread_row (w : World) (r : Nat) (t : RS) (G : Nat → Prop) (h : RF w r t G) (hd : t.dead = false) (P M : Nat) (hM : 1 ≤ M) (hPM : P + M ≤ t.b.length) (R : List UInt8) (hR : R = (t.b.drop P).take M) :
    Calls Try.prog 37 #[.pointer (some ⟨r, 0, none⟩), .int .i64 (P : Int), .int .i64 (M : Int)] w fun e w' => ∃ d o cd, e = .returned (.tuple #[.slice (some ⟨d, o, none⟩) M cd, .int .i64 0]) ∧ Sees w' (some ⟨d, o, none⟩) cd R ∧ Below w.heap.size w w' := by
  have hc : chk t.dead t.b.length (P : Int) (M : Int) = 0 := by unfold chk; rw [hd, if_neg (by simp), if_neg (by omega)]
  refine (rread_ok w r t G h P M R 0 (by unfold rreadL; rw [if_neg (by simp [hc]), hR]; rfl) hc.symm).mono ?_
  rintro e w' ⟨d, cd, rfl, hs, hb⟩
  have hl : R.length = M := by rw [hR]; simp; omega
  obtain ⟨bb, off, rfl, _⟩ := hs.at' (by intro h0; rw [h0] at hl; simp at hl; omega)
  exact ⟨bb, off, cd, by rw [hl]; rfl, hs, hb⟩
theorem rread_dead (w : World) (r : Nat) (t : RS) (G : Nat → Prop) (h : RF w r t G) (hd : t.dead = true) (P M : Int) :
    Calls Try.prog 37 #[.pointer (some ⟨r, 0, none⟩), .int .i64 P, .int .i64 M] w fun e w' => ∃ d cd, e = .returned (.tuple #[.slice d 0 cd, .int .i64 5]) ∧ Below w.heap.size w w' := by
  have hc : chk t.dead t.b.length P M = 5 := by unfold chk; rw [hd, if_pos rfl]
  refine (rread_ok w r t G h P M [] 5 (by unfold rreadL; rw [if_pos (by simp [hc])]) hc.symm).mono ?_
  rintro e w' ⟨d, cd, rfl, hs, hb⟩
  exact ⟨d, cd, rfl, hb⟩

/-- A bank of the document's, with its flash. -/
structure RK (w : World) (v r A N : Nat) (t : RS) (G : Nat → Prop) : Prop where
  fl : RF w r t G
  bk : RBA w v r A N
  fits : A + 2 * (N + 8) ≤ t.b.length
  small : N ≤ 64
  len : t.b.length ≤ 4096
theorem RK.below {w w' : World} {v r A N : Nat} {t : RS} {G : Nat → Prop} (h : RK w v r A N t G) (hb : Below w.heap.size w w') : RK w' v r A N t G := ⟨rf_kept.below h.fl hb, h.bk.below hb, h.fits, h.small, h.len⟩
theorem RK.hA {w : World} {v r A N : Nat} {t : RS} {G : Nat → Prop} (h : RK w v r A N t G) : A ≤ 4096 := by have := h.fits; have := h.len; omega

/-- What the fields of a bank are behind any calls. -/
def Kr (w : World) (v r A N : Nat) (W : World) : Prop := (W.cell? ⟨v, 0, none⟩ = some (.pointer (some ⟨r, 0, none⟩)) ∧ W.cell? ⟨v, 1, none⟩ = some (.int .i64 (A : Int)) ∧ W.cell? ⟨v, 2, none⟩ = some (.int .i64 (N : Int))) ∧ Below w.heap.size w W
theorem Kr.below {w W W' : World} {v r A N : Nat} (h : Kr w v r A N W) (hb : Below W.heap.size W W') : Kr w v r A N W' := by
  obtain ⟨⟨h1, h2, h3⟩, h4⟩ := h
  exact ⟨⟨by rw [hb.cell (World.block_lt_of_cell? W _ h1)]; exact h1, by rw [hb.cell (World.block_lt_of_cell? W _ h2)]; exact h2, by rw [hb.cell (World.block_lt_of_cell? W _ h3)]; exact h3⟩, h4.trans (hb.mono h4.size)⟩
theorem Kr.drew {w W : World} {v r A N : Nat} (h : Kr w v r A N W) : Kr w v r A N W.drew := ⟨h.1, h.2.drew⟩
theorem Kr.of {w : World} {v r A N : Nat} (h : RBA w v r A N) : Kr w v r A N w := ⟨⟨h.c0, h.c1, h.c2⟩, Below.refl _ _⟩

theorem sign_int (x : UInt8) (l : List UInt8) (hx : l[0]? = some x) : ((x.toNat : Int) == 90) = signB l := by
  rw [signB, hx]
  have h1 : (x = 90) ↔ ((x.toNat : Int) = 90) := by
    constructor
    · rintro rfl; rfl
    · intro h; exact UInt8.toNat_inj.1 (by rw [show (90 : UInt8).toNat = 90 from rfl]; omega)
  by_cases hh : x = 90
  · subst hh; rfl
  · have h2 : ¬ ((x.toNat : Int) = 90) := fun q => hh (h1.2 q)
    rw [beq_eq_false_iff_ne.2 h2, beq_eq_false_iff_ne.2 (fun q => hh (Option.some.inj q))]

set_option maxHeartbeats 3200000 in
set_option maxRecDepth 20000 in
theorem rone_dead (w : World) (v r A N : Nat) (t : RS) (G : Nat → Prop) (h : RK w v r A N t G) (hd : t.dead = true) (k : Nat) (hk : k ≤ 1) :
    Calls Try.prog 42 #[.pointer (some ⟨v, 0, none⟩), .int .i64 (k : Int)] w fun e w' => e = .returned (.tuple #[.int .u32 0, .slice none 0 0, .bool false]) ∧ Below w.heap.size w w' := by
  have H0 : Hid (Kr w v r A N w) := Kr.of h.bk
  have hN := h.small
  have hA := h.hA
  obtain ⟨M, hM⟩ : ∃ M : Nat, M = N + 8 := ⟨_, rfl⟩
  obtain ⟨Q, hQ⟩ : ∃ Q : Nat, Q = k * M := ⟨_, rfl⟩
  obtain ⟨P, hP⟩ : ∃ P : Nat, P = A + Q := ⟨_, rfl⟩
  have hQl : Q ≤ 72 := by rw [hQ]; exact Nat.le_trans (Nat.mul_le_mul hk (by omega : M ≤ 72)) (by omega)
  have K2 : Hid (∀ W, Kr w v r A N W → Calls Try.prog 37 #[.pointer (some ⟨r, 0, none⟩), .int .i64 (P : Int), .int .i64 (M : Int)] W fun e w' => ∃ d cd, e = .returned (.tuple #[.slice d 0 cd, .int .i64 5]) ∧ Below W.heap.size W w' ∧ Below w.heap.size w w') := fun W hb => by
    refine (rread_dead W r t G (h.below hb.2).fl hd P M).mono ?_
    rintro e w' ⟨d, cd, h1, h2⟩
    exact ⟨d, cd, h1, h2, hb.2.trans (h2.mono hb.2.size)⟩
  have e1 : (N : Int) + 8 = (M : Int) := by omega
  have e2 : (k : Int) * (M : Int) = (Q : Int) := by rw [hQ]; simp
  have e3 : (A : Int) + (Q : Int) = (P : Int) := by omega
  have l1 : M ≤ 72 := by omega
  have l2 : P ≤ 5000 := by omega
  have d1 : IntKind.i64.wrap ((k : Int) * (M : Int)) = (Q : Int) := by rw [e2, IntKind.wrap_i64]; omega
  have d2 : IntKind.i64.wrap ((A : Int) + (Q : Int)) = (P : Int) := by rw [e3, IntKind.wrap_i64]; omega
  have d3 : IntKind.i64.wrap ((N : Int) + 8) = (M : Int) := by rw [e1, IntKind.wrap_i64]; omega
  have d4 : IntKind.i64.wrap (M : Int) = (M : Int) := by rw [IntKind.wrap_i64]; omega
  have d5 : IntKind.i64.wrap (Q : Int) = (Q : Int) := by rw [IntKind.wrap_i64]; omega
  have d6 : IntKind.i64.wrap (P : Int) = (P : Int) := by rw [IntKind.wrap_i64]; omega
  obtain ⟨⟨c0, c1, c2⟩, _⟩ := H0.out
  clear h hd hM hQ hP hk
  go_enter Try.func42, Try.ntmps42
  go_wp2
  go_region_held3 (fun W => (W.cell? ⟨v, 0, none⟩ = some (.pointer (some ⟨r, 0, none⟩)) ∧ W.cell? ⟨v, 1, none⟩ = some (.int .i64 (A : Int)) ∧ W.cell? ⟨v, 2, none⟩ = some (.int .i64 (N : Int))) ∧ Below w.heap.size w W)
    (first | exact H0.out | assumption | exact H0.out.drew | exact Kr.drew (by assumption) | exact Kr.below (by assumption) (by assumption))
    (first | (go_at_call 37; (with_reducible refine (K2.out _ ?_).mono ?_); (focus (first | exact H0.out | assumption | exact H0.out.drew | exact Kr.drew (by assumption) | exact Kr.below (by assumption) (by assumption))); rintro e w9 ⟨d, cd, rfl, hb8, hbr⟩))
  go_wp2
  go_ret3
  exact ⟨rfl, hbr⟩

/-- What one answers of a bank that is not whole. -/
def NoOne (w : World) (e : Ending) (w' : World) : Prop := ∃ (z : Nat) (a : Option Addr) (n c : Nat), e = .returned (.tuple #[.int .u32 (z : Int), .slice a n c, .bool false]) ∧ Below w.heap.size w w'
/-- .. and of one that is. -/
def YesOne (w : World) (N z : Nat) (D : List UInt8) (e : Ending) (w' : World) : Prop := ∃ (d o c : Nat), e = .returned (.tuple #[.int .u32 (z : Int), .slice (some ⟨d, o, none⟩) N c, .bool true]) ∧ Sees w' (some ⟨d, o, none⟩) c D ∧ Below w.heap.size w w'

set_option maxHeartbeats 3200000 in
set_option maxRecDepth 20000 in
theorem rone_live (w : World) (v r A N : Nat) (t : RS) (G : Nat → Prop) (h : RK w v r A N t G) (hd : t.dead = false) (k : Nat) (hk : k ≤ 1) (R : List UInt8) (hR : R = rowL (psOf t) A N k) :
    Calls Try.prog 42 #[.pointer (some ⟨v, 0, none⟩), .int .i64 (k : Int)] w fun e w' => (wholeB R = false → NoOne w e w') ∧ (wholeB R = true → YesOne w N (numL R) ((R.drop 5).take N) e w') := by
  have H0 : Hid (Kr w v r A N w) := Kr.of h.bk
  have hN := h.small
  have hA := h.hA
  obtain ⟨m, hm⟩ : ∃ m : Nat, m = N + 7 := ⟨_, rfl⟩
  obtain ⟨Q, hQ⟩ : ∃ Q : Nat, Q = k * (m + 1) := ⟨_, rfl⟩
  obtain ⟨P, hP⟩ : ∃ P : Nat, P = A + Q := ⟨_, rfl⟩
  have hQl : Q ≤ m + 1 := by rw [hQ]; exact Nat.le_trans (Nat.mul_le_mul_right _ hk) (by omega)
  have hRl : R.length = m + 1 := by rw [hR, rowL_len (psOf t) A N k hk h.fits]; omega
  have K2 : Hid (∀ W, Kr w v r A N W → Calls Try.prog 37 #[.pointer (some ⟨r, 0, none⟩), .int .i64 (P : Int), .int .i64 ((m : Int) + 1)] W fun e w' => ∃ d o cd, e = .returned (.tuple #[.slice (some ⟨d, o, none⟩) (m + 1) cd, .int .i64 0]) ∧ Sees w' (some ⟨d, o, none⟩) cd R ∧ Below W.heap.size W w' ∧ Below w.heap.size w w') := fun W hb => by
    have h1 := rread_row W r t G (h.below hb.2).fl hd P (m + 1) (by omega) (by have := h.fits; omega) R (by rw [hR, rowL, hP, hQ, show N + 8 = m + 1 by omega]; rfl)
    rw [show ((m + 1 : Nat) : Int) = (m : Int) + 1 by omega] at h1
    refine h1.mono ?_
    rintro e w' ⟨d, o, cd, h1, h2, h3⟩
    exact ⟨d, o, cd, h1, h2, h3, hb.2.trans (h3.mono hb.2.size)⟩
  have e1 : (N : Int) + 8 = (m : Int) + 1 := by omega
  have e2 : (k : Int) * ((m : Int) + 1) = (Q : Int) := by rw [hQ]; simp
  have e3 : (A : Int) + (Q : Int) = (P : Int) := by omega
  have l1 : m ≤ 71 := by omega
  have l2 : P ≤ 5000 := by omega
  have d3 : IntKind.i64.wrap ((N : Int) + 8) = (m : Int) + 1 := by rw [e1, IntKind.wrap_i64]; omega
  have d4 : IntKind.i64.wrap ((m : Int) + 1) = (m : Int) + 1 := by rw [IntKind.wrap_i64]; omega
  have d5 : IntKind.i64.wrap (Q : Int) = (Q : Int) := by rw [IntKind.wrap_i64]; omega
  have d6 : IntKind.i64.wrap (P : Int) = (P : Int) := by rw [IntKind.wrap_i64]; omega
  obtain ⟨⟨c0, c1, c2⟩, _⟩ := H0.out
  have HRl : Hid (R.length = m + 1) := hRl
  obtain ⟨x, hx⟩ : ∃ x, R[0]? = some x := ⟨R[0]'(by omega), by simp⟩
  have hsg := sign_int x R hx
  have HX : Hid (R[0]? = some x) := hx
  have HN7 : Hid (m = N + 7) := hm
  have ew : wholeB R = (signB R && goodL (R.drop 1) && (numL R != 4294967295)) := rfl
  clear h hd hm hQ hP hk hR hRl hx
  go_enter Try.func42, Try.ntmps42
  go_wp2
  go_region_held3 (fun W => (W.cell? ⟨v, 0, none⟩ = some (.pointer (some ⟨r, 0, none⟩)) ∧ W.cell? ⟨v, 1, none⟩ = some (.int .i64 (A : Int)) ∧ W.cell? ⟨v, 2, none⟩ = some (.int .i64 (N : Int))) ∧ Below w.heap.size w W)
    (first | exact H0.out | assumption | exact H0.out.drew | exact Kr.drew (by assumption) | exact Kr.below (by assumption) (by assumption))
    (first | (go_at_call 37; (with_reducible refine (K2.out _ ?_).mono ?_); (focus (first | exact H0.out | assumption | exact H0.out.drew | exact Kr.drew (by assumption) | exact Kr.below (by assumption) (by assumption))); rintro e w9 ⟨d, o, cd, rfl, hs9, hb8, hbr⟩))
  have hkr : Kr w v r A N w9 := H0.out.below hbr
  obtain ⟨b1, o1, he, hcell⟩ := hs9.get HX.out
  simp only [Option.some.injEq, Addr.mk.injEq, and_true] at he
  obtain ⟨rfl, rfl⟩ := he
  rw [Nat.add_zero] at hcell
  have hfit : m + 1 ≤ cd := by have := hs9.fits; have := HRl.out; omega
  have hroom : cd ≤ 9223372036854775807 := by have := hs9.room; unfold maxLen at this; omega
  have HS9 : Hid (Sees w9 (some ⟨d, o, none⟩) cd R) := hs9
  clear K2 hb8 hs9 H0 c0 c1 c2
  cases hsB : signB R
  · rw [hsB] at hsg
    have hsg2 : ((x.toNat : Int) != 90) = true := by rw [bne, hsg]; rfl
    have hsg3 : ¬ (x.toNat : Int) = 90 := by simpa using hsg
    go_wp2
    go_ret3
    exact ⟨fun _ => ⟨0, none, 0, 0, rfl, hbr⟩, fun hh => by rw [ew, hsB] at hh; simp at hh⟩
  · rw [hsB] at hsg
    have hsg2 : ((x.toNat : Int) != 90) = false := by rw [bne, hsg]; rfl
    have hsg3 : (x.toNat : Int) = 90 := by simpa using hsg
    have hgd := rgood_any w9 (some ⟨d, o + 1, none⟩) (cd - 1) (R.drop 1) (HS9.out.drop 1 (by have := HRl.out; omega)) (by have := HRl.out; simp; omega)
    have hdl : (R.drop 1).length = m := by have := HRl.out; simp; omega
    rw [hdl] at hgd
    cases hgB : goodL (R.drop 1)
    · rw [hgB] at hgd
      clear hdl
      go_wp2_with fail
      refine hgd.mono ?_
      rintro e w10 ⟨rfl, hb10⟩
      clear hgd
      go_wp2
      go_ret3
      exact ⟨fun _ => ⟨0, none, 0, 0, rfl, hbr.trans (hb10.mono hbr.size)⟩, fun hh => by rw [ew, hsB, hgB] at hh; simp at hh⟩
    · rw [hgB] at hgd
      clear hdl
      go_wp2_with fail
      refine hgd.mono ?_
      rintro e w10 ⟨rfl, hb10⟩
      clear hgd
      have hkr2 := hkr.below hb10
      have HS10 : Hid (Sees w10 (some ⟨d, o, none⟩) cd R) := HS9.out.below hb10
      have hld := RefLoad_yes w10 (some ⟨d, o, none⟩) cd R 1 HS10.out (by have := HRl.out; have := HN7.out; omega)
      obtain ⟨z, hz⟩ : ∃ z, z = numL R := ⟨_, rfl⟩
      rw [HRl.out, show be ((R.drop 1).take 4) = z from hz.symm] at hld
      have HZ : Hid (z = numL R) := hz
      have HWB : Hid (((z : Int) != 4294967295) = wholeB R) := by
        rw [ew, hsB, hgB, ← hz]
        by_cases hh : z = 4294967295
        · subst hh; exact (rfl : _ = _)
        · rw [bne_iff_ne.2 hh, bne_iff_ne.2 (by omega : (z : Int) ≠ 4294967295)]; exact (rfl : _ = _)
      obtain ⟨⟨c0, c1, c2⟩, hbk⟩ := hkr2
      clear hkr hz hcell hbr hb10
      go_wp2_with fail
      refine hld.mono ?_
      rintro e w11 ⟨rfl, rfl⟩
      clear hld
      have hNm := HN7.out
      have g1 : IntKind.i64.wrap (5 + (N : Int)) = 5 + (N : Int) := by rw [IntKind.wrap_i64]; omega
      have g2 : ((5 : Int) + (N : Int)).toNat = 5 + N := by omega
      have g3 : (5 : Int) ≤ 5 + (N : Int) := by omega
      have g4 : (5 : Int) + (N : Int) ≤ (cd : Int) := by omega
      have g5 : 5 + N - 5 = N := by omega
      have g6 : (0 : Int) ≤ 5 + (N : Int) := by omega
      go_wp2
      go_quiet (fail)
      go_wp2
      go_ret3
      have hsr : Sees (w11.drewN nq) (some ⟨d, o + 5, none⟩) (cd - 5) ((R.drop 5).take N) := ((HS10.out.drop 5 (by have := HRl.out; omega)).take N).drewN nq
      refine ⟨fun hh => ⟨z, some ⟨d, o + 5, none⟩, N, cd - 5, ?_, below_drewN hbk _⟩, fun hh => ⟨d, o + 5, cd - 5, ?_, hsr, below_drewN hbk _⟩⟩
      · rw [← hh, ← HWB.out]; rfl
      · rw [← hh, ← HWB.out, ← HZ.out]; rfl
theorem rone_yes (w : World) (v r A N : Nat) (t : RS) (G : Nat → Prop) (h : RK w v r A N t G) (hd : t.dead = false) (k : Nat) (hk : k ≤ 1) (R : List UInt8) (hR : R = rowL (psOf t) A N k) (hw : wholeB R = true) (z : Nat) (hz : z = numL R) (D : List UInt8) (hD : D = (R.drop 5).take N) :
    Calls Try.prog 42 #[.pointer (some ⟨v, 0, none⟩), .int .i64 (k : Int)] w fun e w' => YesOne w N z D e w' := by
  rw [hz, hD]
  exact (rone_live w v r A N t G h hd k hk R hR).mono fun _ _ hh => hh.2 hw
theorem rone_no (w : World) (v r A N : Nat) (t : RS) (G : Nat → Prop) (h : RK w v r A N t G) (k : Nat) (hk : k ≤ 1) (hw : t.dead = true ∨ wholeB (rowL (psOf t) A N k) = false) :
    Calls Try.prog 42 #[.pointer (some ⟨v, 0, none⟩), .int .i64 (k : Int)] w fun e w' => NoOne w e w' := by
  cases hd : t.dead
  · rcases hw with hw | hw
    · rw [hd] at hw; cases hw
    · exact (rone_live w v r A N t G h hd k hk _ rfl).mono fun _ _ hh => hh.1 hw
  · refine (rone_dead w v r A N t G h hd k hk).mono ?_
    rintro e w' ⟨rfl, hb⟩
    exact ⟨0, none, 0, 0, rfl, hb⟩
end Go.Proofs.Ytgnllmcgebonpaa
