/-
  The contracts of New, of the program and of the document.

  The document's bank: the contracts of one and newest.

  The document's bank: the contracts of newest, Load, Number and Fresh.

  The document's bank: the contract of Save.
-/
import Derived.Test.YtjmbioedpghopaaBankE
import Derived.Test.YtjmbioedpghopaaWord
namespace Go.Proofs.Ytjmbioedpghopaa
open Go.ChangeShapes Go.WideShapes Go.ChangeAt Go.RowKit

/-- May banks of n bytes be at a place of a flash of L bytes. -/
def mayB (L : Nat) (a n : Int) : Prop := 0 ≤ n ∧ n ≤ 64 ∧ 0 ≤ a ∧ a ≤ (L : Int) - 2 * (n + 8)

theorem read_zero (w : World) (g : Nat) (s : PS) (F : Nat → Prop) (h : PF w g s F) : Calls Try.prog 45 #[.pointer (some ⟨g, 0, none⟩), .int .i64 0, .int .i64 0] w fun e w' => ∃ d n cd E, (E = 0 ∨ E = 5) ∧ e = .returned (.tuple #[.slice d n cd, .int .i64 E]) ∧ Below w.heap.size w w' := by
  refine (read_ok w g s F h 0 0 (by decide)).mono ?_
  rintro e w' ⟨d, cd, r, E, _, hE, rfl, _, hb⟩
  refine ⟨d, r.length, cd, (E : Int), ?_, rfl, hb⟩
  rw [hE.out]
  unfold checkE
  cases s.dead
  · left; rw [if_neg (by simp), if_neg (by omega)]; rfl
  · right; rfl

theorem bnew_ok (w : World) (g : Nat) (s : PS) (F : Nat → Prop) (h : PF w g s F) (A N : Nat) (hm : mayB s.b.length A N) :
    Calls Try.prog 31 #[.pointer (some ⟨g, 0, none⟩), .int .i64 (A : Int), .int .i64 (N : Int)] w fun e w' => ∃ b, e = .returned (.tuple #[.pointer (some ⟨b, 0, none⟩), .int .i64 0]) ∧ w.heap.size ≤ b ∧ BA w' b g A N ∧ Below w.heap.size w w' := by
  obtain ⟨_, h1, _, h2⟩ := hm
  have hs := read_zero w g s F h
  obtain ⟨q, cap, cur, hpa, _⟩ := id h
  have hsm := hpa.small
  have HLN : Hid (∀ W, Below w.heap.size w W → Calls Try.prog 46 #[.pointer (some ⟨g, 0, none⟩)] W fun e w' => e = .returned (.int .i64 (s.b.length : Int)) ∧ w' = W) := fun W hb => by
    obtain ⟨q, cap, cur, h2, _⟩ := pf_kept.below h hb
    exact len_ok W g s q cap cur h2
  obtain ⟨L, hL⟩ : ∃ L, L = s.b.length := ⟨_, rfl⟩
  rw [← hL] at HLN hsm h2
  have e1 : IntKind.i64.wrap ((N : Int) + 8) = (N : Int) + 8 := by rw [IntKind.wrap_i64]; omega
  have d1 : ¬ ((L : Int) - 2 * ((N : Int) + 8) < (A : Int)) := by omega
  have d0 : ¬ ((64 : Int) < (N : Int)) := by omega
  clear h hpa hL
  go_enter Try.func31, Try.ntmps31
  go_wp2_with fail
  refine hs.mono ?_
  rintro e w1 ⟨d, n, cd, E, hE, rfl, hb⟩
  have hln := HLN.out w1 hb
  clear hs HLN
  rcases hE with rfl | rfl
  all_goals
    go_wp2_with fail
    refine hln.mono ?_
    rintro e w2 ⟨rfl, rfl⟩
    clear hln
    go_wp2
    go_ret2
    exact ⟨w2.heap.size, rfl, hb.size, heap_alloc_new _ _, hb.alloc hb.size _⟩
theorem bnew_refused (w : World) (g : Nat) (s : PS) (F : Nat → Prop) (h : PF w g s F) (a n : Int) (ha : (Lit.int .i64 a).wf = true) (hn : (Lit.int .i64 n).wf = true) (hm : ¬ mayB s.b.length a n) :
    Calls Try.prog 31 #[.pointer (some ⟨g, 0, none⟩), .int .i64 a, .int .i64 n] w fun e w' => e = .returned (.tuple #[.pointer none, .int .i64 1]) ∧ Below w.heap.size w w' := by
  have hs := read_zero w g s F h
  have ha := bounds_i64 ha
  have hn := bounds_i64 hn
  obtain ⟨q, cap, cur, hpa, _⟩ := id h
  have hsm := hpa.small
  have HLN : Hid (∀ W, Below w.heap.size w W → Calls Try.prog 46 #[.pointer (some ⟨g, 0, none⟩)] W fun e w' => e = .returned (.int .i64 (s.b.length : Int)) ∧ w' = W) := fun W hb => by
    obtain ⟨q, cap, cur, h2, _⟩ := pf_kept.below h hb
    exact len_ok W g s q cap cur h2
  obtain ⟨L, hL⟩ : ∃ L, L = s.b.length := ⟨_, rfl⟩
  rw [← hL] at HLN hsm hm
  clear h hpa hL
  by_cases h1 : n < 0
  · clear HLN hm
    go_enter Try.func31, Try.ntmps31
    go_wp2_with fail
    refine hs.mono ?_
    rintro e w1 ⟨d, m, cd, E, hE, rfl, hb⟩
    clear hs
    rcases hE with rfl | rfl
    all_goals
      go_wp2
      go_ret2
      exact ⟨rfl, hb⟩
  · by_cases h2 : 64 < n
    · clear HLN hm
      go_enter Try.func31, Try.ntmps31
      go_wp2_with fail
      refine hs.mono ?_
      rintro e w1 ⟨d, m, cd, E, hE, rfl, hb⟩
      clear hs
      rcases hE with rfl | rfl
      all_goals
        go_wp2
        go_ret2
        exact ⟨rfl, hb⟩
    · by_cases h3 : a < 0
      · clear HLN hm
        go_enter Try.func31, Try.ntmps31
        go_wp2_with fail
        refine hs.mono ?_
        rintro e w1 ⟨d, m, cd, E, hE, rfl, hb⟩
        clear hs
        rcases hE with rfl | rfl
        all_goals
          go_wp2
          go_ret2
          exact ⟨rfl, hb⟩
      · have d1 : (L : Int) - 2 * (n + 8) < a := by unfold mayB at hm; omega
        clear hm
        go_enter Try.func31, Try.ntmps31
        go_wp2_with fail
        refine hs.mono ?_
        rintro e w1 ⟨d, m, cd, E, hE, rfl, hb⟩
        have hln := HLN.out w1 hb
        clear hs HLN
        rcases hE with rfl | rfl
        all_goals
          go_wp2_with fail
          refine hln.mono ?_
          rintro e w2 ⟨rfl, rfl⟩
          clear hln
          go_wp2
          go_ret2
          exact ⟨rfl, hb⟩

/-- A bank of the document's. -/
def RBA (w : World) (b g A N : Nat) : Prop := w.heap[b]? = some (.cells #[.pointer (some ⟨g, 0, none⟩), .int .i64 (A : Int), .int .i64 (N : Int)] 75 (0, 0))
theorem RBA.c0 {w : World} {b g A N : Nat} (h : RBA w b g A N) : w.cell? ⟨b, 0, none⟩ = some (.pointer (some ⟨g, 0, none⟩)) := cell_of_row _ _ 0 _ _ _ h
theorem RBA.c1 {w : World} {b g A N : Nat} (h : RBA w b g A N) : w.cell? ⟨b, 1, none⟩ = some (.int .i64 (A : Int)) := cell_of_row _ _ 1 _ _ _ h
theorem RBA.c2 {w : World} {b g A N : Nat} (h : RBA w b g A N) : w.cell? ⟨b, 2, none⟩ = some (.int .i64 (N : Int)) := cell_of_row _ _ 2 _ _ _ h
theorem RBA.lt {w : World} {b g A N : Nat} (h : RBA w b g A N) : b < w.heap.size := (Array.getElem?_eq_some_iff.1 h).1
theorem RBA.below {w w' : World} {b g A N : Nat} (h : RBA w b g A N) (hb : Below w.heap.size w w') : RBA w' b g A N := by
  show w'.heap[b]? = _
  rw [hb.block b h.lt]; exact h

theorem rbnew_ok (w : World) (r : Nat) (t : RS) (G : Nat → Prop) (h : RF w r t G) (A N : Nat) (hm : mayB t.b.length A N) :
    Calls Try.prog 11 #[.pointer (some ⟨r, 0, none⟩), .int .i64 (A : Int), .int .i64 (N : Int)] w fun e w' => ∃ b, e = .returned (.tuple #[.pointer (some ⟨b, 0, none⟩), .int .i64 0]) ∧ w.heap.size ≤ b ∧ RBA w' b r A N ∧ Below w.heap.size w w' := by
  obtain ⟨_, h1, _, h2⟩ := hm
  obtain ⟨v, hra, _⟩ := h
  obtain ⟨a0, cap, rfl, hs⟩ := hra.sees
  have c0 := hra.c0
  have hsm := hra.small
  obtain ⟨L, hL⟩ : ∃ L, L = t.b.length := ⟨_, rfl⟩
  rw [← hL] at c0 hsm h2
  have e1 : IntKind.i64.wrap ((N : Int) + 8) = (N : Int) + 8 := by rw [IntKind.wrap_i64]; omega
  have d1 : ¬ ((L : Int) - 2 * ((N : Int) + 8) < (A : Int)) := by omega
  have d0 : ¬ ((64 : Int) < (N : Int)) := by omega
  clear hra hs hL
  go_enter Try.func11, Try.ntmps11
  go_wp2
  go_ret2
  exact ⟨w.heap.size, rfl, Nat.le_refl _, heap_alloc_new _ _, (Below.refl _ _).alloc (Nat.le_refl _) _⟩
theorem rbnew_refused (w : World) (r : Nat) (t : RS) (G : Nat → Prop) (h : RF w r t G) (a n : Int) (ha : (Lit.int .i64 a).wf = true) (hn : (Lit.int .i64 n).wf = true) (hm : ¬ mayB t.b.length a n) :
    Calls Try.prog 11 #[.pointer (some ⟨r, 0, none⟩), .int .i64 a, .int .i64 n] w fun e w' => e = .returned (.tuple #[.pointer none, .int .i64 1]) ∧ w' = w := by
  have ha := bounds_i64 ha
  have hn := bounds_i64 hn
  obtain ⟨v, hra, _⟩ := h
  obtain ⟨a0, cap, rfl, hs⟩ := hra.sees
  have c0 := hra.c0
  have hsm := hra.small
  obtain ⟨L, hL⟩ : ∃ L, L = t.b.length := ⟨_, rfl⟩
  rw [← hL] at c0 hsm hm
  clear hra hs hL
  by_cases h1 : n < 0
  · clear hm
    go_enter Try.func11, Try.ntmps11
    go_wp2
    go_ret2
    exact ⟨rfl, rfl⟩
  · by_cases h2 : 64 < n
    · clear hm
      go_enter Try.func11, Try.ntmps11
      go_wp2
      go_ret2
      exact ⟨rfl, rfl⟩
    · by_cases h3 : a < 0
      · clear hm
        go_enter Try.func11, Try.ntmps11
        go_wp2
        go_ret2
        exact ⟨rfl, rfl⟩
      · have d1 : (L : Int) - 2 * (n + 8) < a := by unfold mayB at hm; omega
        clear hm
        go_enter Try.func11, Try.ntmps11
        go_wp2
        go_ret2
        exact ⟨rfl, rfl⟩
end Go.Proofs.Ytjmbioedpghopaa

namespace Go.Proofs.Ytjmbioedpghopaa
open Go.ChangeShapes Go.WideShapes Go.ChangeAt Go.RowKit

/-- What the document's flash holds, as the program's. -/
def psOf (t : RS) : PS := ⟨t.b, t.n, false, 0, 0, t.dead⟩

theorem rread_row (w : World) (r : Nat) (t : RS) (G : Nat → Prop) (h : RF w r t G) (hd : t.dead = false) (P M : Nat) (hM : 1 ≤ M) (hPM : P + M ≤ t.b.length) (R : List UInt8) (hR : R = (t.b.drop P).take M) :
    Calls Try.prog 47 #[.pointer (some ⟨r, 0, none⟩), .int .i64 (P : Int), .int .i64 (M : Int)] w fun e w' => ∃ d o cd, e = .returned (.tuple #[.slice (some ⟨d, o, none⟩) M cd, .int .i64 0]) ∧ Sees w' (some ⟨d, o, none⟩) cd R ∧ Below w.heap.size w w' := by
  have hc : chk t.dead t.b.length (P : Int) (M : Int) = 0 := by unfold chk; rw [hd, if_neg (by simp), if_neg (by omega)]
  refine (rread_ok w r t G h P M R 0 (by unfold rreadL; rw [if_neg (by simp [hc]), hR]; rfl) hc.symm).mono ?_
  rintro e w' ⟨d, cd, rfl, hs, hb⟩
  have hl : R.length = M := by rw [hR]; simp; omega
  obtain ⟨bb, off, rfl, _⟩ := hs.at' (by intro h0; rw [h0] at hl; simp at hl; omega)
  exact ⟨bb, off, cd, by rw [hl]; rfl, hs, hb⟩
theorem rread_dead (w : World) (r : Nat) (t : RS) (G : Nat → Prop) (h : RF w r t G) (hd : t.dead = true) (P M : Int) :
    Calls Try.prog 47 #[.pointer (some ⟨r, 0, none⟩), .int .i64 P, .int .i64 M] w fun e w' => ∃ d cd, e = .returned (.tuple #[.slice d 0 cd, .int .i64 5]) ∧ Below w.heap.size w w' := by
  have hc : chk t.dead t.b.length P M = 5 := by unfold chk; rw [hd, if_pos rfl]
  refine (rread_ok w r t G h P M [] 5 (by unfold rreadL; rw [if_pos (by simp [hc])]) hc.symm).mono ?_
  rintro e w' ⟨d, cd, rfl, hs, hb⟩
  exact ⟨d, cd, rfl, hb⟩

/-- A bank of the document's, with its flash. -/
structure RK (w : World) (v r A N : Nat) (t : RS) (G : Nat → Prop) : Prop where
  fl : RF w r t G
  bk : RBA w v r A N
  fits : A + 2 * (N + 8) ≤ t.b.length
  small : N ≤ 64
  len : t.b.length ≤ 4096
theorem RK.below {w w' : World} {v r A N : Nat} {t : RS} {G : Nat → Prop} (h : RK w v r A N t G) (hb : Below w.heap.size w w') : RK w' v r A N t G := ⟨rf_kept.below h.fl hb, h.bk.below hb, h.fits, h.small, h.len⟩
theorem RK.hA {w : World} {v r A N : Nat} {t : RS} {G : Nat → Prop} (h : RK w v r A N t G) : A ≤ 4096 := by have := h.fits; have := h.len; omega

/-- What the fields of a bank are behind any calls. -/
def Kr (w : World) (v r A N : Nat) (W : World) : Prop := (W.cell? ⟨v, 0, none⟩ = some (.pointer (some ⟨r, 0, none⟩)) ∧ W.cell? ⟨v, 1, none⟩ = some (.int .i64 (A : Int)) ∧ W.cell? ⟨v, 2, none⟩ = some (.int .i64 (N : Int))) ∧ Below w.heap.size w W
theorem Kr.below {w W W' : World} {v r A N : Nat} (h : Kr w v r A N W) (hb : Below W.heap.size W W') : Kr w v r A N W' := by
  obtain ⟨⟨h1, h2, h3⟩, h4⟩ := h
  exact ⟨⟨by rw [hb.cell (World.block_lt_of_cell? W _ h1)]; exact h1, by rw [hb.cell (World.block_lt_of_cell? W _ h2)]; exact h2, by rw [hb.cell (World.block_lt_of_cell? W _ h3)]; exact h3⟩, h4.trans (hb.mono h4.size)⟩
theorem Kr.drew {w W : World} {v r A N : Nat} (h : Kr w v r A N W) : Kr w v r A N W.drew := ⟨h.1, h.2.drew⟩
theorem Kr.of {w : World} {v r A N : Nat} (h : RBA w v r A N) : Kr w v r A N w := ⟨⟨h.c0, h.c1, h.c2⟩, Below.refl _ _⟩

theorem sign_int (x : UInt8) (l : List UInt8) (hx : l[0]? = some x) : ((x.toNat : Int) == 90) = signB l := by
  rw [signB, hx]
  have h1 : (x = 90) ↔ ((x.toNat : Int) = 90) := by
    constructor
    · rintro rfl; rfl
    · intro h; exact UInt8.toNat_inj.1 (by rw [show (90 : UInt8).toNat = 90 from rfl]; omega)
  by_cases hh : x = 90
  · subst hh; rfl
  · have h2 : ¬ ((x.toNat : Int) = 90) := fun q => hh (h1.2 q)
    rw [beq_eq_false_iff_ne.2 h2, beq_eq_false_iff_ne.2 (fun q => hh (Option.some.inj q))]

set_option maxHeartbeats 3200000 in
set_option maxRecDepth 20000 in
theorem rone_dead (w : World) (v r A N : Nat) (t : RS) (G : Nat → Prop) (h : RK w v r A N t G) (hd : t.dead = true) (k : Nat) (hk : k ≤ 1) :
    Calls Try.prog 49 #[.pointer (some ⟨v, 0, none⟩), .int .i64 (k : Int)] w fun e w' => e = .returned (.tuple #[.int .u32 0, .slice none 0 0, .bool false]) ∧ Below w.heap.size w w' := by
  have H0 : Hid (Kr w v r A N w) := Kr.of h.bk
  have hN := h.small
  have hA := h.hA
  obtain ⟨M, hM⟩ : ∃ M : Nat, M = N + 8 := ⟨_, rfl⟩
  obtain ⟨Q, hQ⟩ : ∃ Q : Nat, Q = k * M := ⟨_, rfl⟩
  obtain ⟨P, hP⟩ : ∃ P : Nat, P = A + Q := ⟨_, rfl⟩
  have hQl : Q ≤ 72 := by rw [hQ]; exact Nat.le_trans (Nat.mul_le_mul hk (by omega : M ≤ 72)) (by omega)
  have K2 : Hid (∀ W, Kr w v r A N W → Calls Try.prog 47 #[.pointer (some ⟨r, 0, none⟩), .int .i64 (P : Int), .int .i64 (M : Int)] W fun e w' => ∃ d cd, e = .returned (.tuple #[.slice d 0 cd, .int .i64 5]) ∧ Below W.heap.size W w' ∧ Below w.heap.size w w') := fun W hb => by
    refine (rread_dead W r t G (h.below hb.2).fl hd P M).mono ?_
    rintro e w' ⟨d, cd, h1, h2⟩
    exact ⟨d, cd, h1, h2, hb.2.trans (h2.mono hb.2.size)⟩
  have e1 : (N : Int) + 8 = (M : Int) := by omega
  have e2 : (k : Int) * (M : Int) = (Q : Int) := by rw [hQ]; simp
  have e3 : (A : Int) + (Q : Int) = (P : Int) := by omega
  have l1 : M ≤ 72 := by omega
  have l2 : P ≤ 5000 := by omega
  have d1 : IntKind.i64.wrap ((k : Int) * (M : Int)) = (Q : Int) := by rw [e2, IntKind.wrap_i64]; omega
  have d2 : IntKind.i64.wrap ((A : Int) + (Q : Int)) = (P : Int) := by rw [e3, IntKind.wrap_i64]; omega
  have d3 : IntKind.i64.wrap ((N : Int) + 8) = (M : Int) := by rw [e1, IntKind.wrap_i64]; omega
  have d4 : IntKind.i64.wrap (M : Int) = (M : Int) := by rw [IntKind.wrap_i64]; omega
  have d5 : IntKind.i64.wrap (Q : Int) = (Q : Int) := by rw [IntKind.wrap_i64]; omega
  have d6 : IntKind.i64.wrap (P : Int) = (P : Int) := by rw [IntKind.wrap_i64]; omega
  obtain ⟨⟨c0, c1, c2⟩, _⟩ := H0.out
  clear h hd hM hQ hP hk
  go_enter Try.func49, Try.ntmps49
  go_wp2
  go_region_held3 (fun W => (W.cell? ⟨v, 0, none⟩ = some (.pointer (some ⟨r, 0, none⟩)) ∧ W.cell? ⟨v, 1, none⟩ = some (.int .i64 (A : Int)) ∧ W.cell? ⟨v, 2, none⟩ = some (.int .i64 (N : Int))) ∧ Below w.heap.size w W)
    (first | exact H0.out | assumption | exact H0.out.drew | exact Kr.drew (by assumption) | exact Kr.below (by assumption) (by assumption))
    (first | (go_at_call 47; (with_reducible refine (K2.out _ ?_).mono ?_); (focus (first | exact H0.out | assumption | exact H0.out.drew | exact Kr.drew (by assumption) | exact Kr.below (by assumption) (by assumption))); rintro e w9 ⟨d, cd, rfl, hb8, hbr⟩))
  go_wp2
  go_ret3
  exact ⟨rfl, hbr⟩

/-- What one answers of a bank that is not whole. -/
def NoOne (w : World) (e : Ending) (w' : World) : Prop := ∃ (z : Nat) (a : Option Addr) (n c : Nat), e = .returned (.tuple #[.int .u32 (z : Int), .slice a n c, .bool false]) ∧ Below w.heap.size w w'
/-- .. and of one that is. -/
def YesOne (w : World) (N z : Nat) (D : List UInt8) (e : Ending) (w' : World) : Prop := ∃ (d o c : Nat), e = .returned (.tuple #[.int .u32 (z : Int), .slice (some ⟨d, o, none⟩) N c, .bool true]) ∧ Sees w' (some ⟨d, o, none⟩) c D ∧ Below w.heap.size w w'

set_option maxHeartbeats 3200000 in
set_option maxRecDepth 20000 in
theorem rone_live (w : World) (v r A N : Nat) (t : RS) (G : Nat → Prop) (h : RK w v r A N t G) (hd : t.dead = false) (k : Nat) (hk : k ≤ 1) (R : List UInt8) (hR : R = rowL (psOf t) A N k) :
    Calls Try.prog 49 #[.pointer (some ⟨v, 0, none⟩), .int .i64 (k : Int)] w fun e w' => (wholeB R = false → NoOne w e w') ∧ (wholeB R = true → YesOne w N (numL R) ((R.drop 5).take N) e w') := by
  have H0 : Hid (Kr w v r A N w) := Kr.of h.bk
  have hN := h.small
  have hA := h.hA
  obtain ⟨m, hm⟩ : ∃ m : Nat, m = N + 7 := ⟨_, rfl⟩
  obtain ⟨Q, hQ⟩ : ∃ Q : Nat, Q = k * (m + 1) := ⟨_, rfl⟩
  obtain ⟨P, hP⟩ : ∃ P : Nat, P = A + Q := ⟨_, rfl⟩
  have hQl : Q ≤ m + 1 := by rw [hQ]; exact Nat.le_trans (Nat.mul_le_mul_right _ hk) (by omega)
  have hRl : R.length = m + 1 := by rw [hR, rowL_len (psOf t) A N k hk h.fits]; omega
  have K2 : Hid (∀ W, Kr w v r A N W → Calls Try.prog 47 #[.pointer (some ⟨r, 0, none⟩), .int .i64 (P : Int), .int .i64 ((m : Int) + 1)] W fun e w' => ∃ d o cd, e = .returned (.tuple #[.slice (some ⟨d, o, none⟩) (m + 1) cd, .int .i64 0]) ∧ Sees w' (some ⟨d, o, none⟩) cd R ∧ Below W.heap.size W w' ∧ Below w.heap.size w w') := fun W hb => by
    have h1 := rread_row W r t G (h.below hb.2).fl hd P (m + 1) (by omega) (by have := h.fits; omega) R (by rw [hR, rowL, hP, hQ, show N + 8 = m + 1 by omega]; rfl)
    rw [show ((m + 1 : Nat) : Int) = (m : Int) + 1 by omega] at h1
    refine h1.mono ?_
    rintro e w' ⟨d, o, cd, h1, h2, h3⟩
    exact ⟨d, o, cd, h1, h2, h3, hb.2.trans (h3.mono hb.2.size)⟩
  have e1 : (N : Int) + 8 = (m : Int) + 1 := by omega
  have e2 : (k : Int) * ((m : Int) + 1) = (Q : Int) := by rw [hQ]; simp
  have e3 : (A : Int) + (Q : Int) = (P : Int) := by omega
  have l1 : m ≤ 71 := by omega
  have l2 : P ≤ 5000 := by omega
  have d3 : IntKind.i64.wrap ((N : Int) + 8) = (m : Int) + 1 := by rw [e1, IntKind.wrap_i64]; omega
  have d4 : IntKind.i64.wrap ((m : Int) + 1) = (m : Int) + 1 := by rw [IntKind.wrap_i64]; omega
  have d5 : IntKind.i64.wrap (Q : Int) = (Q : Int) := by rw [IntKind.wrap_i64]; omega
  have d6 : IntKind.i64.wrap (P : Int) = (P : Int) := by rw [IntKind.wrap_i64]; omega
  obtain ⟨⟨c0, c1, c2⟩, _⟩ := H0.out
  have HRl : Hid (R.length = m + 1) := hRl
  obtain ⟨x, hx⟩ : ∃ x, R[0]? = some x := ⟨R[0]'(by omega), by simp⟩
  have hsg := sign_int x R hx
  have HX : Hid (R[0]? = some x) := hx
  have HN7 : Hid (m = N + 7) := hm
  have ew : wholeB R = (signB R && goodL (R.drop 1) && (numL R != 4294967295)) := rfl
  clear h hd hm hQ hP hk hR hRl hx
  go_enter Try.func49, Try.ntmps49
  go_wp2
  go_region_held3 (fun W => (W.cell? ⟨v, 0, none⟩ = some (.pointer (some ⟨r, 0, none⟩)) ∧ W.cell? ⟨v, 1, none⟩ = some (.int .i64 (A : Int)) ∧ W.cell? ⟨v, 2, none⟩ = some (.int .i64 (N : Int))) ∧ Below w.heap.size w W)
    (first | exact H0.out | assumption | exact H0.out.drew | exact Kr.drew (by assumption) | exact Kr.below (by assumption) (by assumption))
    (first | (go_at_call 47; (with_reducible refine (K2.out _ ?_).mono ?_); (focus (first | exact H0.out | assumption | exact H0.out.drew | exact Kr.drew (by assumption) | exact Kr.below (by assumption) (by assumption))); rintro e w9 ⟨d, o, cd, rfl, hs9, hb8, hbr⟩))
  have hkr : Kr w v r A N w9 := H0.out.below hbr
  obtain ⟨b1, o1, he, hcell⟩ := hs9.get HX.out
  simp only [Option.some.injEq, Addr.mk.injEq, and_true] at he
  obtain ⟨rfl, rfl⟩ := he
  rw [Nat.add_zero] at hcell
  have hfit : m + 1 ≤ cd := by have := hs9.fits; have := HRl.out; omega
  have hroom : cd ≤ 9223372036854775807 := by have := hs9.room; unfold maxLen at this; omega
  have HS9 : Hid (Sees w9 (some ⟨d, o, none⟩) cd R) := hs9
  clear K2 hb8 hs9 H0 c0 c1 c2
  cases hsB : signB R
  · rw [hsB] at hsg
    have hsg2 : ((x.toNat : Int) != 90) = true := by rw [bne, hsg]; rfl
    have hsg3 : ¬ (x.toNat : Int) = 90 := by simpa using hsg
    go_wp2
    go_ret3
    exact ⟨fun _ => ⟨0, none, 0, 0, rfl, hbr⟩, fun hh => by rw [ew, hsB] at hh; simp at hh⟩
  · rw [hsB] at hsg
    have hsg2 : ((x.toNat : Int) != 90) = false := by rw [bne, hsg]; rfl
    have hsg3 : (x.toNat : Int) = 90 := by simpa using hsg
    have hgd := rgood_any w9 (some ⟨d, o + 1, none⟩) (cd - 1) (R.drop 1) (HS9.out.drop 1 (by have := HRl.out; omega)) (by have := HRl.out; simp; omega)
    have hdl : (R.drop 1).length = m := by have := HRl.out; simp; omega
    rw [hdl] at hgd
    cases hgB : goodL (R.drop 1)
    · rw [hgB] at hgd
      clear hdl
      go_wp2_with fail
      refine hgd.mono ?_
      rintro e w10 ⟨rfl, hb10⟩
      clear hgd
      go_wp2
      go_ret3
      exact ⟨fun _ => ⟨0, none, 0, 0, rfl, hbr.trans (hb10.mono hbr.size)⟩, fun hh => by rw [ew, hsB, hgB] at hh; simp at hh⟩
    · rw [hgB] at hgd
      clear hdl
      go_wp2_with fail
      refine hgd.mono ?_
      rintro e w10 ⟨rfl, hb10⟩
      clear hgd
      have hkr2 := hkr.below hb10
      have HS10 : Hid (Sees w10 (some ⟨d, o, none⟩) cd R) := HS9.out.below hb10
      have hld := RefLoad_yes w10 (some ⟨d, o, none⟩) cd R 1 HS10.out (by have := HRl.out; have := HN7.out; omega)
      obtain ⟨z, hz⟩ : ∃ z, z = numL R := ⟨_, rfl⟩
      rw [HRl.out, show be ((R.drop 1).take 4) = z from hz.symm] at hld
      have HZ : Hid (z = numL R) := hz
      have HWB : Hid (((z : Int) != 4294967295) = wholeB R) := by
        rw [ew, hsB, hgB, ← hz]
        by_cases hh : z = 4294967295
        · subst hh; exact (rfl : _ = _)
        · rw [bne_iff_ne.2 hh, bne_iff_ne.2 (by omega : (z : Int) ≠ 4294967295)]; exact (rfl : _ = _)
      obtain ⟨⟨c0, c1, c2⟩, hbk⟩ := hkr2
      clear hkr hz hcell hbr hb10
      go_wp2_with fail
      refine hld.mono ?_
      rintro e w11 ⟨rfl, rfl⟩
      clear hld
      have hNm := HN7.out
      have g1 : IntKind.i64.wrap (5 + (N : Int)) = 5 + (N : Int) := by rw [IntKind.wrap_i64]; omega
      have g2 : ((5 : Int) + (N : Int)).toNat = 5 + N := by omega
      have g3 : (5 : Int) ≤ 5 + (N : Int) := by omega
      have g4 : (5 : Int) + (N : Int) ≤ (cd : Int) := by omega
      have g5 : 5 + N - 5 = N := by omega
      have g6 : (0 : Int) ≤ 5 + (N : Int) := by omega
      go_wp2
      go_quiet (fail)
      go_wp2
      go_ret3
      have hsr : Sees (w11.drewN nq) (some ⟨d, o + 5, none⟩) (cd - 5) ((R.drop 5).take N) := ((HS10.out.drop 5 (by have := HRl.out; omega)).take N).drewN nq
      refine ⟨fun hh => ⟨z, some ⟨d, o + 5, none⟩, N, cd - 5, ?_, below_drewN hbk _⟩, fun hh => ⟨d, o + 5, cd - 5, ?_, hsr, below_drewN hbk _⟩⟩
      · rw [← hh, ← HWB.out]; rfl
      · rw [← hh, ← HWB.out, ← HZ.out]; rfl
theorem rone_yes (w : World) (v r A N : Nat) (t : RS) (G : Nat → Prop) (h : RK w v r A N t G) (hd : t.dead = false) (k : Nat) (hk : k ≤ 1) (R : List UInt8) (hR : R = rowL (psOf t) A N k) (hw : wholeB R = true) (z : Nat) (hz : z = numL R) (D : List UInt8) (hD : D = (R.drop 5).take N) :
    Calls Try.prog 49 #[.pointer (some ⟨v, 0, none⟩), .int .i64 (k : Int)] w fun e w' => YesOne w N z D e w' := by
  rw [hz, hD]
  exact (rone_live w v r A N t G h hd k hk R hR).mono fun _ _ hh => hh.2 hw
theorem rone_no (w : World) (v r A N : Nat) (t : RS) (G : Nat → Prop) (h : RK w v r A N t G) (k : Nat) (hk : k ≤ 1) (hw : t.dead = true ∨ wholeB (rowL (psOf t) A N k) = false) :
    Calls Try.prog 49 #[.pointer (some ⟨v, 0, none⟩), .int .i64 (k : Int)] w fun e w' => NoOne w e w' := by
  cases hd : t.dead
  · rcases hw with hw | hw
    · rw [hd] at hw; cases hw
    · exact (rone_live w v r A N t G h hd k hk _ rfl).mono fun _ _ hh => hh.1 hw
  · refine (rone_dead w v r A N t G h hd k hk).mono ?_
    rintro e w' ⟨rfl, hb⟩
    exact ⟨0, none, 0, 0, rfl, hb⟩
end Go.Proofs.Ytjmbioedpghopaa

namespace Go.Proofs.Ytjmbioedpghopaa
open Go.ChangeShapes Go.WideShapes Go.ChangeAt Go.RowKit

/-- Which one the document's newest tells: -1, if there is none. -/
def rnV (t : RS) (A N : Nat) : Int := if t.dead = true then -1 else match newI (psOf t) A N with | none => -1 | some k => (k : Int)

set_option maxHeartbeats 3200000 in
set_option maxRecDepth 20000 in
theorem rnewest_ok (w : World) (v r A N : Nat) (t : RS) (G : Nat → Prop) (h : RK w v r A N t G) (V : Int) (hV : V = rnV t A N) :
    Calls Try.prog 48 #[.pointer (some ⟨v, 0, none⟩)] w fun e w' => e = .returned (.int .i64 V) ∧ Below w.heap.size w w' := by
  have HK : Hid (∀ W, Below w.heap.size w W → RK W v r A N t G) := fun W hb => h.below hb
  by_cases hx : t.dead = true ∨ wholeB (rowL (psOf t) A N 0) = false
  · have k0 := rone_no w v r A N t G h 0 (by omega) hx
    by_cases hy : t.dead = true ∨ wholeB (rowL (psOf t) A N 1) = false
    · have e1 : V = -1 := by
        rw [hV, rnV]
        cases hd : t.dead
        · simp only [hd, Bool.false_eq_true, false_or] at hx hy
          rw [newI, newR, hx, hy]; rfl
        · rfl
      subst e1
      have HY : Hid (∀ W, Below w.heap.size w W → Calls Try.prog 49 #[.pointer (some ⟨v, 0, none⟩), .int .i64 1] W fun e w' => NoOne W e w') := fun W hb => rone_no W v r A N t G (HK.out W hb) 1 (by omega) hy
      clear h hx hy hV HK
      go_enter Try.func48, Try.ntmps48
      go_wp2_with fail
      refine k0.mono ?_
      rintro e w1 ⟨z, a, n, c, rfl, hb⟩
      have k1 := HY.out w1 hb
      clear k0 HY
      go_wp2_with fail
      refine k1.mono ?_
      rintro e w2 ⟨z2, a2, n2, c2, rfl, hb2⟩
      clear k1
      go_wp2
      go_ret
      exact ⟨rfl, hb.trans (hb2.mono hb.size)⟩
    · have hd : t.dead = false := by cases hd : t.dead; rfl; exact absurd (.inl hd) hy
      have hyw : wholeB (rowL (psOf t) A N 1) = true := by cases hq : wholeB (rowL (psOf t) A N 1); exact absurd (.inr hq) hy; rfl
      have e1 : V = 1 := by
        rw [hV, rnV, if_neg (by simp [hd])]
        simp only [hd, Bool.false_eq_true, false_or] at hx
        rw [newI, newR, hx, hyw]; rfl
      subst e1
      have HY : Hid (∀ W, Below w.heap.size w W → Calls Try.prog 49 #[.pointer (some ⟨v, 0, none⟩), .int .i64 1] W fun e w' => YesOne W N _ _ e w') := fun W hb => rone_yes W v r A N t G (HK.out W hb) hd 1 (by omega) _ rfl hyw _ rfl _ rfl
      clear h hx hy hV HK hd hyw
      go_enter Try.func48, Try.ntmps48
      go_wp2_with fail
      refine k0.mono ?_
      rintro e w1 ⟨z, a, n, c, rfl, hb⟩
      have k1 := HY.out w1 hb
      clear k0 HY
      go_wp2_with fail
      refine k1.mono ?_
      rintro e w2 ⟨d2, o2, c2, rfl, hs2, hb2⟩
      clear k1 hs2
      go_wp2
      go_ret
      exact ⟨rfl, hb.trans (hb2.mono hb.size)⟩
  · have hd : t.dead = false := by cases hd : t.dead; rfl; exact absurd (.inl hd) hx
    have hxw : wholeB (rowL (psOf t) A N 0) = true := by cases hq : wholeB (rowL (psOf t) A N 0); exact absurd (.inr hq) hx; rfl
    obtain ⟨z, hz⟩ : ∃ z, z = numL (rowL (psOf t) A N 0) := ⟨_, rfl⟩
    have k0 := rone_yes w v r A N t G h hd 0 (by omega) _ rfl hxw z hz _ rfl
    by_cases hy : wholeB (rowL (psOf t) A N 1) = false
    · have e1 : V = 0 := by
        rw [hV, rnV, if_neg (by simp [hd]), newI, newR, hxw, hy]; rfl
      subst e1
      have HY : Hid (∀ W, Below w.heap.size w W → Calls Try.prog 49 #[.pointer (some ⟨v, 0, none⟩), .int .i64 1] W fun e w' => NoOne W e w') := fun W hb => rone_no W v r A N t G (HK.out W hb) 1 (by omega) (.inr hy)
      clear h hx hy hV HK hd hxw hz
      go_enter Try.func48, Try.ntmps48
      go_wp2_with fail
      refine k0.mono ?_
      rintro e w1 ⟨d1, o1, c1, rfl, hs1, hb⟩
      have k1 := HY.out w1 hb
      clear k0 HY hs1
      go_wp2_with fail
      refine k1.mono ?_
      rintro e w2 ⟨z2, a2, n2, c2, rfl, hb2⟩
      clear k1
      go_wp2
      go_ret
      exact ⟨rfl, hb.trans (hb2.mono hb.size)⟩
    · have hyw : wholeB (rowL (psOf t) A N 1) = true := by simpa using hy
      obtain ⟨y, hyz⟩ : ∃ z, z = numL (rowL (psOf t) A N 1) := ⟨_, rfl⟩
      have HY : Hid (∀ W, Below w.heap.size w W → Calls Try.prog 49 #[.pointer (some ⟨v, 0, none⟩), .int .i64 1] W fun e w' => YesOne W N y _ e w') := fun W hb => rone_yes W v r A N t G (HK.out W hb) hd 1 (by omega) _ rfl hyw y hyz _ rfl
      have hr : rnV t A N = if y ≤ z then 0 else 1 := by
        rw [rnV, if_neg (by simp [hd]), newI, newR, hxw, hyw, ← hz, ← hyz]
        by_cases hh : y ≤ z <;> simp [hh]
      rw [hr] at hV
      clear h hx hy HK hd hxw hyw hz hyz hr
      by_cases hle : y ≤ z
      · rw [if_pos hle] at hV
        subst hV
        go_enter Try.func48, Try.ntmps48
        go_wp2_with fail
        refine k0.mono ?_
        rintro e w1 ⟨d1, o1, c1, rfl, hs1, hb⟩
        have k1 := HY.out w1 hb
        clear k0 HY hs1
        go_wp2_with fail
        refine k1.mono ?_
        rintro e w2 ⟨d2, o2, c2, rfl, hs2, hb2⟩
        clear k1 hs2
        go_wp2
        go_ret
        exact ⟨rfl, hb.trans (hb2.mono hb.size)⟩
      · rw [if_neg hle] at hV
        subst hV
        go_enter Try.func48, Try.ntmps48
        go_wp2_with fail
        refine k0.mono ?_
        rintro e w1 ⟨d1, o1, c1, rfl, hs1, hb⟩
        have k1 := HY.out w1 hb
        clear k0 HY hs1
        go_wp2_with fail
        refine k1.mono ?_
        rintro e w2 ⟨d2, o2, c2, rfl, hs2, hb2⟩
        clear k1 hs2
        go_wp2
        go_ret
        exact ⟨rfl, hb.trans (hb2.mono hb.size)⟩

theorem rnV_some {t : RS} {A N k : Nat} (hd : t.dead = false) (h : newI (psOf t) A N = some k) : rnV t A N = (k : Int) := by rw [rnV, if_neg (by simp [hd]), h]
theorem rnV_none {t : RS} {A N : Nat} (hd : t.dead = false) (h : newI (psOf t) A N = none) : rnV t A N = -1 := by rw [rnV, if_neg (by simp [hd]), h]
theorem rnV_dead {t : RS} {A N : Nat} (hd : t.dead = true) : rnV t A N = -1 := by rw [rnV, if_pos hd]

theorem rnum_ok (w : World) (v r A N : Nat) (t : RS) (G : Nat → Prop) (h : RK w v r A N t G) (z : Nat) (hz : z = numN (psOf t) A N) :
    Calls Try.prog 68 #[.pointer (some ⟨v, 0, none⟩)] w fun e w' => e = .returned (.int .u32 (z : Int)) ∧ Below w.heap.size w w' := by
  have key : (rnV t A N = -1 ∧ z = 0) ∨ ∃ k : Nat, k ≤ 1 ∧ rnV t A N = (k : Int) ∧ t.dead = false ∧ wholeB (rowL (psOf t) A N k) = true ∧ z = numL (rowL (psOf t) A N k) := by
    cases hd : t.dead
    · cases hn : newI (psOf t) A N with
      | none => exact .inl ⟨rnV_none hd hn, by rw [hz, numN, if_neg (by simp [psOf, hd]), hn]⟩
      | some k => exact .inr ⟨k, newI_le hn, rnV_some hd hn, rfl, newI_whole hn, by rw [hz, numN, if_neg (by simp [psOf, hd]), hn]⟩
    · exact .inl ⟨rnV_dead hd, by rw [hz, numN, if_pos (by simp [psOf, hd])]⟩
  rcases key with ⟨h1, rfl⟩ | ⟨k, hk, h1, hd, hw, hzk⟩
  · have k0 := rnewest_ok w v r A N t G h _ h1.symm
    clear h h1 hz
    go_enter Try.func68, Try.ntmps68
    go_wp2_with fail
    refine k0.mono ?_
    rintro e w1 ⟨rfl, hb⟩
    clear k0
    go_wp2
    go_ret
    exact ⟨rfl, hb⟩
  · have k0 := rnewest_ok w v r A N t G h _ h1.symm
    have HY : Hid (∀ W, Below w.heap.size w W → Calls Try.prog 49 #[.pointer (some ⟨v, 0, none⟩), .int .i64 (k : Int)] W fun e w' => YesOne W N z _ e w') := fun W hb => rone_yes W v r A N t G (h.below hb) hd k hk _ rfl hw z hzk _ rfl
    clear h h1 hz hd hw hzk
    go_enter Try.func68, Try.ntmps68
    go_wp2_with fail
    refine k0.mono ?_
    rintro e w1 ⟨rfl, hb⟩
    have k1 := HY.out w1 hb
    clear k0 HY
    go_wp2_with fail
    refine k1.mono ?_
    rintro e w2 ⟨d2, o2, c2, rfl, hs2, hb2⟩
    clear k1 hs2
    go_wp2
    go_ret
    exact ⟨rfl, hb.trans (hb2.mono hb.size)⟩

/-- A Read of no byte. -/
theorem rread_none (w : World) (v r A N : Nat) (t : RS) (G : Nat → Prop) (h : RK w v r A N t G) (E : Int) (hE : E = if t.dead = true then 5 else 0) :
    Calls Try.prog 47 #[.pointer (some ⟨r, 0, none⟩), .int .i64 (A : Int), .int .i64 0] w fun e w' => ∃ d cd, e = .returned (.tuple #[.slice d 0 cd, .int .i64 E]) ∧ Below w.heap.size w w' := by
  cases hd : t.dead
  · have hf := h.fits
    have hc : chk t.dead t.b.length (A : Int) 0 = 0 := by unfold chk; rw [hd, if_neg (by simp), if_neg (by omega)]
    refine (rread_ok w r t G h.fl A 0 [] 0 (by unfold rreadL; rw [if_neg (by simp [hc])]; rfl) hc.symm).mono ?_
    rintro e w' ⟨d, cd, rfl, hs, hb⟩
    exact ⟨d, cd, by rw [hE, hd]; rfl, hb⟩
  · refine (rread_dead w r t G h.fl hd A 0).mono ?_
    rintro e w' ⟨d, cd, rfl, hb⟩
    exact ⟨d, cd, by rw [hE, hd]; rfl, hb⟩

set_option maxHeartbeats 3200000 in
set_option maxRecDepth 20000 in
theorem rload_ok (w : World) (v r A N : Nat) (t : RS) (G : Nat → Prop) (h : RK w v r A N t G) (R : List UInt8) (E : Nat) (hR : R = loadL (psOf t) A N) (hE : E = loadE (psOf t) A N) :
    Calls Try.prog 32 #[.pointer (some ⟨v, 0, none⟩)] w fun e w' => ∃ d cd, e = .returned (.tuple #[.slice d R.length cd, .int .i64 (E : Int)]) ∧ Sees w' d cd R ∧ Below w.heap.size w w' := by
  have H0 : Hid (Kr w v r A N w) := Kr.of h.bk
  have HK : Hid (∀ W, Below w.heap.size w W → RK W v r A N t G) := fun W hb => h.below hb
  obtain ⟨⟨c0, c1, c2⟩, _⟩ := H0.out
  cases hd : t.dead
  · have K2 : Hid (∀ W, Kr w v r A N W → Calls Try.prog 47 #[.pointer (some ⟨r, 0, none⟩), .int .i64 (A : Int), .int .i64 0] W fun e w' => ∃ d cd, e = .returned (.tuple #[.slice d 0 cd, .int .i64 0]) ∧ Below W.heap.size W w' ∧ Below w.heap.size w w') := fun W hb => by
      refine (rread_none W v r A N t G (h.below hb.2) 0 (by rw [hd]; rfl)).mono ?_
      rintro e w' ⟨d, cd, h1, h2⟩
      exact ⟨d, cd, h1, h2, hb.2.trans (h2.mono hb.2.size)⟩
    cases hn : newI (psOf t) A N with
    | none =>
      have e1 : R = [] := by rw [hR, loadL, if_neg (by simp [psOf, hd]), hn]
      have e2 : E = 8 := by rw [hE, loadE, if_neg (by simp [psOf, hd]), hn]
      have K3 : Hid (∀ W, Below w.heap.size w W → Calls Try.prog 48 #[.pointer (some ⟨v, 0, none⟩)] W fun e w' => e = .returned (.int .i64 (-1)) ∧ Below W.heap.size W w') := fun W hb => rnewest_ok W v r A N t G (HK.out W hb) _ (rnV_none hd hn).symm
      subst e1 e2
      clear h hR hE hd hn HK
      go_enter Try.func32, Try.ntmps32
      go_wp2
      go_region_held3 (fun W => (W.cell? ⟨v, 0, none⟩ = some (.pointer (some ⟨r, 0, none⟩)) ∧ W.cell? ⟨v, 1, none⟩ = some (.int .i64 (A : Int)) ∧ W.cell? ⟨v, 2, none⟩ = some (.int .i64 (N : Int))) ∧ Below w.heap.size w W)
        (first | exact H0.out | assumption | exact H0.out.drew | exact Kr.drew (by assumption) | exact Kr.below (by assumption) (by assumption))
        (first | (go_at_call 47; (with_reducible refine (K2.out _ ?_).mono ?_); (focus (first | exact H0.out | assumption | exact H0.out.drew | exact Kr.drew (by assumption) | exact Kr.below (by assumption) (by assumption))); rintro e w9 ⟨d, cd, rfl, hb8, hbr⟩))
      have k3 := K3.out w9 hbr
      clear K2 K3 hb8 H0 c0 c1 c2
      go_wp2_with fail
      refine k3.mono ?_
      rintro e w10 ⟨rfl, hb10⟩
      clear k3
      go_wp2
      go_ret2
      exact ⟨none, 0, rfl, Sees.nil' _, hbr.trans (hb10.mono hbr.size)⟩
    | some k =>
      have e1 : R = ((rowL (psOf t) A N k).drop 5).take N := by rw [hR, loadL, if_neg (by simp [psOf, hd]), hn]
      have e2 : E = 0 := by rw [hE, loadE, if_neg (by simp [psOf, hd]), hn]
      have hk := newI_le hn
      have HRL : Hid (R.length = N) := by
        show R.length = N
        have := rowL_len (psOf t) A N k hk h.fits
        rw [e1]; simp; omega
      have K3 : Hid (∀ W, Below w.heap.size w W → Calls Try.prog 48 #[.pointer (some ⟨v, 0, none⟩)] W fun e w' => e = .returned (.int .i64 (k : Int)) ∧ Below W.heap.size W w') := fun W hb => rnewest_ok W v r A N t G (HK.out W hb) _ (rnV_some hd hn).symm
      have K4 : Hid (∀ W, Below w.heap.size w W → Calls Try.prog 49 #[.pointer (some ⟨v, 0, none⟩), .int .i64 (k : Int)] W fun e w' => YesOne W N (numL (rowL (psOf t) A N k)) R e w') := fun W hb => rone_yes W v r A N t G (HK.out W hb) hd k hk _ rfl (newI_whole hn) _ rfl R e1
      obtain ⟨z, hz⟩ : ∃ z, z = numL (rowL (psOf t) A N k) := ⟨_, rfl⟩
      rw [← hz] at K4
      subst e2
      clear h hR hE hd hn HK hz e1
      go_enter Try.func32, Try.ntmps32
      go_wp2
      go_region_held3 (fun W => (W.cell? ⟨v, 0, none⟩ = some (.pointer (some ⟨r, 0, none⟩)) ∧ W.cell? ⟨v, 1, none⟩ = some (.int .i64 (A : Int)) ∧ W.cell? ⟨v, 2, none⟩ = some (.int .i64 (N : Int))) ∧ Below w.heap.size w W)
        (first | exact H0.out | assumption | exact H0.out.drew | exact Kr.drew (by assumption) | exact Kr.below (by assumption) (by assumption))
        (first | (go_at_call 47; (with_reducible refine (K2.out _ ?_).mono ?_); (focus (first | exact H0.out | assumption | exact H0.out.drew | exact Kr.drew (by assumption) | exact Kr.below (by assumption) (by assumption))); rintro e w9 ⟨d, cd, rfl, hb8, hbr⟩))
      have k3 := K3.out w9 hbr
      clear K2 K3 hb8 H0 c0 c1 c2
      go_wp2_with fail
      refine k3.mono ?_
      rintro e w10 ⟨rfl, hb10⟩
      have hb11 := hbr.trans (hb10.mono hbr.size)
      have k4 := K4.out w10 hb11
      clear k3 K4
      go_wp2_with fail
      refine k4.mono ?_
      rintro e w11 ⟨d1, o1, cc, rfl, hs11, hb12⟩
      have HS : Hid (Sees w11 (some ⟨d1, o1, none⟩) cc R) := hs11
      clear k4 hs11
      go_wp2
      go_ret2
      exact ⟨some ⟨d1, o1, none⟩, cc, by rw [HRL.out]; rfl, HS.out, hb11.trans (hb12.mono hb11.size)⟩
  · have K2 : Hid (∀ W, Kr w v r A N W → Calls Try.prog 47 #[.pointer (some ⟨r, 0, none⟩), .int .i64 (A : Int), .int .i64 0] W fun e w' => ∃ d cd, e = .returned (.tuple #[.slice d 0 cd, .int .i64 5]) ∧ Below W.heap.size W w' ∧ Below w.heap.size w w') := fun W hb => by
      refine (rread_none W v r A N t G (h.below hb.2) 5 (by rw [hd]; rfl)).mono ?_
      rintro e w' ⟨d, cd, h1, h2⟩
      exact ⟨d, cd, h1, h2, hb.2.trans (h2.mono hb.2.size)⟩
    have e1 : R = [] := by rw [hR, loadL, if_pos (by simp [psOf, hd])]
    have e2 : E = 5 := by rw [hE, loadE, if_pos (by simp [psOf, hd])]
    subst e1 e2
    clear h hR hE hd HK
    go_enter Try.func32, Try.ntmps32
    go_wp2
    go_region_held3 (fun W => (W.cell? ⟨v, 0, none⟩ = some (.pointer (some ⟨r, 0, none⟩)) ∧ W.cell? ⟨v, 1, none⟩ = some (.int .i64 (A : Int)) ∧ W.cell? ⟨v, 2, none⟩ = some (.int .i64 (N : Int))) ∧ Below w.heap.size w W)
      (first | exact H0.out | assumption | exact H0.out.drew | exact Kr.drew (by assumption) | exact Kr.below (by assumption) (by assumption))
      (first | (go_at_call 47; (with_reducible refine (K2.out _ ?_).mono ?_); (focus (first | exact H0.out | assumption | exact H0.out.drew | exact Kr.drew (by assumption) | exact Kr.below (by assumption) (by assumption))); rintro e w9 ⟨d, cd, rfl, hb8, hbr⟩))
    clear K2 hb8 H0 c0 c1 c2
    go_wp2
    go_ret2
    exact ⟨none, 0, rfl, Sees.nil' _, hbr⟩

theorem sign_one (b : List UInt8) (P M : Nat) (h : 1 ≤ M) : signB ((b.drop P).take M) = signB ((b.drop P).take 1) := by
  unfold signB
  rw [List.getElem?_take, List.getElem?_take, if_pos (by omega), if_pos (by omega)]

set_option maxHeartbeats 3200000 in
set_option maxRecDepth 20000 in
theorem rfresh_ok (w : World) (v r A N : Nat) (t : RS) (G : Nat → Prop) (h : RK w v r A N t G) (f : Bool) (hf : f = freshB (psOf t) A N) :
    Calls Try.prog 33 #[.pointer (some ⟨v, 0, none⟩)] w fun e w' => e = .returned (.bool f) ∧ Below w.heap.size w w' := by
  have H0 : Hid (Kr w v r A N w) := Kr.of h.bk
  have hN := h.small
  have hA := h.hA
  obtain ⟨P, hP⟩ : ∃ P : Nat, P = A + N + 8 := ⟨_, rfl⟩
  obtain ⟨Q, hQ⟩ : ∃ Q : Nat, Q = A + N := ⟨_, rfl⟩
  have e1 : (A : Int) + (N : Int) = (Q : Int) := by omega
  have e2 : (Q : Int) + 8 = (P : Int) := by omega
  have e3 : IntKind.i64.wrap (Q : Int) = (Q : Int) := by rw [IntKind.wrap_i64]; omega
  have e4 : IntKind.i64.wrap (P : Int) = (P : Int) := by rw [IntKind.wrap_i64]; omega
  cases hd : t.dead
  · have hfit := h.fits
    obtain ⟨X, hX⟩ : ∃ X, X = (t.b.drop A).take 1 := ⟨_, rfl⟩
    obtain ⟨Y, hY⟩ : ∃ Y, Y = (t.b.drop P).take 1 := ⟨_, rfl⟩
    have hfr : f = (!signB X && !signB Y) := by
      rw [hf, freshB, show (psOf t).dead = t.dead from rfl, hd, hX, hY, rowL, rowL, show (psOf t).b = t.b from rfl, sign_one _ _ _ (by omega), sign_one t.b (A + 1 * (N + 8)) _ (by omega), Nat.zero_mul, Nat.add_zero, show A + 1 * (N + 8) = P by omega]
      simp
    obtain ⟨x, hx⟩ : ∃ x, X[0]? = some x := ⟨t.b[A]'(by omega), by rw [hX]; simp⟩
    obtain ⟨y, hy⟩ : ∃ y, Y[0]? = some y := ⟨t.b[P]'(by omega), by rw [hY]; simp⟩
    have hsx := sign_int x X hx
    have hsy := sign_int y Y hy
    have HX : Hid (X[0]? = some x) := hx
    have HY : Hid (Y[0]? = some y) := hy
    have K1 : Hid (∀ W, Kr w v r A N W → Calls Try.prog 47 #[.pointer (some ⟨r, 0, none⟩), .int .i64 (A : Int), .int .i64 1] W fun e w' => ∃ d o cd, e = .returned (.tuple #[.slice (some ⟨d, o, none⟩) 1 cd, .int .i64 0]) ∧ Sees w' (some ⟨d, o, none⟩) cd X ∧ Below W.heap.size W w' ∧ Below w.heap.size w w') := fun W hb => by
      refine (rread_row W r t G (h.below hb.2).fl hd A 1 (by omega) (by omega) X hX).mono ?_
      rintro e w' ⟨d, o, cd, h1, h2, h3⟩
      exact ⟨d, o, cd, h1, h2, h3, hb.2.trans (h3.mono hb.2.size)⟩
    have K2 : Hid (∀ W0 W, Below w.heap.size w W0 → Kr W0 v r A N W → Calls Try.prog 47 #[.pointer (some ⟨r, 0, none⟩), .int .i64 (P : Int), .int .i64 1] W fun e w' => ∃ d o cd, e = .returned (.tuple #[.slice (some ⟨d, o, none⟩) 1 cd, .int .i64 0]) ∧ Sees w' (some ⟨d, o, none⟩) cd Y ∧ Below W.heap.size W w' ∧ Below W0.heap.size W0 w') := fun W0 W hb0 hb => by
      refine (rread_row W r t G (h.below (hb0.trans (hb.2.mono hb0.size))).fl hd P 1 (by omega) (by omega) Y hY).mono ?_
      rintro e w' ⟨d, o, cd, h1, h2, h3⟩
      exact ⟨d, o, cd, h1, h2, h3, hb.2.trans (h3.mono hb.2.size)⟩
    obtain ⟨⟨c0, c1, c2⟩, _⟩ := H0.out
    clear h hd hf hX hY hx hy hP hQ hfit
    go_enter Try.func33, Try.ntmps33
    go_wp2
    go_region_held3 (fun W => (W.cell? ⟨v, 0, none⟩ = some (.pointer (some ⟨r, 0, none⟩)) ∧ W.cell? ⟨v, 1, none⟩ = some (.int .i64 (A : Int)) ∧ W.cell? ⟨v, 2, none⟩ = some (.int .i64 (N : Int))) ∧ Below w.heap.size w W)
      (first | exact H0.out | assumption | exact H0.out.drew | exact Kr.drew (by assumption) | exact Kr.below (by assumption) (by assumption))
      (first | (go_at_call 47; (with_reducible refine (K1.out _ ?_).mono ?_); (focus (first | exact H0.out | assumption | exact H0.out.drew | exact Kr.drew (by assumption) | exact Kr.below (by assumption) (by assumption))); rintro e w9 ⟨d, o, cd, rfl, hs9, hb8, hbr⟩))
    have HS9 : Hid (Sees w9 (some ⟨d, o, none⟩) cd X) := hs9
    have hkr : Kr w v r A N w9 := H0.out.below hbr
    have H9 : Hid (Kr w9 v r A N w9) := ⟨hkr.1, Below.refl _ _⟩
    have K3 : Hid (∀ W, Kr w9 v r A N W → Calls Try.prog 47 #[.pointer (some ⟨r, 0, none⟩), .int .i64 (P : Int), .int .i64 1] W fun e w' => ∃ d o cd, e = .returned (.tuple #[.slice (some ⟨d, o, none⟩) 1 cd, .int .i64 0]) ∧ Sees w' (some ⟨d, o, none⟩) cd Y ∧ Below W.heap.size W w' ∧ Below w9.heap.size w9 w') := fun W hb => K2.out w9 W hbr hb
    obtain ⟨⟨q0, q1, q2⟩, _⟩ := H9.out
    clear K1 K2 hb8 H0 c0 c1 c2 hs9 hkr
    go_wp2
    go_region_held3 (fun W => (W.cell? ⟨v, 0, none⟩ = some (.pointer (some ⟨r, 0, none⟩)) ∧ W.cell? ⟨v, 1, none⟩ = some (.int .i64 (A : Int)) ∧ W.cell? ⟨v, 2, none⟩ = some (.int .i64 (N : Int))) ∧ Below w9.heap.size w9 W)
      (first | exact H9.out | assumption | exact H9.out.drew | exact Kr.drew (by assumption) | exact Kr.below (by assumption) (by assumption))
      (first | (go_at_call 47; (with_reducible refine (K3.out _ ?_).mono ?_); (focus (first | exact H9.out | assumption | exact H9.out.drew | exact Kr.drew (by assumption) | exact Kr.below (by assumption) (by assumption))); rintro e w10 ⟨d2, o2, cd2, rfl, hs10, hb82, hbr2⟩))
    obtain ⟨b1, p1, he, hcx⟩ := (HS9.out.below hbr2).get HX.out
    simp only [Option.some.injEq, Addr.mk.injEq, and_true] at he
    obtain ⟨rfl, rfl⟩ := he
    obtain ⟨b2, p2, he, hcy⟩ := hs10.get HY.out
    simp only [Option.some.injEq, Addr.mk.injEq, and_true] at he
    obtain ⟨rfl, rfl⟩ := he
    rw [Nat.add_zero] at hcx hcy
    have hb12 := hbr.trans (hbr2.mono hbr.size)
    clear K3 hb82 H9 q0 q1 q2 hs10 HS9 hbr hbr2
    cases hX : signB X
    · rw [hX] at hsx hfr
      have sx2 : ((x.toNat : Int) != 90) = true := by rw [bne, hsx]; rfl
      have sx3 : ¬ (x.toNat : Int) = 90 := by simpa using hsx
      cases hY : signB Y
      · rw [hY] at hsy hfr
        have sy2 : ((y.toNat : Int) != 90) = true := by rw [bne, hsy]; rfl
        have sy3 : ¬ (y.toNat : Int) = 90 := by simpa using hsy
        subst hfr
        go_wp2
        go_ret
        exact ⟨rfl, hb12⟩
      · rw [hY] at hsy hfr
        have sy2 : ((y.toNat : Int) != 90) = false := by rw [bne, hsy]; rfl
        have sy3 : (y.toNat : Int) = 90 := by simpa using hsy
        subst hfr
        go_wp2
        go_ret
        exact ⟨rfl, hb12⟩
    · rw [hX] at hsx hfr
      have sx2 : ((x.toNat : Int) != 90) = false := by rw [bne, hsx]; rfl
      have sx3 : (x.toNat : Int) = 90 := by simpa using hsx
      have hfr2 : f = false := by rw [hfr]; rfl
      clear hfr hsy
      subst hfr2
      go_wp2
      go_ret
      exact ⟨rfl, hb12⟩
  · have hff : f = false := by rw [hf, freshB, show (psOf t).dead = t.dead from rfl, hd]; rfl
    subst hff
    have K1 : Hid (∀ W, Kr w v r A N W → Calls Try.prog 47 #[.pointer (some ⟨r, 0, none⟩), .int .i64 (A : Int), .int .i64 1] W fun e w' => ∃ d cd, e = .returned (.tuple #[.slice d 0 cd, .int .i64 5]) ∧ Below W.heap.size W w' ∧ Below w.heap.size w w') := fun W hb => by
      refine (rread_dead W r t G (h.below hb.2).fl hd A 1).mono ?_
      rintro e w' ⟨d, cd, h1, h3⟩
      exact ⟨d, cd, h1, h3, hb.2.trans (h3.mono hb.2.size)⟩
    have K2 : Hid (∀ W0 W, Below w.heap.size w W0 → Kr W0 v r A N W → Calls Try.prog 47 #[.pointer (some ⟨r, 0, none⟩), .int .i64 (P : Int), .int .i64 1] W fun e w' => ∃ d cd, e = .returned (.tuple #[.slice d 0 cd, .int .i64 5]) ∧ Below W.heap.size W w' ∧ Below W0.heap.size W0 w') := fun W0 W hb0 hb => by
      refine (rread_dead W r t G (h.below (hb0.trans (hb.2.mono hb0.size))).fl hd P 1).mono ?_
      rintro e w' ⟨d, cd, h1, h3⟩
      exact ⟨d, cd, h1, h3, hb.2.trans (h3.mono hb.2.size)⟩
    obtain ⟨⟨c0, c1, c2⟩, _⟩ := H0.out
    clear h hd hf hP hQ
    go_enter Try.func33, Try.ntmps33
    go_wp2
    go_region_held3 (fun W => (W.cell? ⟨v, 0, none⟩ = some (.pointer (some ⟨r, 0, none⟩)) ∧ W.cell? ⟨v, 1, none⟩ = some (.int .i64 (A : Int)) ∧ W.cell? ⟨v, 2, none⟩ = some (.int .i64 (N : Int))) ∧ Below w.heap.size w W)
      (first | exact H0.out | assumption | exact H0.out.drew | exact Kr.drew (by assumption) | exact Kr.below (by assumption) (by assumption))
      (first | (go_at_call 47; (with_reducible refine (K1.out _ ?_).mono ?_); (focus (first | exact H0.out | assumption | exact H0.out.drew | exact Kr.drew (by assumption) | exact Kr.below (by assumption) (by assumption))); rintro e w9 ⟨d, cd, rfl, hb8, hbr⟩))
    have hkr : Kr w v r A N w9 := H0.out.below hbr
    have H9 : Hid (Kr w9 v r A N w9) := ⟨hkr.1, Below.refl _ _⟩
    have K3 : Hid (∀ W, Kr w9 v r A N W → Calls Try.prog 47 #[.pointer (some ⟨r, 0, none⟩), .int .i64 (P : Int), .int .i64 1] W fun e w' => ∃ d cd, e = .returned (.tuple #[.slice d 0 cd, .int .i64 5]) ∧ Below W.heap.size W w' ∧ Below w9.heap.size w9 w') := fun W hb => K2.out w9 W hbr hb
    obtain ⟨⟨q0, q1, q2⟩, _⟩ := H9.out
    clear K1 K2 hb8 H0 c0 c1 c2 hkr
    go_wp2
    go_region_held3 (fun W => (W.cell? ⟨v, 0, none⟩ = some (.pointer (some ⟨r, 0, none⟩)) ∧ W.cell? ⟨v, 1, none⟩ = some (.int .i64 (A : Int)) ∧ W.cell? ⟨v, 2, none⟩ = some (.int .i64 (N : Int))) ∧ Below w9.heap.size w9 W)
      (first | exact H9.out | assumption | exact H9.out.drew | exact Kr.drew (by assumption) | exact Kr.below (by assumption) (by assumption))
      (first | (go_at_call 47; (with_reducible refine (K3.out _ ?_).mono ?_); (focus (first | exact H9.out | assumption | exact H9.out.drew | exact Kr.drew (by assumption) | exact Kr.below (by assumption) (by assumption))); rintro e w10 ⟨d2, cd2, rfl, hb82, hbr2⟩))
    have hb12 := hbr.trans (hbr2.mono hbr.size)
    clear K3 hb82 H9 q0 q1 q2 hbr hbr2
    go_wp2
    go_ret
    exact ⟨rfl, hb12⟩
end Go.Proofs.Ytjmbioedpghopaa

namespace Go.Proofs.Ytjmbioedpghopaa
open Go.ChangeShapes Go.WideShapes Go.ChangeAt Go.RowKit

def rsaveE (t : RS) (A N : Nat) (l : List UInt8) : Nat := if l.length ≠ N then 1 else if t.dead = true then 5 else if numN (psOf t) A N = 4294967294 then 9 else threeE rwriteE rwriteT t ((A + slotN (psOf t) A N * (N + 8) : Nat) : Int) (bodyL (numN (psOf t) A N + 1) l)
def rsaveT (t : RS) (A N : Nat) (l : List UInt8) : RS := if l.length ≠ N then t else if t.dead = true then t else if numN (psOf t) A N = 4294967294 then t else threeS rwriteE rwriteT t ((A + slotN (psOf t) A N * (N + 8) : Nat) : Int) (bodyL (numN (psOf t) A N + 1) l)

theorem Left.rnext {w w1 w2 : World} {G : Nat → Prop} {r : Nat} {t : RS} (h : Left RF w G r t w1) (hb : Below w1.heap.size w1 w2) : Left RF w G r t w2 := by
  obtain ⟨F1, h1, h2, h3⟩ := h
  exact ⟨F1, rf_kept.below h1 hb, h2.trans (Apart.of_below (F := G) hb) (fun i hi => .inl hi), h3⟩
theorem Left.rsees {w w1 : World} {G : Nat → Prop} {r : Nat} {t : RS} (h : Left RF w G r t w1) {x : Option Addr} {cx : Nat} {l : List UInt8} (hx : Sees w x cx l) (hxn : ∀ bb off, x = some ⟨bb, off, none⟩ → l ≠ [] → ¬ G bb) : Sees w1 x cx l := by
  obtain ⟨F1, h1, h2, h3⟩ := h
  exact h2.sees hx hxn
theorem Left.rba {w w1 : World} {G : Nat → Prop} {r : Nat} {t : RS} (h : Left RF w G r t w1) {b A N : Nat} (hB : RBA w b r A N) (hF : ¬ G b) : RBA w1 b r A N := by
  obtain ⟨F1, h1, h2, h3⟩ := h
  show w1.heap[b]? = _
  rw [h2.block b hB.lt hF]; exact hB
theorem Left.rbefore {w w1 w2 : World} {G : Nat → Prop} {r : Nat} {t : RS} (h : Left RF w1 G r t w2) (hb : Below w.heap.size w w1) : Left RF w G r t w2 := by
  obtain ⟨F1, h1, h2, h3⟩ := h
  refine ⟨F1, h1, (Apart.of_below (F := G) hb).trans h2 (fun i hi => .inl hi), fun k hk => ?_⟩
  rcases h3 k hk with h4 | h4
  · exact .inl h4
  · right; have := hb.size; omega
theorem Left.rrefl {w : World} {G : Nat → Prop} {r : Nat} {t : RS} (h : RF w r t G) : Left RF w G r t w := ⟨G, h, Apart.refl _ _, fun _ h => .inl h⟩
theorem rwrite_new {w w1 w2 : World} {G : Nat → Prop} {r : Nat} {t : RS} (h : Left RF w G r t w1) (hb : Below w1.heap.size w1 w2) (hn : t.n ≤ 1000000) (a : Int) (x : Option Addr) (cx : Nat) (l : List UInt8) (hx : Sees w2 x cx l) (hxn : ∀ bb off, x = some ⟨bb, off, none⟩ → l ≠ [] → w1.heap.size ≤ bb) (E : Nat) (hE : E = rwriteE t a l) (S : RS) (hS : S = rwriteT t a l) :
    Calls Try.prog 10 #[.pointer (some ⟨r, 0, none⟩), .int .i64 a, .slice x l.length cx] w2 fun e w' => e = .returned (.int .i64 (E : Int)) ∧ Left RF w G r S w' := by
  obtain ⟨F1, h1, h2, h3⟩ := h
  rw [hE, hS]
  refine (rwrite_ok w2 r t F1 (rf_kept.below h1 hb) hn a x cx l hx (fun bb off he hne hF => ?_)).mono ?_
  · have := hxn bb off he hne; have := rf_kept.lt h1 bb hF; omega
  · rintro e w' ⟨rfl, F2, k1, k2, k3⟩
    have h4 : Apart G w w2 := h2.trans (Apart.of_below (F := G) hb) (fun i hi => .inl hi)
    refine ⟨rfl, F2, k1, h4.trans k2 h3, fun k hk => ?_⟩
    rcases k3 k hk with h5 | h5
    · exact h3 k h5
    · right; have := h4.size; omega
theorem numN_lt (s : PS) (A N : Nat) (h : A + 2 * (N + 8) ≤ s.b.length) : numN s A N < 4294967295 := by
  unfold numN
  split
  · omega
  · cases hn : newI s A N with
    | none => simp
    | some k =>
      have hk := newI_le hn
      have h1 := numL_lt (rowL s A N k) (by rw [rowL_len s A N k hk h]; omega)
      have h2 := wholeB_num (newI_whole hn)
      show numL (rowL s A N k) < 4294967295
      omega
theorem rwrite_n (t : RS) (a : Int) (l : List UInt8) : (rwriteT t a l).n ≤ t.n + 1 := by
  unfold rwriteT; split <;> simp

set_option maxHeartbeats 6400000 in
set_option maxRecDepth 20000 in
theorem rsave_ok (w : World) (v r A N : Nat) (t : RS) (G : Nat → Prop) (h : RK w v r A N t G) (hGv : ¬ G v) (hn : t.n ≤ 999990) (x : Option Addr) (cx : Nat) (l : List UInt8) (hx : Sees w x cx l) (E : Nat) (hE : E = rsaveE t A N l) (S : RS) (hS : S = rsaveT t A N l) :
    Calls Try.prog 54 #[.pointer (some ⟨v, 0, none⟩), .slice x l.length cx] w fun e w' => e = .returned (.int .i64 (E : Int)) ∧ Left RF w G r S w' := by
  have c2 := h.bk.c2
  have hll : l.length ≤ 9223372036854775807 := by have := hx.fits; have := hx.room; unfold maxLen at this; omega
  have HL0 : Hid (Left RF w G r t w) := Left.rrefl h.fl
  have H0 : Hid (Kr w v r A N w) := Kr.of h.bk
  have HK : Hid (∀ W, Below w.heap.size w W → RK W v r A N t G) := fun W hb => h.below hb
  obtain ⟨⟨c0, c1, _⟩, _⟩ := H0.out
  by_cases hl : l.length = N
  · have hlN : ((l.length : Int) == (N : Int)) = true := by simp [hl]
    have hlN2 : (l.length : Int) = (N : Int) := by omega
    cases hd : t.dead
    · have K2 : Hid (∀ W, Kr w v r A N W → Calls Try.prog 47 #[.pointer (some ⟨r, 0, none⟩), .int .i64 (A : Int), .int .i64 0] W fun e w' => ∃ d cd, e = .returned (.tuple #[.slice d 0 cd, .int .i64 0]) ∧ Below W.heap.size W w' ∧ Below w.heap.size w w') := fun W hb => by
        refine (rread_none W v r A N t G (h.below hb.2) 0 (by rw [hd]; rfl)).mono ?_
        rintro e w' ⟨d, cd, h1, h2⟩
        exact ⟨d, cd, h1, h2, hb.2.trans (h2.mono hb.2.size)⟩
      obtain ⟨z, hz⟩ : ∃ z, z = numN (psOf t) A N := ⟨_, rfl⟩
      have K3 : Hid (∀ W, Below w.heap.size w W → Calls Try.prog 68 #[.pointer (some ⟨v, 0, none⟩)] W fun e w' => e = .returned (.int .u32 (z : Int)) ∧ Below W.heap.size W w') := fun W hb => rnum_ok W v r A N t G (HK.out W hb) z hz
      by_cases hfull : z = 4294967294
      · have HE : Hid (E = 9 ∧ S = t) := by
          constructor
          · rw [hE, rsaveE, if_neg (by simp [hl]), if_neg (by simp [hd]), ← hz, if_pos hfull]
          · rw [hS, rsaveT, if_neg (by simp [hl]), if_neg (by simp [hd]), ← hz, if_pos hfull]
        subst hfull
        rw [show ((4294967294 : Nat) : Int) = 4294967294 from rfl] at K3
        clear h hx hE hS hd hz hl HK
        go_enter Try.func54, Try.ntmps54
        go_wp2
        go_region_held3 (fun W => (W.cell? ⟨v, 0, none⟩ = some (.pointer (some ⟨r, 0, none⟩)) ∧ W.cell? ⟨v, 1, none⟩ = some (.int .i64 (A : Int)) ∧ W.cell? ⟨v, 2, none⟩ = some (.int .i64 (N : Int))) ∧ Below w.heap.size w W)
          (first | exact H0.out | assumption | exact H0.out.drew | exact Kr.drew (by assumption) | exact Kr.below (by assumption) (by assumption))
          (first | (go_at_call 47; (with_reducible refine (K2.out _ ?_).mono ?_); (focus (first | exact H0.out | assumption | exact H0.out.drew | exact Kr.drew (by assumption) | exact Kr.below (by assumption) (by assumption))); rintro e w9 ⟨d, cd, rfl, hb8, hbr⟩))
        have k3 := K3.out w9 hbr
        clear K2 K3 hb8 H0 c0 c1 c2
        go_wp2_with fail
        refine k3.mono ?_
        rintro e w2 ⟨rfl, hb2⟩
        have HL2 : Hid (Left RF w G r t w2) := HL0.out.rnext (hbr.trans (hb2.mono hbr.size))
        clear k3
        go_wp2
        go_ret
        exact ⟨by rw [HE.out.1]; rfl, by rw [HE.out.2]; exact HL2.out⟩
      · obtain ⟨j, hj⟩ : ∃ j, j = slotN (psOf t) A N := ⟨_, rfl⟩
        obtain ⟨P, hP⟩ : ∃ P, P = A + j * (N + 8) := ⟨_, rfl⟩
        obtain ⟨B, hB⟩ : ∃ B, B = bodyL (z + 1) l := ⟨_, rfl⟩
        obtain ⟨t1, ht1⟩ : ∃ t1, t1 = rwriteT t P [0] := ⟨_, rfl⟩
        obtain ⟨E1, hE1⟩ : ∃ E1, E1 = rwriteE t P [0] := ⟨_, rfl⟩
        obtain ⟨t2, ht2⟩ : ∃ t2, t2 = rwriteT t1 ((P : Int) + 1) B := ⟨_, rfl⟩
        obtain ⟨E2, hE2⟩ : ∃ E2, E2 = rwriteE t1 ((P : Int) + 1) B := ⟨_, rfl⟩
        obtain ⟨t3, ht3⟩ : ∃ t3, t3 = rwriteT t2 P [90] := ⟨_, rfl⟩
        obtain ⟨E3, hE3⟩ : ∃ E3, E3 = rwriteE t2 P [90] := ⟨_, rfl⟩
        have hn1 : t1.n ≤ 999991 := by rw [ht1]; have := rwrite_n t P [0]; omega
        have hn2 : t2.n ≤ 999992 := by rw [ht2]; have := rwrite_n t1 ((P : Int) + 1) B; omega
        have HES : Hid ((E = if E1 ≠ 0 then E1 else if E2 ≠ 0 then E2 else E3) ∧ S = if E1 ≠ 0 then t1 else if E2 ≠ 0 then t2 else t3) := by
          constructor
          · rw [hE, rsaveE, if_neg (by simp [hl]), if_neg (by simp [hd]), ← hz, if_neg hfull, ← hj, ← hP, ← hB, threeE, ← hE1, ← ht1, ← hE2, ← ht2, ← hE3]
          · rw [hS, rsaveT, if_neg (by simp [hl]), if_neg (by simp [hd]), ← hz, if_neg hfull, ← hj, ← hP, ← hB, threeS, ← hE1, ← ht1, ← hE2, ← ht2, ← ht3]
        have W1 : Hid (∀ w0 w1, Left RF w0 G r t w1 → Calls Try.prog 10 #[.pointer (some ⟨r, 0, none⟩), .int .i64 (P : Int), .slice (some ⟨w1.heap.size, 0, none⟩) 1 1] (w1.alloc (.cells #[.int .u8 0] 5)) fun e w' => e = .returned (.int .i64 (E1 : Int)) ∧ Left RF w0 G r t1 w') := fun w0 w1 hl1 =>
          rwrite_new hl1 ((Below.refl _ _).alloc (Nat.le_refl _) _) (by omega) _ _ 1 [0] (sees_lit w1 [0] 5 (0, 0) (by simp)) (fun bb off he _ => by simp only [Option.some.injEq, Addr.mk.injEq] at he; omega) E1 hE1 t1 ht1
        have W2' : Hid (∀ w0 w1 w2 y cy, Left RF w0 G r t1 w1 → Below w1.heap.size w1 w2 → Sees w2 y cy B → (∀ bb off, y = some ⟨bb, off, none⟩ → B ≠ [] → w1.heap.size ≤ bb) → Calls Try.prog 10 #[.pointer (some ⟨r, 0, none⟩), .int .i64 ((P : Int) + 1), .slice y B.length cy] w2 fun e w' => e = .returned (.int .i64 (E2 : Int)) ∧ Left RF w0 G r t2 w') := fun w0 w1 w2 y cy hl1 hb hy hyn =>
          rwrite_new hl1 hb (by omega) _ y cy B hy hyn E2 hE2 t2 ht2
        have W3 : Hid (∀ w0 w1, Left RF w0 G r t2 w1 → Calls Try.prog 10 #[.pointer (some ⟨r, 0, none⟩), .int .i64 (P : Int), .slice (some ⟨w1.heap.size, 0, none⟩) 1 1] (w1.alloc (.cells #[.int .u8 90] 5)) fun e w' => e = .returned (.int .i64 (E3 : Int)) ∧ Left RF w0 G r t3 w') := fun w0 w1 hl1 =>
          rwrite_new hl1 ((Below.refl _ _).alloc (Nat.le_refl _) _) (by omega) _ _ 1 [90] (sees_lit w1 [90] 5 (0, 0) (by simp)) (fun bb off he _ => by simp only [Option.some.injEq, Addr.mk.injEq] at he; omega) E3 hE3 t3 ht3
        obtain ⟨V, hV⟩ : ∃ V, V = rnV t A N := ⟨_, rfl⟩
        have K4 : Hid (∀ W, Below w.heap.size w W → Calls Try.prog 48 #[.pointer (some ⟨v, 0, none⟩)] W fun e w' => e = .returned (.int .i64 V) ∧ Below W.heap.size W w') := fun W hb => rnewest_ok W v r A N t G (HK.out W hb) V hV
        have hVj : (V = 0 ∧ j = 1) ∨ (¬ V = 0 ∧ j = 0) := by
          rw [hV, rnV, if_neg (by simp [hd]), hj, slotN]
          cases hq : newI (psOf t) A N with
          | none => right; exact ⟨by simp, by simp⟩
          | some k =>
            have := newI_le hq
            rcases (by omega : k = 0 ∨ k = 1) with rfl | rfl
            · left; exact ⟨rfl, by simp⟩
            · right; exact ⟨by simp, by simp⟩
        have hzl : z < 4294967295 := by rw [hz]; exact numN_lt (psOf t) A N h.fits
        have hA4 := h.hA
        have hN6 := h.small
        have HGl : Hid (∀ k, G k → k < w.heap.size) := rf_kept.lt h.fl
        have HXS : Hid (∀ W, Below w.heap.size w W → Sees W x cx l) := fun W hb => hx.below hb
        have HLL : Hid (l.length ≤ 64) := by show l.length ≤ 64; omega
        obtain ⟨M, hM⟩ : ∃ M : Nat, M = N + 8 := ⟨_, rfl⟩
        have e1 : (N : Int) + 8 = (M : Int) := by omega
        have d3 : IntKind.i64.wrap ((N : Int) + 8) = (M : Int) := by rw [e1, IntKind.wrap_i64]; omega
        have d4 : IntKind.i64.wrap (M : Int) = (M : Int) := by rw [IntKind.wrap_i64]; omega
        have d5 : IntKind.i64.wrap ((P : Int) + 1) = (P : Int) + 1 := by
          have : P ≤ 5000 := by rcases hVj with ⟨_, rfl⟩ | ⟨_, rfl⟩ <;> omega
          rw [IntKind.wrap_i64]; omega
        have dz : ((z : Int) == 4294967294) = false := by simp; omega
        obtain ⟨Z, hZ⟩ : ∃ Z : Nat, Z = z + 1 := ⟨_, rfl⟩
        have ez : (z : Int) + 1 = (Z : Int) := by omega
        have dz2 : IntKind.u32.wrap ((z : Int) + 1) = (Z : Int) := by rw [ez, IntKind.wrap_u32]; omega
        have dz3 : IntKind.u32.wrap (Z : Int) = (Z : Int) := by rw [IntKind.wrap_u32]; omega
        have hZl : Z < 4294967296 := by omega
        have HB : Hid (B = bodyL Z l) := by rw [hZ]; exact hB
        have HPj : Hid (P = A + j * M) := by rw [hM]; exact hP
        have hMl : M ≤ 72 := by omega
        clear h hx hE hS hd hz hl hj hP hB hZ hE1 ht1 hE2 ht2 hE3 ht3 hV hM hlN2
        go_enter Try.func54, Try.ntmps54
        go_wp2
        go_region_held3 (fun W => (W.cell? ⟨v, 0, none⟩ = some (.pointer (some ⟨r, 0, none⟩)) ∧ W.cell? ⟨v, 1, none⟩ = some (.int .i64 (A : Int)) ∧ W.cell? ⟨v, 2, none⟩ = some (.int .i64 (N : Int))) ∧ Below w.heap.size w W)
          (first | exact H0.out | assumption | exact H0.out.drew | exact Kr.drew (by assumption) | exact Kr.below (by assumption) (by assumption))
          (first | (go_at_call 47; (with_reducible refine (K2.out _ ?_).mono ?_); (focus (first | exact H0.out | assumption | exact H0.out.drew | exact Kr.drew (by assumption) | exact Kr.below (by assumption) (by assumption))); rintro e w9 ⟨d, cd, rfl, hb8, hbr⟩))
        have k3 := K3.out w9 hbr
        clear K2 K3 hb8 H0 c0 c1 c2
        go_wp2_with fail
        refine k3.mono ?_
        rintro e w2 ⟨rfl, hb2⟩
        have hbx := hbr.trans (hb2.mono hbr.size)
        have k4 := K4.out w2 hbx
        clear k3 hb2 hbr K4
        go_wp2_with fail
        refine k4.mono ?_
        rintro e w3 ⟨rfl, hb3⟩
        have hby := hbx.trans (hb3.mono hbx.size)
        clear k4 hb3 hbx
        obtain ⟨⟨c0, c1, c2⟩, _⟩ := Kr.of (HK.out w3 hby).bk
        rcases hVj with ⟨rfl, rfl⟩ | ⟨hV0, rfl⟩
        · have eP : (A : Int) + (M : Int) = (P : Int) := by rw [HPj.out]; simp
          have dP : IntKind.i64.wrap ((A : Int) + (M : Int)) = (P : Int) := by rw [eP, IntKind.wrap_i64]; omega
          have dP2 : IntKind.i64.wrap (P : Int) = (P : Int) := by rw [IntKind.wrap_i64]; omega
          go_wp2
          go_quiet (fail)
          obtain ⟨w4, hw4⟩ : ∃ W, W = w3.drewN nq := ⟨_, rfl⟩
          have hb4 : Below w.heap.size w w4 := by rw [hw4]; exact below_drewN hby _
          obtain ⟨V4, hV4⟩ : ∃ V, V = w4.alloc (.cells #[.int .u32 (Z : Int)] 56) := ⟨_, rfl⟩
          have hbV : Below w.heap.size w V4 := by rw [hV4]; exact hb4.alloc hb4.size _
          have kp : Calls Try.prog 55 #[.slice none 0 0, .slice (some ⟨w4.heap.size, 0, none⟩) 1 1] V4 _ := refput_own V4 none (some ⟨w4.heap.size, 0, none⟩) 0 1 [] [Z] (Sees.nil' V4) (by rw [hV4]; exact Words.lit w4 56 [Z] (by simp) (by simpa using hZl)) (by simp) (by simp)
          rw [← hw4]
          clear hw4
          go_wp2_with fail
          rw [← hV4]
          clear hV4
          refine kp.mono ?_
          rintro e w5a ⟨d3, cd3, q, hq, rfl, hs3, hb3, ho3⟩
          have hb5a : Below w.heap.size w w5a := hbV.trans (hb3.mono hbV.size)
          clear kp hs3
          obtain ⟨v4, w5, hrun, ho4, hbe4⟩ := append_own_any w5a V4.heap.size (.slice d3 q.length cd3) q ho3 x cx l (HXS.out w5a hb5a) (by rw [hq.out]; have := HLL.out; simp [w4s_length]; omega) hb3.size
          have HA : Hid ((Builtin.append_ #[22, 22] 22 #[.slice d3 q.length cd3, .slice x l.length cx]).run Try.prog w5a = .ok v4 w5) := hrun
          have hb5 : Below w.heap.size w w5 := hbe4 _ _ hb5a hbV.size
          obtain ⟨d4, cd4, hv4, hs4⟩ := Sees.of_own ho4
          have HS5 : Hid (Sees w5 d4 cd4 (q ++ l)) := hs4
          have HN5 : Hid (∀ bb off, d4 = some ⟨bb, off, none⟩ → q ++ l ≠ [] → ¬ G bb) := fun bb off he _ hG => by
            have h9 := HGl.out bb hG
            rcases ho4.2 with ⟨h0, _⟩ | ⟨g5, cap5, cur5, h0, hlow, _⟩
            · rw [hv4, he] at h0; simp at h0
            · rw [hv4, he] at h0
              simp only [Value.slice.injEq, Option.some.injEq, Addr.mk.injEq] at h0
              have := hbV.size
              omega
          subst hv4
          have HXB : Hid (fixL (q ++ l) = B) := by rw [HB.out, bodyL, hq.out, List.nil_append]; exact (rfl : fixL (w4s [Z] ++ l) = fixL (w4s [Z] ++ l))
          have HQL : Hid ((q ++ l).length ≤ 100) := by
            show (q ++ l).length ≤ 100
            rw [hq.out]; have := HLL.out; simp [w4s_length]; omega
          obtain ⟨X, hX⟩ : ∃ X, X = q ++ l := ⟨_, rfl⟩
          rw [← hX] at HA HS5 HN5 HXB HQL
          have HL5 : Hid (Left RF w5 G r t w5) := Left.rrefl (HK.out w5 hb5).fl
          have HBA : Hid (∀ w1 t1, Left RF w5 G r t1 w1 → RBA w1 v r A N) := fun w1 t1 hl1 => hl1.rba (HK.out w5 hb5).bk hGv
          have c5 := (HK.out w5 hb5).bk.c0
          have k1 := W1.out w5 w5 HL5.out
          clear hrun ho3 ho4 hbe4 hs4 hq hb3 hX c0 c1 c2 hb5a hbV hb4 hby W1 HB HXS
          go_wp2_with (first | (at_builtin; refine wpList_append_run rfl _ _ 22 rfl _ _ _ rfl rfl HA.out ?_))
          refine k1.mono ?_
          rintro e w6 ⟨rfl, hl6⟩
          have HL6 : Hid (Left RF w5 G r t1 w6) := hl6
          have c0 := (HBA.out _ _ hl6).c0
          clear k1 c5 hl6 HA
          by_cases h1 : E1 = 0
          · have W2 : Hid (∀ w1 w2 y cy, Left RF w5 G r t1 w1 → Below w1.heap.size w1 w2 → Sees w2 y cy B → (∀ bb off, y = some ⟨bb, off, none⟩ → B ≠ [] → w1.heap.size ≤ bb) → Calls Try.prog 10 #[.pointer (some ⟨r, 0, none⟩), .int .i64 ((P : Int) + 1), .slice y B.length cy] w2 fun e w' => e = .returned (.int .i64 (E2 : Int)) ∧ Left RF w5 G r t2 w') := fun w1 w2 y cy => W2'.out w5 w1 w2 y cy
            have hbd6 : Below w6.heap.size w6 w6.drew := (Below.refl _ _).drew
            have k4 := rfix_any w6.drew d4 cd4 X ((HL6.out.rsees HS5.out HN5.out).below hbd6) (by have := HQL.out; omega)
            subst h1
            clear W2'
            go_wp2
            refine wp_region_noPanic ?_
            refine wp_region_held (S := fun W => W.cell? ⟨v, 0, none⟩ = some (.pointer (some ⟨r, 0, none⟩))) (by kernel_rfl) ?_
            have hS := (c0 : (fun W : World => W.cell? ⟨v, 0, none⟩ = some (.pointer (some ⟨r, 0, none⟩))) w6.drew)
            refine any_take 0 ?vr17an1 rfl (by kernel_rfl) (by kernel_rfl) (by kernel_rfl) (fun _ _ _ h => h) (by rfl) ?hr17an1 hS ?_
            case hr17an1 => (intro w hSw; (try dsimp only at hSw); go_split_ands; go_simp; (try with_reducible rfl))
            (try simp only [Act.put, List.setIfInBounds_toArray, List.set_cons_zero, List.set_cons_succ])
            refine any_take 1 ?vr17an2 rfl (by kernel_rfl) (by kernel_rfl) (by kernel_rfl) (fun _ _ _ h => h) (by rfl) ?hr17an2 hS ?_
            case hr17an2 => (intro w hSw; (try dsimp only at hSw); go_split_ands; go_simp; (try with_reducible rfl))
            (try simp only [Act.put, List.setIfInBounds_toArray, List.set_cons_zero, List.set_cons_succ])
            refine any_take 2 ?vr17an3 rfl (by kernel_rfl) (by kernel_rfl) (by kernel_rfl) (fun _ _ _ h => h) (by rfl) ?hr17an3 hS ?_
            case hr17an3 => (intro w hSw; (try dsimp only at hSw); go_split_ands; go_simp; (try with_reducible rfl))
            (try simp only [Act.put, List.setIfInBounds_toArray, List.set_cons_zero, List.set_cons_succ])
            refine any_take 3 ?vr17an4 rfl (by kernel_rfl) (by kernel_rfl) (by kernel_rfl) (fun _ _ _ h => h) (by rfl) ?hr17an4 hS ?_
            case hr17an4 => (intro w hSw; (try dsimp only at hSw); go_split_ands; go_simp; (try with_reducible rfl))
            (try simp only [Act.put, List.setIfInBounds_toArray, List.set_cons_zero, List.set_cons_succ])
            refine any_take 4 ?vr17an5 rfl (by kernel_rfl) (by kernel_rfl) (by kernel_rfl) (fun _ _ _ h => h) (by rfl) ?hr17an5 hS ?_
            case hr17an5 => (intro w hSw; (try dsimp only at hSw); go_split_ands; go_simp; (try with_reducible rfl))
            (try simp only [Act.put, List.setIfInBounds_toArray, List.set_cons_zero, List.set_cons_succ])
            refine any_take 5 ?vr17an6 rfl (by kernel_rfl) (by kernel_rfl) (by kernel_rfl) (fun _ _ _ h => h) (by rfl) ?hr17an6 hS ?_
            case hr17an6 => (intro w hSw; (try dsimp only at hSw); go_split_ands; go_simp; (try with_reducible rfl))
            (try simp only [Act.put, List.setIfInBounds_toArray, List.set_cons_zero, List.set_cons_succ])
            refine any_take 6 ?vr17an7 rfl (by kernel_rfl) (by kernel_rfl) (by kernel_rfl) (fun _ _ _ h => h) (by rfl) ?hr17an7 hS ?_
            case hr17an7 => (intro w hSw; (try dsimp only at hSw); go_split_ands; go_simp; (try with_reducible rfl))
            (try simp only [Act.put, List.setIfInBounds_toArray, List.set_cons_zero, List.set_cons_succ])
            refine any_one 7 rfl (by kernel_rfl) (by rfl) (fun K hK => ?_)
            clear hS
            go_simp
            refine (k4.mono) ?_
            rintro e w7 ⟨d5, cd5, r5, hr5, rfl, hs5, hb5, ho5⟩
            have e5 : r5 = B := by rw [hr5.out, HXB.out]
            subst e5
            have hb7 : Below w6.heap.size w6 w7 := hbd6.trans (hb5.mono (Nat.le_refl _))
            have hfr : ∀ bb off, d5 = some ⟨bb, off, none⟩ → r5 ≠ [] → w6.heap.size ≤ bb := fun bb off he _ => by
              rcases ho5.2 with ⟨h0, _⟩ | ⟨g5, cap5, cur5, h0, hlow, _⟩
              · rw [he] at h0; simp at h0
              · rw [he] at h0
                simp only [Value.slice.injEq, Option.some.injEq, Addr.mk.injEq] at h0
                obtain ⟨⟨rfl, _⟩, _⟩ := h0
                exact hlow
            have c7 : w7.cell? ⟨v, 0, none⟩ = some (.pointer (some ⟨r, 0, none⟩)) := by rw [hb7.cell (World.block_lt_of_cell? _ _ c0)]; exact c0
            have k5 := W2.out w6 w7 d5 cd5 HL6.out hb7 hs5 hfr
            clear hr5 hs5 ho5 hfr hb5
            refine hK.out _ _ (c7) (fun hS => ?_)
            clear hK
            (try simp only [Act.put, List.setIfInBounds_toArray, List.set_cons_zero, List.set_cons_succ])
            refine any_one 8 rfl (by kernel_rfl) (by rfl) (fun K hK => ?_)
            clear hS
            go_simp
            refine k5.mono ?_
            rintro e w8 ⟨rfl, hl8⟩
            have HL8 : Hid (Left RF w5 G r t2 w8) := hl8
            have c8 := (HBA.out _ _ hl8).c0
            clear hl8 k5
            refine hK.out _ _ (c8) (fun hS => ?_)
            clear hK
            (try simp only [Act.put, List.setIfInBounds_toArray, List.set_cons_zero, List.set_cons_succ])
            refine any_take 9 ?vr17an8 rfl (by kernel_rfl) (by kernel_rfl) (by kernel_rfl) (fun _ _ _ h => h) (by rfl) ?hr17an8 hS ?_
            case hr17an8 => (intro w hSw; (try dsimp only at hSw); go_split_ands; go_simp; (try with_reducible rfl))
            (try simp only [Act.put, List.setIfInBounds_toArray, List.set_cons_zero, List.set_cons_succ])
            refine wpAnyH_done (by kernel_rfl) ?_ _
            refine NoPanic.normal ?_
            have hn90 : True := trivial
            by_cases h2 : E2 = 0
            · have k6 := W3.out w5 w8 HL8.out
              have HES2 : Hid (E = E3 ∧ S = t3) := by
                obtain ⟨q1, q2⟩ := HES.out
                rw [if_neg (by simp), if_neg (by omega)] at q1 q2
                exact ⟨q1, q2⟩
              subst h2
              clear HES W3
              go_wp2_with fail
              refine k6.mono ?_
              rintro e w10 ⟨rfl, hl10⟩
              have HL10 : Hid (Left RF w G r S w10) := by rw [HES2.out.2]; exact hl10.rbefore hb5
              clear k6 hl10
              go_wp2
              go_ret
              exact ⟨by rw [HES2.out.1]; rfl, HL10.out⟩
            · have dE2 : ((E2 : Int) == 0) = false := by simp; omega
              have HES2 : Hid (E = E2 ∧ S = t2) := by
                obtain ⟨q1, q2⟩ := HES.out
                rw [if_neg (by simp), if_pos h2] at q1 q2
                exact ⟨q1, q2⟩
              have HL10 : Hid (Left RF w G r S w8) := by rw [HES2.out.2]; exact HL8.out.rbefore hb5
              clear HES W3
              go_wp2
              go_ret
              exact ⟨by rw [HES2.out.1]; rfl, HL10.out⟩
          · have dE1 : ((E1 : Int) == 0) = false := by simp; omega
            have HES2 : Hid (E = E1 ∧ S = t1) := by
              obtain ⟨q1, q2⟩ := HES.out
              rw [if_pos h1] at q1 q2
              exact ⟨q1, q2⟩
            have HL10 : Hid (Left RF w G r S w6) := by rw [HES2.out.2]; exact HL6.out.rbefore hb5
            clear HES W3 W2'
            go_wp2
            go_ret
            exact ⟨by rw [HES2.out.1]; rfl, HL10.out⟩
        · have hPA : A = P := by rw [HPj.out]; simp
          have dV : (V == 0) = false := by simp [hV0]
          have dP2 : IntKind.i64.wrap (A : Int) = (A : Int) := by rw [IntKind.wrap_i64]; omega
          subst hPA
          go_wp2
          go_quiet (fail)
          obtain ⟨w4, hw4⟩ : ∃ W, W = w3.drewN nq := ⟨_, rfl⟩
          have hb4 : Below w.heap.size w w4 := by rw [hw4]; exact below_drewN hby _
          obtain ⟨V4, hV4⟩ : ∃ V, V = w4.alloc (.cells #[.int .u32 (Z : Int)] 56) := ⟨_, rfl⟩
          have hbV : Below w.heap.size w V4 := by rw [hV4]; exact hb4.alloc hb4.size _
          have kp : Calls Try.prog 55 #[.slice none 0 0, .slice (some ⟨w4.heap.size, 0, none⟩) 1 1] V4 _ := refput_own V4 none (some ⟨w4.heap.size, 0, none⟩) 0 1 [] [Z] (Sees.nil' V4) (by rw [hV4]; exact Words.lit w4 56 [Z] (by simp) (by simpa using hZl)) (by simp) (by simp)
          rw [← hw4]
          clear hw4
          go_wp2_with fail
          rw [← hV4]
          clear hV4
          refine kp.mono ?_
          rintro e w5a ⟨d3, cd3, q, hq, rfl, hs3, hb3, ho3⟩
          have hb5a : Below w.heap.size w w5a := hbV.trans (hb3.mono hbV.size)
          clear kp hs3
          obtain ⟨v4, w5, hrun, ho4, hbe4⟩ := append_own_any w5a V4.heap.size (.slice d3 q.length cd3) q ho3 x cx l (HXS.out w5a hb5a) (by rw [hq.out]; have := HLL.out; simp [w4s_length]; omega) hb3.size
          have HA : Hid ((Builtin.append_ #[22, 22] 22 #[.slice d3 q.length cd3, .slice x l.length cx]).run Try.prog w5a = .ok v4 w5) := hrun
          have hb5 : Below w.heap.size w w5 := hbe4 _ _ hb5a hbV.size
          obtain ⟨d4, cd4, hv4, hs4⟩ := Sees.of_own ho4
          have HS5 : Hid (Sees w5 d4 cd4 (q ++ l)) := hs4
          have HN5 : Hid (∀ bb off, d4 = some ⟨bb, off, none⟩ → q ++ l ≠ [] → ¬ G bb) := fun bb off he _ hG => by
            have h9 := HGl.out bb hG
            rcases ho4.2 with ⟨h0, _⟩ | ⟨g5, cap5, cur5, h0, hlow, _⟩
            · rw [hv4, he] at h0; simp at h0
            · rw [hv4, he] at h0
              simp only [Value.slice.injEq, Option.some.injEq, Addr.mk.injEq] at h0
              have := hbV.size
              omega
          subst hv4
          have HXB : Hid (fixL (q ++ l) = B) := by rw [HB.out, bodyL, hq.out, List.nil_append]; exact (rfl : fixL (w4s [Z] ++ l) = fixL (w4s [Z] ++ l))
          have HQL : Hid ((q ++ l).length ≤ 100) := by
            show (q ++ l).length ≤ 100
            rw [hq.out]; have := HLL.out; simp [w4s_length]; omega
          obtain ⟨X, hX⟩ : ∃ X, X = q ++ l := ⟨_, rfl⟩
          rw [← hX] at HA HS5 HN5 HXB HQL
          have HL5 : Hid (Left RF w5 G r t w5) := Left.rrefl (HK.out w5 hb5).fl
          have HBA : Hid (∀ w1 t1, Left RF w5 G r t1 w1 → RBA w1 v r A N) := fun w1 t1 hl1 => hl1.rba (HK.out w5 hb5).bk hGv
          have c5 := (HK.out w5 hb5).bk.c0
          have k1 := W1.out w5 w5 HL5.out
          clear hrun ho3 ho4 hbe4 hs4 hq hb3 hX c0 c1 c2 hb5a hbV hb4 hby W1 HB HXS
          go_wp2_with (first | (at_builtin; refine wpList_append_run rfl _ _ 22 rfl _ _ _ rfl rfl HA.out ?_))
          refine k1.mono ?_
          rintro e w6 ⟨rfl, hl6⟩
          have HL6 : Hid (Left RF w5 G r t1 w6) := hl6
          have c0 := (HBA.out _ _ hl6).c0
          clear k1 c5 hl6 HA
          by_cases h1 : E1 = 0
          · have W2 : Hid (∀ w1 w2 y cy, Left RF w5 G r t1 w1 → Below w1.heap.size w1 w2 → Sees w2 y cy B → (∀ bb off, y = some ⟨bb, off, none⟩ → B ≠ [] → w1.heap.size ≤ bb) → Calls Try.prog 10 #[.pointer (some ⟨r, 0, none⟩), .int .i64 ((A : Int) + 1), .slice y B.length cy] w2 fun e w' => e = .returned (.int .i64 (E2 : Int)) ∧ Left RF w5 G r t2 w') := fun w1 w2 y cy => W2'.out w5 w1 w2 y cy
            have hbd6 : Below w6.heap.size w6 w6.drew := (Below.refl _ _).drew
            have k4 := rfix_any w6.drew d4 cd4 X ((HL6.out.rsees HS5.out HN5.out).below hbd6) (by have := HQL.out; omega)
            subst h1
            clear W2'
            go_wp2
            refine wp_region_noPanic ?_
            refine wp_region_held (S := fun W => W.cell? ⟨v, 0, none⟩ = some (.pointer (some ⟨r, 0, none⟩))) (by kernel_rfl) ?_
            have hS := (c0 : (fun W : World => W.cell? ⟨v, 0, none⟩ = some (.pointer (some ⟨r, 0, none⟩))) w6.drew)
            refine any_take 0 ?vr17bn1 rfl (by kernel_rfl) (by kernel_rfl) (by kernel_rfl) (fun _ _ _ h => h) (by rfl) ?hr17bn1 hS ?_
            case hr17bn1 => (intro w hSw; (try dsimp only at hSw); go_split_ands; go_simp; (try with_reducible rfl))
            (try simp only [Act.put, List.setIfInBounds_toArray, List.set_cons_zero, List.set_cons_succ])
            refine any_take 1 ?vr17bn2 rfl (by kernel_rfl) (by kernel_rfl) (by kernel_rfl) (fun _ _ _ h => h) (by rfl) ?hr17bn2 hS ?_
            case hr17bn2 => (intro w hSw; (try dsimp only at hSw); go_split_ands; go_simp; (try with_reducible rfl))
            (try simp only [Act.put, List.setIfInBounds_toArray, List.set_cons_zero, List.set_cons_succ])
            refine any_take 2 ?vr17bn3 rfl (by kernel_rfl) (by kernel_rfl) (by kernel_rfl) (fun _ _ _ h => h) (by rfl) ?hr17bn3 hS ?_
            case hr17bn3 => (intro w hSw; (try dsimp only at hSw); go_split_ands; go_simp; (try with_reducible rfl))
            (try simp only [Act.put, List.setIfInBounds_toArray, List.set_cons_zero, List.set_cons_succ])
            refine any_take 3 ?vr17bn4 rfl (by kernel_rfl) (by kernel_rfl) (by kernel_rfl) (fun _ _ _ h => h) (by rfl) ?hr17bn4 hS ?_
            case hr17bn4 => (intro w hSw; (try dsimp only at hSw); go_split_ands; go_simp; (try with_reducible rfl))
            (try simp only [Act.put, List.setIfInBounds_toArray, List.set_cons_zero, List.set_cons_succ])
            refine any_take 4 ?vr17bn5 rfl (by kernel_rfl) (by kernel_rfl) (by kernel_rfl) (fun _ _ _ h => h) (by rfl) ?hr17bn5 hS ?_
            case hr17bn5 => (intro w hSw; (try dsimp only at hSw); go_split_ands; go_simp; (try with_reducible rfl))
            (try simp only [Act.put, List.setIfInBounds_toArray, List.set_cons_zero, List.set_cons_succ])
            refine any_take 5 ?vr17bn6 rfl (by kernel_rfl) (by kernel_rfl) (by kernel_rfl) (fun _ _ _ h => h) (by rfl) ?hr17bn6 hS ?_
            case hr17bn6 => (intro w hSw; (try dsimp only at hSw); go_split_ands; go_simp; (try with_reducible rfl))
            (try simp only [Act.put, List.setIfInBounds_toArray, List.set_cons_zero, List.set_cons_succ])
            refine any_take 6 ?vr17bn7 rfl (by kernel_rfl) (by kernel_rfl) (by kernel_rfl) (fun _ _ _ h => h) (by rfl) ?hr17bn7 hS ?_
            case hr17bn7 => (intro w hSw; (try dsimp only at hSw); go_split_ands; go_simp; (try with_reducible rfl))
            (try simp only [Act.put, List.setIfInBounds_toArray, List.set_cons_zero, List.set_cons_succ])
            refine any_one 7 rfl (by kernel_rfl) (by rfl) (fun K hK => ?_)
            clear hS
            go_simp
            refine (k4.mono) ?_
            rintro e w7 ⟨d5, cd5, r5, hr5, rfl, hs5, hb5, ho5⟩
            have e5 : r5 = B := by rw [hr5.out, HXB.out]
            subst e5
            have hb7 : Below w6.heap.size w6 w7 := hbd6.trans (hb5.mono (Nat.le_refl _))
            have hfr : ∀ bb off, d5 = some ⟨bb, off, none⟩ → r5 ≠ [] → w6.heap.size ≤ bb := fun bb off he _ => by
              rcases ho5.2 with ⟨h0, _⟩ | ⟨g5, cap5, cur5, h0, hlow, _⟩
              · rw [he] at h0; simp at h0
              · rw [he] at h0
                simp only [Value.slice.injEq, Option.some.injEq, Addr.mk.injEq] at h0
                obtain ⟨⟨rfl, _⟩, _⟩ := h0
                exact hlow
            have c7 : w7.cell? ⟨v, 0, none⟩ = some (.pointer (some ⟨r, 0, none⟩)) := by rw [hb7.cell (World.block_lt_of_cell? _ _ c0)]; exact c0
            have k5 := W2.out w6 w7 d5 cd5 HL6.out hb7 hs5 hfr
            clear hr5 hs5 ho5 hfr hb5
            refine hK.out _ _ (c7) (fun hS => ?_)
            clear hK
            (try simp only [Act.put, List.setIfInBounds_toArray, List.set_cons_zero, List.set_cons_succ])
            refine any_one 8 rfl (by kernel_rfl) (by rfl) (fun K hK => ?_)
            clear hS
            go_simp
            refine k5.mono ?_
            rintro e w8 ⟨rfl, hl8⟩
            have HL8 : Hid (Left RF w5 G r t2 w8) := hl8
            have c8 := (HBA.out _ _ hl8).c0
            clear hl8 k5
            refine hK.out _ _ (c8) (fun hS => ?_)
            clear hK
            (try simp only [Act.put, List.setIfInBounds_toArray, List.set_cons_zero, List.set_cons_succ])
            refine any_take 9 ?vr17bn8 rfl (by kernel_rfl) (by kernel_rfl) (by kernel_rfl) (fun _ _ _ h => h) (by rfl) ?hr17bn8 hS ?_
            case hr17bn8 => (intro w hSw; (try dsimp only at hSw); go_split_ands; go_simp; (try with_reducible rfl))
            (try simp only [Act.put, List.setIfInBounds_toArray, List.set_cons_zero, List.set_cons_succ])
            refine wpAnyH_done (by kernel_rfl) ?_ _
            refine NoPanic.normal ?_
            have hn90 : True := trivial
            by_cases h2 : E2 = 0
            · have k6 := W3.out w5 w8 HL8.out
              have HES2 : Hid (E = E3 ∧ S = t3) := by
                obtain ⟨q1, q2⟩ := HES.out
                rw [if_neg (by simp), if_neg (by omega)] at q1 q2
                exact ⟨q1, q2⟩
              subst h2
              clear HES W3
              go_wp2_with fail
              refine k6.mono ?_
              rintro e w10 ⟨rfl, hl10⟩
              have HL10 : Hid (Left RF w G r S w10) := by rw [HES2.out.2]; exact hl10.rbefore hb5
              clear k6 hl10
              go_wp2
              go_ret
              exact ⟨by rw [HES2.out.1]; rfl, HL10.out⟩
            · have dE2 : ((E2 : Int) == 0) = false := by simp; omega
              have HES2 : Hid (E = E2 ∧ S = t2) := by
                obtain ⟨q1, q2⟩ := HES.out
                rw [if_neg (by simp), if_pos h2] at q1 q2
                exact ⟨q1, q2⟩
              have HL10 : Hid (Left RF w G r S w8) := by rw [HES2.out.2]; exact HL8.out.rbefore hb5
              clear HES W3
              go_wp2
              go_ret
              exact ⟨by rw [HES2.out.1]; rfl, HL10.out⟩
          · have dE1 : ((E1 : Int) == 0) = false := by simp; omega
            have HES2 : Hid (E = E1 ∧ S = t1) := by
              obtain ⟨q1, q2⟩ := HES.out
              rw [if_pos h1] at q1 q2
              exact ⟨q1, q2⟩
            have HL10 : Hid (Left RF w G r S w6) := by rw [HES2.out.2]; exact HL6.out.rbefore hb5
            clear HES W3 W2'
            go_wp2
            go_ret
            exact ⟨by rw [HES2.out.1]; rfl, HL10.out⟩

    · have K2 : Hid (∀ W, Kr w v r A N W → Calls Try.prog 47 #[.pointer (some ⟨r, 0, none⟩), .int .i64 (A : Int), .int .i64 0] W fun e w' => ∃ d cd, e = .returned (.tuple #[.slice d 0 cd, .int .i64 5]) ∧ Below W.heap.size W w' ∧ Below w.heap.size w w') := fun W hb => by
        refine (rread_none W v r A N t G (h.below hb.2) 5 (by rw [hd]; rfl)).mono ?_
        rintro e w' ⟨d, cd, h1, h2⟩
        exact ⟨d, cd, h1, h2, hb.2.trans (h2.mono hb.2.size)⟩
      have HE : Hid (E = 5 ∧ S = t) := by
        constructor
        · rw [hE, rsaveE, if_neg (by simp [hl]), if_pos hd]
        · rw [hS, rsaveT, if_neg (by simp [hl]), if_pos hd]
      clear h hx hE hS hd hl HK
      go_enter Try.func54, Try.ntmps54
      go_wp2
      go_region_held3 (fun W => (W.cell? ⟨v, 0, none⟩ = some (.pointer (some ⟨r, 0, none⟩)) ∧ W.cell? ⟨v, 1, none⟩ = some (.int .i64 (A : Int)) ∧ W.cell? ⟨v, 2, none⟩ = some (.int .i64 (N : Int))) ∧ Below w.heap.size w W)
        (first | exact H0.out | assumption | exact H0.out.drew | exact Kr.drew (by assumption) | exact Kr.below (by assumption) (by assumption))
        (first | (go_at_call 47; (with_reducible refine (K2.out _ ?_).mono ?_); (focus (first | exact H0.out | assumption | exact H0.out.drew | exact Kr.drew (by assumption) | exact Kr.below (by assumption) (by assumption))); rintro e w9 ⟨d, cd, rfl, hb8, hbr⟩))
      have HL2 : Hid (Left RF w G r t w9) := HL0.out.rnext hbr
      clear K2 hb8 H0 c0 c1 c2
      go_wp2
      go_ret
      exact ⟨by rw [HE.out.1]; rfl, by rw [HE.out.2]; exact HL2.out⟩
  · have HE : Hid (E = 1 ∧ S = t) := by
      constructor
      · rw [hE, rsaveE, if_pos hl]
      · rw [hS, rsaveT, if_pos hl]
    have hlN : ((l.length : Int) == (N : Int)) = false := by simp; omega
    have hlN2 : ¬ (l.length : Int) = (N : Int) := by omega
    clear h hx hE hS hl HK
    go_enter Try.func54, Try.ntmps54
    go_wp2
    go_ret
    exact ⟨by rw [HE.out.1]; rfl, by rw [HE.out.2]; exact HL0.out⟩
end Go.Proofs.Ytjmbioedpghopaa
