/-
  The document's bank: the contracts of newest, Load, Number and Fresh.
-/
import Derived.Test.YtgnllmcgebonpaaBankRef
namespace Go.Proofs.Ytgnllmcgebonpaa
open Go.ChangeShapes Go.WideShapes Go.ChangeAt Go.RowKit

/-- Which one the document's newest tells: -1, if there is none. -/
def rnV (t : RS) (A N : Nat) : Int := if t.dead = true then -1 else match newI (psOf t) A N with | none => -1 | some k => (k : Int)

set_option maxHeartbeats 3200000 in
set_option maxRecDepth 20000 in
theorem rnewest_ok (w : World) (v r A N : Nat) (t : RS) (G : Nat → Prop) (h : RK w v r A N t G) (V : Int) (hV : V = rnV t A N) :
    Calls Try.prog 38 #[.pointer (some ⟨v, 0, none⟩)] w fun e w' => e = .returned (.int .i64 V) ∧ Below w.heap.size w w' := by
  have HK : Hid (∀ W, Below w.heap.size w W → RK W v r A N t G) := fun W hb => h.below hb
  by_cases hx : t.dead = true ∨ wholeB (rowL (psOf t) A N 0) = false
  · have k0 := rone_no w v r A N t G h 0 (by omega) hx
    by_cases hy : t.dead = true ∨ wholeB (rowL (psOf t) A N 1) = false
    · have e1 : V = -1 := by
        rw [hV, rnV]
        cases hd : t.dead
        · simp only [hd, Bool.false_eq_true, false_or] at hx hy
          rw [newI, newR, hx, hy]; rfl
        · rfl
      subst e1
      have HY : Hid (∀ W, Below w.heap.size w W → Calls Try.prog 42 #[.pointer (some ⟨v, 0, none⟩), .int .i64 1] W fun e w' => NoOne W e w') := fun W hb => rone_no W v r A N t G (HK.out W hb) 1 (by omega) hy
      clear h hx hy hV HK
      go_enter Try.func38, Try.ntmps38
      go_wp2_with fail
      refine k0.mono ?_
      rintro e w1 ⟨z, a, n, c, rfl, hb⟩
      have k1 := HY.out w1 hb
      clear k0 HY
      go_wp2_with fail
      refine k1.mono ?_
      rintro e w2 ⟨z2, a2, n2, c2, rfl, hb2⟩
      clear k1
      go_wp2
      go_ret
      exact ⟨rfl, hb.trans (hb2.mono hb.size)⟩
    · have hd : t.dead = false := by cases hd : t.dead; rfl; exact absurd (.inl hd) hy
      have hyw : wholeB (rowL (psOf t) A N 1) = true := by cases hq : wholeB (rowL (psOf t) A N 1); exact absurd (.inr hq) hy; rfl
      have e1 : V = 1 := by
        rw [hV, rnV, if_neg (by simp [hd])]
        simp only [hd, Bool.false_eq_true, false_or] at hx
        rw [newI, newR, hx, hyw]; rfl
      subst e1
      have HY : Hid (∀ W, Below w.heap.size w W → Calls Try.prog 42 #[.pointer (some ⟨v, 0, none⟩), .int .i64 1] W fun e w' => YesOne W N _ _ e w') := fun W hb => rone_yes W v r A N t G (HK.out W hb) hd 1 (by omega) _ rfl hyw _ rfl _ rfl
      clear h hx hy hV HK hd hyw
      go_enter Try.func38, Try.ntmps38
      go_wp2_with fail
      refine k0.mono ?_
      rintro e w1 ⟨z, a, n, c, rfl, hb⟩
      have k1 := HY.out w1 hb
      clear k0 HY
      go_wp2_with fail
      refine k1.mono ?_
      rintro e w2 ⟨d2, o2, c2, rfl, hs2, hb2⟩
      clear k1 hs2
      go_wp2
      go_ret
      exact ⟨rfl, hb.trans (hb2.mono hb.size)⟩
  · have hd : t.dead = false := by cases hd : t.dead; rfl; exact absurd (.inl hd) hx
    have hxw : wholeB (rowL (psOf t) A N 0) = true := by cases hq : wholeB (rowL (psOf t) A N 0); exact absurd (.inr hq) hx; rfl
    obtain ⟨z, hz⟩ : ∃ z, z = numL (rowL (psOf t) A N 0) := ⟨_, rfl⟩
    have k0 := rone_yes w v r A N t G h hd 0 (by omega) _ rfl hxw z hz _ rfl
    by_cases hy : wholeB (rowL (psOf t) A N 1) = false
    · have e1 : V = 0 := by
        rw [hV, rnV, if_neg (by simp [hd]), newI, newR, hxw, hy]; rfl
      subst e1
      have HY : Hid (∀ W, Below w.heap.size w W → Calls Try.prog 42 #[.pointer (some ⟨v, 0, none⟩), .int .i64 1] W fun e w' => NoOne W e w') := fun W hb => rone_no W v r A N t G (HK.out W hb) 1 (by omega) (.inr hy)
      clear h hx hy hV HK hd hxw hz
      go_enter Try.func38, Try.ntmps38
      go_wp2_with fail
      refine k0.mono ?_
      rintro e w1 ⟨d1, o1, c1, rfl, hs1, hb⟩
      have k1 := HY.out w1 hb
      clear k0 HY hs1
      go_wp2_with fail
      refine k1.mono ?_
      rintro e w2 ⟨z2, a2, n2, c2, rfl, hb2⟩
      clear k1
      go_wp2
      go_ret
      exact ⟨rfl, hb.trans (hb2.mono hb.size)⟩
    · have hyw : wholeB (rowL (psOf t) A N 1) = true := by simpa using hy
      obtain ⟨y, hyz⟩ : ∃ z, z = numL (rowL (psOf t) A N 1) := ⟨_, rfl⟩
      have HY : Hid (∀ W, Below w.heap.size w W → Calls Try.prog 42 #[.pointer (some ⟨v, 0, none⟩), .int .i64 1] W fun e w' => YesOne W N y _ e w') := fun W hb => rone_yes W v r A N t G (HK.out W hb) hd 1 (by omega) _ rfl hyw y hyz _ rfl
      have hr : rnV t A N = if y ≤ z then 0 else 1 := by
        rw [rnV, if_neg (by simp [hd]), newI, newR, hxw, hyw, ← hz, ← hyz]
        by_cases hh : y ≤ z <;> simp [hh]
      rw [hr] at hV
      clear h hx hy HK hd hxw hyw hz hyz hr
      by_cases hle : y ≤ z
      · rw [if_pos hle] at hV
        subst hV
        go_enter Try.func38, Try.ntmps38
        go_wp2_with fail
        refine k0.mono ?_
        rintro e w1 ⟨d1, o1, c1, rfl, hs1, hb⟩
        have k1 := HY.out w1 hb
        clear k0 HY hs1
        go_wp2_with fail
        refine k1.mono ?_
        rintro e w2 ⟨d2, o2, c2, rfl, hs2, hb2⟩
        clear k1 hs2
        go_wp2
        go_ret
        exact ⟨rfl, hb.trans (hb2.mono hb.size)⟩
      · rw [if_neg hle] at hV
        subst hV
        go_enter Try.func38, Try.ntmps38
        go_wp2_with fail
        refine k0.mono ?_
        rintro e w1 ⟨d1, o1, c1, rfl, hs1, hb⟩
        have k1 := HY.out w1 hb
        clear k0 HY hs1
        go_wp2_with fail
        refine k1.mono ?_
        rintro e w2 ⟨d2, o2, c2, rfl, hs2, hb2⟩
        clear k1 hs2
        go_wp2
        go_ret
        exact ⟨rfl, hb.trans (hb2.mono hb.size)⟩

theorem rnV_some {t : RS} {A N k : Nat} (hd : t.dead = false) (h : newI (psOf t) A N = some k) : rnV t A N = (k : Int) := by rw [rnV, if_neg (by simp [hd]), h]
theorem rnV_none {t : RS} {A N : Nat} (hd : t.dead = false) (h : newI (psOf t) A N = none) : rnV t A N = -1 := by rw [rnV, if_neg (by simp [hd]), h]
theorem rnV_dead {t : RS} {A N : Nat} (hd : t.dead = true) : rnV t A N = -1 := by rw [rnV, if_pos hd]

theorem rnum_ok (w : World) (v r A N : Nat) (t : RS) (G : Nat → Prop) (h : RK w v r A N t G) (z : Nat) (hz : z = numN (psOf t) A N) :
    Calls Try.prog 22 #[.pointer (some ⟨v, 0, none⟩)] w fun e w' => e = .returned (.int .u32 (z : Int)) ∧ Below w.heap.size w w' := by
  have key : (rnV t A N = -1 ∧ z = 0) ∨ ∃ k : Nat, k ≤ 1 ∧ rnV t A N = (k : Int) ∧ t.dead = false ∧ wholeB (rowL (psOf t) A N k) = true ∧ z = numL (rowL (psOf t) A N k) := by
    cases hd : t.dead
    · cases hn : newI (psOf t) A N with
      | none => exact .inl ⟨rnV_none hd hn, by rw [hz, numN, if_neg (by simp [psOf, hd]), hn]⟩
      | some k => exact .inr ⟨k, newI_le hn, rnV_some hd hn, rfl, newI_whole hn, by rw [hz, numN, if_neg (by simp [psOf, hd]), hn]⟩
    · exact .inl ⟨rnV_dead hd, by rw [hz, numN, if_pos (by simp [psOf, hd])]⟩
  rcases key with ⟨h1, rfl⟩ | ⟨k, hk, h1, hd, hw, hzk⟩
  · have k0 := rnewest_ok w v r A N t G h _ h1.symm
    clear h h1 hz
    go_enter Try.func22, Try.ntmps22
    go_wp2_with fail
    refine k0.mono ?_
    rintro e w1 ⟨rfl, hb⟩
    clear k0
    go_wp2
    go_ret
    exact ⟨rfl, hb⟩
  · have k0 := rnewest_ok w v r A N t G h _ h1.symm
    have HY : Hid (∀ W, Below w.heap.size w W → Calls Try.prog 42 #[.pointer (some ⟨v, 0, none⟩), .int .i64 (k : Int)] W fun e w' => YesOne W N z _ e w') := fun W hb => rone_yes W v r A N t G (h.below hb) hd k hk _ rfl hw z hzk _ rfl
    clear h h1 hz hd hw hzk
    go_enter Try.func22, Try.ntmps22
    go_wp2_with fail
    refine k0.mono ?_
    rintro e w1 ⟨rfl, hb⟩
    have k1 := HY.out w1 hb
    clear k0 HY
    go_wp2_with fail
    refine k1.mono ?_
    rintro e w2 ⟨d2, o2, c2, rfl, hs2, hb2⟩
    clear k1 hs2
    go_wp2
    go_ret
    exact ⟨rfl, hb.trans (hb2.mono hb.size)⟩

/-- A Read of no byte. -/
theorem rread_none (w : World) (v r A N : Nat) (t : RS) (G : Nat → Prop) (h : RK w v r A N t G) (E : Int) (hE : E = if t.dead = true then 5 else 0) :
    Calls Try.prog 37 #[.pointer (some ⟨r, 0, none⟩), .int .i64 (A : Int), .int .i64 0] w fun e w' => ∃ d cd, e = .returned (.tuple #[.slice d 0 cd, .int .i64 E]) ∧ Below w.heap.size w w' := by
  cases hd : t.dead
  · have hf := h.fits
    have hc : chk t.dead t.b.length (A : Int) 0 = 0 := by unfold chk; rw [hd, if_neg (by simp), if_neg (by omega)]
    refine (rread_ok w r t G h.fl A 0 [] 0 (by unfold rreadL; rw [if_neg (by simp [hc])]; rfl) hc.symm).mono ?_
    rintro e w' ⟨d, cd, rfl, hs, hb⟩
    exact ⟨d, cd, by rw [hE, hd]; rfl, hb⟩
  · refine (rread_dead w r t G h.fl hd A 0).mono ?_
    rintro e w' ⟨d, cd, rfl, hb⟩
    exact ⟨d, cd, by rw [hE, hd]; rfl, hb⟩

set_option maxHeartbeats 3200000 in
set_option maxRecDepth 20000 in
theorem rload_ok (w : World) (v r A N : Nat) (t : RS) (G : Nat → Prop) (h : RK w v r A N t G) (R : List UInt8) (E : Nat) (hR : R = loadL (psOf t) A N) (hE : E = loadE (psOf t) A N) :
    Calls Try.prog 20 #[.pointer (some ⟨v, 0, none⟩)] w fun e w' => ∃ d cd, e = .returned (.tuple #[.slice d R.length cd, .int .i64 (E : Int)]) ∧ Sees w' d cd R ∧ Below w.heap.size w w' := by
  have H0 : Hid (Kr w v r A N w) := Kr.of h.bk
  have HK : Hid (∀ W, Below w.heap.size w W → RK W v r A N t G) := fun W hb => h.below hb
  obtain ⟨⟨c0, c1, c2⟩, _⟩ := H0.out
  cases hd : t.dead
  · have K2 : Hid (∀ W, Kr w v r A N W → Calls Try.prog 37 #[.pointer (some ⟨r, 0, none⟩), .int .i64 (A : Int), .int .i64 0] W fun e w' => ∃ d cd, e = .returned (.tuple #[.slice d 0 cd, .int .i64 0]) ∧ Below W.heap.size W w' ∧ Below w.heap.size w w') := fun W hb => by
      refine (rread_none W v r A N t G (h.below hb.2) 0 (by rw [hd]; rfl)).mono ?_
      rintro e w' ⟨d, cd, h1, h2⟩
      exact ⟨d, cd, h1, h2, hb.2.trans (h2.mono hb.2.size)⟩
    cases hn : newI (psOf t) A N with
    | none =>
      have e1 : R = [] := by rw [hR, loadL, if_neg (by simp [psOf, hd]), hn]
      have e2 : E = 8 := by rw [hE, loadE, if_neg (by simp [psOf, hd]), hn]
      have K3 : Hid (∀ W, Below w.heap.size w W → Calls Try.prog 38 #[.pointer (some ⟨v, 0, none⟩)] W fun e w' => e = .returned (.int .i64 (-1)) ∧ Below W.heap.size W w') := fun W hb => rnewest_ok W v r A N t G (HK.out W hb) _ (rnV_none hd hn).symm
      subst e1 e2
      clear h hR hE hd hn HK
      go_enter Try.func20, Try.ntmps20
      go_wp2
      go_region_held3 (fun W => (W.cell? ⟨v, 0, none⟩ = some (.pointer (some ⟨r, 0, none⟩)) ∧ W.cell? ⟨v, 1, none⟩ = some (.int .i64 (A : Int)) ∧ W.cell? ⟨v, 2, none⟩ = some (.int .i64 (N : Int))) ∧ Below w.heap.size w W)
        (first | exact H0.out | assumption | exact H0.out.drew | exact Kr.drew (by assumption) | exact Kr.below (by assumption) (by assumption))
        (first | (go_at_call 37; (with_reducible refine (K2.out _ ?_).mono ?_); (focus (first | exact H0.out | assumption | exact H0.out.drew | exact Kr.drew (by assumption) | exact Kr.below (by assumption) (by assumption))); rintro e w9 ⟨d, cd, rfl, hb8, hbr⟩))
      have k3 := K3.out w9 hbr
      clear K2 K3 hb8 H0 c0 c1 c2
      go_wp2_with fail
      refine k3.mono ?_
      rintro e w10 ⟨rfl, hb10⟩
      clear k3
      go_wp2
      go_ret2
      exact ⟨none, 0, rfl, Sees.nil' _, hbr.trans (hb10.mono hbr.size)⟩
    | some k =>
      have e1 : R = ((rowL (psOf t) A N k).drop 5).take N := by rw [hR, loadL, if_neg (by simp [psOf, hd]), hn]
      have e2 : E = 0 := by rw [hE, loadE, if_neg (by simp [psOf, hd]), hn]
      have hk := newI_le hn
      have HRL : Hid (R.length = N) := by
        show R.length = N
        have := rowL_len (psOf t) A N k hk h.fits
        rw [e1]; simp; omega
      have K3 : Hid (∀ W, Below w.heap.size w W → Calls Try.prog 38 #[.pointer (some ⟨v, 0, none⟩)] W fun e w' => e = .returned (.int .i64 (k : Int)) ∧ Below W.heap.size W w') := fun W hb => rnewest_ok W v r A N t G (HK.out W hb) _ (rnV_some hd hn).symm
      have K4 : Hid (∀ W, Below w.heap.size w W → Calls Try.prog 42 #[.pointer (some ⟨v, 0, none⟩), .int .i64 (k : Int)] W fun e w' => YesOne W N (numL (rowL (psOf t) A N k)) R e w') := fun W hb => rone_yes W v r A N t G (HK.out W hb) hd k hk _ rfl (newI_whole hn) _ rfl R e1
      obtain ⟨z, hz⟩ : ∃ z, z = numL (rowL (psOf t) A N k) := ⟨_, rfl⟩
      rw [← hz] at K4
      subst e2
      clear h hR hE hd hn HK hz e1
      go_enter Try.func20, Try.ntmps20
      go_wp2
      go_region_held3 (fun W => (W.cell? ⟨v, 0, none⟩ = some (.pointer (some ⟨r, 0, none⟩)) ∧ W.cell? ⟨v, 1, none⟩ = some (.int .i64 (A : Int)) ∧ W.cell? ⟨v, 2, none⟩ = some (.int .i64 (N : Int))) ∧ Below w.heap.size w W)
        (first | exact H0.out | assumption | exact H0.out.drew | exact Kr.drew (by assumption) | exact Kr.below (by assumption) (by assumption))
        (first | (go_at_call 37; (with_reducible refine (K2.out _ ?_).mono ?_); (focus (first | exact H0.out | assumption | exact H0.out.drew | exact Kr.drew (by assumption) | exact Kr.below (by assumption) (by assumption))); rintro e w9 ⟨d, cd, rfl, hb8, hbr⟩))
      have k3 := K3.out w9 hbr
      clear K2 K3 hb8 H0 c0 c1 c2
      go_wp2_with fail
      refine k3.mono ?_
      rintro e w10 ⟨rfl, hb10⟩
      have hb11 := hbr.trans (hb10.mono hbr.size)
      have k4 := K4.out w10 hb11
      clear k3 K4
      go_wp2_with fail
      refine k4.mono ?_
      rintro e w11 ⟨d1, o1, cc, rfl, hs11, hb12⟩
      have HS : Hid (Sees w11 (some ⟨d1, o1, none⟩) cc R) := hs11
      clear k4 hs11
      go_wp2
      go_ret2
      exact ⟨some ⟨d1, o1, none⟩, cc, by rw [HRL.out]; rfl, HS.out, hb11.trans (hb12.mono hb11.size)⟩
  · have K2 : Hid (∀ W, Kr w v r A N W → Calls Try.prog 37 #[.pointer (some ⟨r, 0, none⟩), .int .i64 (A : Int), .int .i64 0] W fun e w' => ∃ d cd, e = .returned (.tuple #[.slice d 0 cd, .int .i64 5]) ∧ Below W.heap.size W w' ∧ Below w.heap.size w w') := fun W hb => by
      refine (rread_none W v r A N t G (h.below hb.2) 5 (by rw [hd]; rfl)).mono ?_
      rintro e w' ⟨d, cd, h1, h2⟩
      exact ⟨d, cd, h1, h2, hb.2.trans (h2.mono hb.2.size)⟩
    have e1 : R = [] := by rw [hR, loadL, if_pos (by simp [psOf, hd])]
    have e2 : E = 5 := by rw [hE, loadE, if_pos (by simp [psOf, hd])]
    subst e1 e2
    clear h hR hE hd HK
    go_enter Try.func20, Try.ntmps20
    go_wp2
    go_region_held3 (fun W => (W.cell? ⟨v, 0, none⟩ = some (.pointer (some ⟨r, 0, none⟩)) ∧ W.cell? ⟨v, 1, none⟩ = some (.int .i64 (A : Int)) ∧ W.cell? ⟨v, 2, none⟩ = some (.int .i64 (N : Int))) ∧ Below w.heap.size w W)
      (first | exact H0.out | assumption | exact H0.out.drew | exact Kr.drew (by assumption) | exact Kr.below (by assumption) (by assumption))
      (first | (go_at_call 37; (with_reducible refine (K2.out _ ?_).mono ?_); (focus (first | exact H0.out | assumption | exact H0.out.drew | exact Kr.drew (by assumption) | exact Kr.below (by assumption) (by assumption))); rintro e w9 ⟨d, cd, rfl, hb8, hbr⟩))
    clear K2 hb8 H0 c0 c1 c2
    go_wp2
    go_ret2
    exact ⟨none, 0, rfl, Sees.nil' _, hbr⟩

theorem sign_one (b : List UInt8) (P M : Nat) (h : 1 ≤ M) : signB ((b.drop P).take M) = signB ((b.drop P).take 1) := by
  unfold signB
  rw [List.getElem?_take, List.getElem?_take, if_pos (by omega), if_pos (by omega)]

set_option maxHeartbeats 3200000 in
set_option maxRecDepth 20000 in
theorem rfresh_ok (w : World) (v r A N : Nat) (t : RS) (G : Nat → Prop) (h : RK w v r A N t G) (f : Bool) (hf : f = freshB (psOf t) A N) :
    Calls Try.prog 24 #[.pointer (some ⟨v, 0, none⟩)] w fun e w' => e = .returned (.bool f) ∧ Below w.heap.size w w' := by
  have H0 : Hid (Kr w v r A N w) := Kr.of h.bk
  have hN := h.small
  have hA := h.hA
  obtain ⟨P, hP⟩ : ∃ P : Nat, P = A + N + 8 := ⟨_, rfl⟩
  obtain ⟨Q, hQ⟩ : ∃ Q : Nat, Q = A + N := ⟨_, rfl⟩
  have e1 : (A : Int) + (N : Int) = (Q : Int) := by omega
  have e2 : (Q : Int) + 8 = (P : Int) := by omega
  have e3 : IntKind.i64.wrap (Q : Int) = (Q : Int) := by rw [IntKind.wrap_i64]; omega
  have e4 : IntKind.i64.wrap (P : Int) = (P : Int) := by rw [IntKind.wrap_i64]; omega
  cases hd : t.dead
  · have hfit := h.fits
    obtain ⟨X, hX⟩ : ∃ X, X = (t.b.drop A).take 1 := ⟨_, rfl⟩
    obtain ⟨Y, hY⟩ : ∃ Y, Y = (t.b.drop P).take 1 := ⟨_, rfl⟩
    have hfr : f = (!signB X && !signB Y) := by
      rw [hf, freshB, show (psOf t).dead = t.dead from rfl, hd, hX, hY, rowL, rowL, show (psOf t).b = t.b from rfl, sign_one _ _ _ (by omega), sign_one t.b (A + 1 * (N + 8)) _ (by omega), Nat.zero_mul, Nat.add_zero, show A + 1 * (N + 8) = P by omega]
      simp
    obtain ⟨x, hx⟩ : ∃ x, X[0]? = some x := ⟨t.b[A]'(by omega), by rw [hX]; simp⟩
    obtain ⟨y, hy⟩ : ∃ y, Y[0]? = some y := ⟨t.b[P]'(by omega), by rw [hY]; simp⟩
    have hsx := sign_int x X hx
    have hsy := sign_int y Y hy
    have HX : Hid (X[0]? = some x) := hx
    have HY : Hid (Y[0]? = some y) := hy
    have K1 : Hid (∀ W, Kr w v r A N W → Calls Try.prog 37 #[.pointer (some ⟨r, 0, none⟩), .int .i64 (A : Int), .int .i64 1] W fun e w' => ∃ d o cd, e = .returned (.tuple #[.slice (some ⟨d, o, none⟩) 1 cd, .int .i64 0]) ∧ Sees w' (some ⟨d, o, none⟩) cd X ∧ Below W.heap.size W w' ∧ Below w.heap.size w w') := fun W hb => by
      refine (rread_row W r t G (h.below hb.2).fl hd A 1 (by omega) (by omega) X hX).mono ?_
      rintro e w' ⟨d, o, cd, h1, h2, h3⟩
      exact ⟨d, o, cd, h1, h2, h3, hb.2.trans (h3.mono hb.2.size)⟩
    have K2 : Hid (∀ W0 W, Below w.heap.size w W0 → Kr W0 v r A N W → Calls Try.prog 37 #[.pointer (some ⟨r, 0, none⟩), .int .i64 (P : Int), .int .i64 1] W fun e w' => ∃ d o cd, e = .returned (.tuple #[.slice (some ⟨d, o, none⟩) 1 cd, .int .i64 0]) ∧ Sees w' (some ⟨d, o, none⟩) cd Y ∧ Below W.heap.size W w' ∧ Below W0.heap.size W0 w') := fun W0 W hb0 hb => by
      refine (rread_row W r t G (h.below (hb0.trans (hb.2.mono hb0.size))).fl hd P 1 (by omega) (by omega) Y hY).mono ?_
      rintro e w' ⟨d, o, cd, h1, h2, h3⟩
      exact ⟨d, o, cd, h1, h2, h3, hb.2.trans (h3.mono hb.2.size)⟩
    obtain ⟨⟨c0, c1, c2⟩, _⟩ := H0.out
    clear h hd hf hX hY hx hy hP hQ hfit
    go_enter Try.func24, Try.ntmps24
    go_wp2
    go_region_held3 (fun W => (W.cell? ⟨v, 0, none⟩ = some (.pointer (some ⟨r, 0, none⟩)) ∧ W.cell? ⟨v, 1, none⟩ = some (.int .i64 (A : Int)) ∧ W.cell? ⟨v, 2, none⟩ = some (.int .i64 (N : Int))) ∧ Below w.heap.size w W)
      (first | exact H0.out | assumption | exact H0.out.drew | exact Kr.drew (by assumption) | exact Kr.below (by assumption) (by assumption))
      (first | (go_at_call 37; (with_reducible refine (K1.out _ ?_).mono ?_); (focus (first | exact H0.out | assumption | exact H0.out.drew | exact Kr.drew (by assumption) | exact Kr.below (by assumption) (by assumption))); rintro e w9 ⟨d, o, cd, rfl, hs9, hb8, hbr⟩))
    have HS9 : Hid (Sees w9 (some ⟨d, o, none⟩) cd X) := hs9
    have hkr : Kr w v r A N w9 := H0.out.below hbr
    have H9 : Hid (Kr w9 v r A N w9) := ⟨hkr.1, Below.refl _ _⟩
    have K3 : Hid (∀ W, Kr w9 v r A N W → Calls Try.prog 37 #[.pointer (some ⟨r, 0, none⟩), .int .i64 (P : Int), .int .i64 1] W fun e w' => ∃ d o cd, e = .returned (.tuple #[.slice (some ⟨d, o, none⟩) 1 cd, .int .i64 0]) ∧ Sees w' (some ⟨d, o, none⟩) cd Y ∧ Below W.heap.size W w' ∧ Below w9.heap.size w9 w') := fun W hb => K2.out w9 W hbr hb
    obtain ⟨⟨q0, q1, q2⟩, _⟩ := H9.out
    clear K1 K2 hb8 H0 c0 c1 c2 hs9 hkr
    go_wp2
    go_region_held3 (fun W => (W.cell? ⟨v, 0, none⟩ = some (.pointer (some ⟨r, 0, none⟩)) ∧ W.cell? ⟨v, 1, none⟩ = some (.int .i64 (A : Int)) ∧ W.cell? ⟨v, 2, none⟩ = some (.int .i64 (N : Int))) ∧ Below w9.heap.size w9 W)
      (first | exact H9.out | assumption | exact H9.out.drew | exact Kr.drew (by assumption) | exact Kr.below (by assumption) (by assumption))
      (first | (go_at_call 37; (with_reducible refine (K3.out _ ?_).mono ?_); (focus (first | exact H9.out | assumption | exact H9.out.drew | exact Kr.drew (by assumption) | exact Kr.below (by assumption) (by assumption))); rintro e w10 ⟨d2, o2, cd2, rfl, hs10, hb82, hbr2⟩))
    obtain ⟨b1, p1, he, hcx⟩ := (HS9.out.below hbr2).get HX.out
    simp only [Option.some.injEq, Addr.mk.injEq, and_true] at he
    obtain ⟨rfl, rfl⟩ := he
    obtain ⟨b2, p2, he, hcy⟩ := hs10.get HY.out
    simp only [Option.some.injEq, Addr.mk.injEq, and_true] at he
    obtain ⟨rfl, rfl⟩ := he
    rw [Nat.add_zero] at hcx hcy
    have hb12 := hbr.trans (hbr2.mono hbr.size)
    clear K3 hb82 H9 q0 q1 q2 hs10 HS9 hbr hbr2
    cases hX : signB X
    · rw [hX] at hsx hfr
      have sx2 : ((x.toNat : Int) != 90) = true := by rw [bne, hsx]; rfl
      have sx3 : ¬ (x.toNat : Int) = 90 := by simpa using hsx
      cases hY : signB Y
      · rw [hY] at hsy hfr
        have sy2 : ((y.toNat : Int) != 90) = true := by rw [bne, hsy]; rfl
        have sy3 : ¬ (y.toNat : Int) = 90 := by simpa using hsy
        subst hfr
        go_wp2
        go_ret
        exact ⟨rfl, hb12⟩
      · rw [hY] at hsy hfr
        have sy2 : ((y.toNat : Int) != 90) = false := by rw [bne, hsy]; rfl
        have sy3 : (y.toNat : Int) = 90 := by simpa using hsy
        subst hfr
        go_wp2
        go_ret
        exact ⟨rfl, hb12⟩
    · rw [hX] at hsx hfr
      have sx2 : ((x.toNat : Int) != 90) = false := by rw [bne, hsx]; rfl
      have sx3 : (x.toNat : Int) = 90 := by simpa using hsx
      have hfr2 : f = false := by rw [hfr]; rfl
      clear hfr hsy
      subst hfr2
      go_wp2
      go_ret
      exact ⟨rfl, hb12⟩
  · have hff : f = false := by rw [hf, freshB, show (psOf t).dead = t.dead from rfl, hd]; rfl
    subst hff
    have K1 : Hid (∀ W, Kr w v r A N W → Calls Try.prog 37 #[.pointer (some ⟨r, 0, none⟩), .int .i64 (A : Int), .int .i64 1] W fun e w' => ∃ d cd, e = .returned (.tuple #[.slice d 0 cd, .int .i64 5]) ∧ Below W.heap.size W w' ∧ Below w.heap.size w w') := fun W hb => by
      refine (rread_dead W r t G (h.below hb.2).fl hd A 1).mono ?_
      rintro e w' ⟨d, cd, h1, h3⟩
      exact ⟨d, cd, h1, h3, hb.2.trans (h3.mono hb.2.size)⟩
    have K2 : Hid (∀ W0 W, Below w.heap.size w W0 → Kr W0 v r A N W → Calls Try.prog 37 #[.pointer (some ⟨r, 0, none⟩), .int .i64 (P : Int), .int .i64 1] W fun e w' => ∃ d cd, e = .returned (.tuple #[.slice d 0 cd, .int .i64 5]) ∧ Below W.heap.size W w' ∧ Below W0.heap.size W0 w') := fun W0 W hb0 hb => by
      refine (rread_dead W r t G (h.below (hb0.trans (hb.2.mono hb0.size))).fl hd P 1).mono ?_
      rintro e w' ⟨d, cd, h1, h3⟩
      exact ⟨d, cd, h1, h3, hb.2.trans (h3.mono hb.2.size)⟩
    obtain ⟨⟨c0, c1, c2⟩, _⟩ := H0.out
    clear h hd hf hP hQ
    go_enter Try.func24, Try.ntmps24
    go_wp2
    go_region_held3 (fun W => (W.cell? ⟨v, 0, none⟩ = some (.pointer (some ⟨r, 0, none⟩)) ∧ W.cell? ⟨v, 1, none⟩ = some (.int .i64 (A : Int)) ∧ W.cell? ⟨v, 2, none⟩ = some (.int .i64 (N : Int))) ∧ Below w.heap.size w W)
      (first | exact H0.out | assumption | exact H0.out.drew | exact Kr.drew (by assumption) | exact Kr.below (by assumption) (by assumption))
      (first | (go_at_call 37; (with_reducible refine (K1.out _ ?_).mono ?_); (focus (first | exact H0.out | assumption | exact H0.out.drew | exact Kr.drew (by assumption) | exact Kr.below (by assumption) (by assumption))); rintro e w9 ⟨d, cd, rfl, hb8, hbr⟩))
    have hkr : Kr w v r A N w9 := H0.out.below hbr
    have H9 : Hid (Kr w9 v r A N w9) := ⟨hkr.1, Below.refl _ _⟩
    have K3 : Hid (∀ W, Kr w9 v r A N W → Calls Try.prog 37 #[.pointer (some ⟨r, 0, none⟩), .int .i64 (P : Int), .int .i64 1] W fun e w' => ∃ d cd, e = .returned (.tuple #[.slice d 0 cd, .int .i64 5]) ∧ Below W.heap.size W w' ∧ Below w9.heap.size w9 w') := fun W hb => K2.out w9 W hbr hb
    obtain ⟨⟨q0, q1, q2⟩, _⟩ := H9.out
    clear K1 K2 hb8 H0 c0 c1 c2 hkr
    go_wp2
    go_region_held3 (fun W => (W.cell? ⟨v, 0, none⟩ = some (.pointer (some ⟨r, 0, none⟩)) ∧ W.cell? ⟨v, 1, none⟩ = some (.int .i64 (A : Int)) ∧ W.cell? ⟨v, 2, none⟩ = some (.int .i64 (N : Int))) ∧ Below w9.heap.size w9 W)
      (first | exact H9.out | assumption | exact H9.out.drew | exact Kr.drew (by assumption) | exact Kr.below (by assumption) (by assumption))
      (first | (go_at_call 37; (with_reducible refine (K3.out _ ?_).mono ?_); (focus (first | exact H9.out | assumption | exact H9.out.drew | exact Kr.drew (by assumption) | exact Kr.below (by assumption) (by assumption))); rintro e w10 ⟨d2, cd2, rfl, hb82, hbr2⟩))
    have hb12 := hbr.trans (hbr2.mono hbr.size)
    clear K3 hb82 H9 q0 q1 q2 hbr hbr2
    go_wp2
    go_ret
    exact ⟨rfl, hb12⟩
end Go.Proofs.Ytgnllmcgebonpaa
