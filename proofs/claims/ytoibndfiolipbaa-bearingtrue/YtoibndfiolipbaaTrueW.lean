/-
  The law: what was so is so.
-/
import Derived.Test.YtoibndfiolipbaaTrueM
import Derived.Test.YtoibndfiolipbaaPairArg
namespace Go.Proofs.Ytoibndfiolipbaa
open Go.ChangeShapes Go.WideShapes Go.ChangeAt Go.RowKit

theorem bounds_u16 {x : Int} (h : (Lit.int .u16 x).wf = true) : 0 ≤ x ∧ x < 65536 := by
  simp [Lit.wf, IntKind.min, IntKind.max, IntKind.signed, IntKind.bits] at h; omega
theorem bounds_i8 {x : Int} (h : (Lit.int .i8 x).wf = true) : -128 ≤ x ∧ x < 128 := by
  simp [Lit.wf, IntKind.min, IntKind.max, IntKind.signed, IntKind.bits] at h; omega
theorem max3i (a b : Int) (w : World) : (Builtin.max_ #[3, 3] 3 #[.int .i64 a, .int .i64 b]).run Try.prog w = .ok (.int .i64 (max a b)) w := by
  simp only [Builtin.max_, List.foldlM_cons, List.foldlM_nil, Builtin.max2, Sem.run_bind, Sem.run_pure, Result.andThen_ok]
  congr 2
  omega
theorem min3i (a b : Int) (w : World) : (Builtin.min_ #[3, 3] 3 #[.int .i64 a, .int .i64 b]).run Try.prog w = .ok (.int .i64 (min a b)) w := by
  simp only [Builtin.min_, List.foldlM_cons, List.foldlM_nil, Builtin.min2, Sem.run_bind, Sem.run_pure, Result.andThen_ok]
  congr 2
  omega
theorem Solo.mostB {w W : World} {g : Nat} {v : Bt} {n : Nat} (h : Solo w W g v n) (f t : Int) : Calls Try.prog 16 #[.pointer (some ⟨g, 0, none⟩), .int .i64 f, .int .i64 t] W fun e w' => e = .returned (.tuple #[.int .i64 (mosV (atA v f t) t), .int .i64 (atA v f t).e]) ∧ Below W.heap.size W w' := by
  obtain ⟨m, h1, h2, h3, h4⟩ := h
  exact most_ok W g m v n h1 h4 f t
/-- The two arrays that came in, boxed. -/
def Box2 (w : World) (g : Nat) (x y : Int) : Prop := w.heap[g]? = some (.cells #[.int .u16 x, .int .u16 y] 54 (0, 0))
theorem Box2.facts {w : World} {g : Nat} {x y : Int} (h : Box2 w g x y) : w.cell? ⟨g, 0, none⟩ = some (.int .u16 x) ∧ w.cell? ⟨g, 1, none⟩ = some (.int .u16 y) := by
  unfold Box2 at h
  exact ⟨by simp [World.cell?, h], by simp [World.cell?, h]⟩
theorem Box2.lt {w : World} {g : Nat} {x y : Int} (h : Box2 w g x y) : g < w.heap.size := (Array.getElem?_eq_some_iff.1 h).1
theorem Box2.below {w w' : World} {g : Nat} {x y : Int} (h : Box2 w g x y) (hb : Below w.heap.size w w') : Box2 w' g x y := (hb.block g h.lt).trans h
/-- A clock's step, by parts. -/
theorem stp_parts (o z : Int) (h : -1000000000 ≤ o ∧ o ≤ 1000000000) : IntKind.i64.wrap (o + 100) = o + 100 ∧ IntKind.i64.wrap (o + 100 + min (max z (-3)) 3) = o + stpN z := by
  unfold stpN
  exact ⟨wrap_in (by omega) (by omega), by rw [wrap_in (by omega) (by omega)]; omega⟩

set_option maxHeartbeats 6400000 in
set_option maxRecDepth 20000 in
theorem true_walk (far p0 p1 q0 q1 : Int) (la : Option Addr) (lc : Nat) (L : List (Int × Int)) (ma : Option Addr) (mc : Nat) (M : List (Int × Int)) (w : World) (_w0 : (Lit.int .i64 far).wf = true)
    (wp0 : (Lit.int .u16 p0).wf = true) (wp1 : (Lit.int .u16 p1).wf = true) (wq0 : (Lit.int .u16 q0).wf = true) (wq1 : (Lit.int .u16 q1).wf = true) (sL : Pairs2 .i8 w la lc L) (sM : Pairs2 .i8 w ma mc M) :
    Calls Try.prog 4 #[.int .i64 far, .agg #[.int .u16 p0, .int .u16 p1], .agg #[.int .u16 q0, .int .u16 q1], .slice la L.length lc, .slice ma M.length mc] w fun e w' => e = .returned (.bool true) ∧ Below w.heap.size w w' := by
  obtain ⟨W1, hW1⟩ : ∃ W, W = (w.alloc (.cells #[.int .u16 p0, .int .u16 p1] 54)).alloc (.cells #[.int .u16 q0, .int .u16 q1] 54) := ⟨_, rfl⟩
  have hP1 : Box2 W1 w.heap.size p0 p1 := by
    have a1 : Box2 (w.alloc (.cells #[.int .u16 p0, .int .u16 p1] 54)) w.heap.size p0 p1 := heap_alloc_new _ _
    rw [hW1]; exact a1.below (Go.Joins.below_alloc1 _ _)
  have hP2 : Box2 W1 (w.heap.size + 1) q0 q1 := by
    have a1 : Box2 ((w.alloc (.cells #[.int .u16 p0, .int .u16 p1] 54)).alloc (.cells #[.int .u16 q0, .int .u16 q1] 54)) (w.alloc (.cells #[.int .u16 p0, .int .u16 p1] 54)).heap.size q0 q1 := heap_alloc_new _ _
    rw [World.size_alloc] at a1
    rw [hW1]; exact a1
  have hb1 : Below w.heap.size w W1 := by rw [hW1]; exact Go.Joins.below_alloc2 _ _ _
  have HB : Hid (Below w.heap.size w W1 ∧ Box2 W1 w.heap.size p0 p1 ∧ Box2 W1 (w.heap.size + 1) q0 q1 ∧ Pairs2 .i8 W1 la lc L ∧ Pairs2 .i8 W1 ma mc M) := ⟨hb1, hP1, hP2, sL.below hb1, sM.below hb1⟩
  have b0 := bounds_u16 wp0
  have b1 := bounds_u16 wp1
  have b2 := bounds_u16 wq0
  have b3 := bounds_u16 wq1
  have HU : Hid ((0 ≤ p0 ∧ p0 ≤ 65535) ∧ (0 ≤ p1 ∧ p1 ≤ 65535) ∧ (0 ≤ q0 ∧ q0 ≤ 65535) ∧ (0 ≤ q1 ∧ q1 ≤ 65535)) := ⟨by omega, by omega, by omega, by omega⟩
  have u0 : IntKind.i64.wrap p0 = p0 := wrap_in (by omega) (by omega)
  have u1 : IntKind.i64.wrap p1 = p1 := wrap_in (by omega) (by omega)
  have u2 : IntKind.i64.wrap q0 = q0 := wrap_in (by omega) (by omega)
  have u3 : IntKind.i64.wrap q1 = q1 := wrap_in (by omega) (by omega)
  have KU := usual_ok W1
  have KN : Hid (∀ W, Below W1.heap.size W1 W → Calls Try.prog 7 #[.agg (cfC usualC), .int .i64 0] W fun e w' => ∃ g, e = .returned (.tuple #[.pointer (some ⟨g, 0, none⟩), .int .i64 0]) ∧ Solo W1 w' g (newT usualC 0) 0) := fun W hW => solo_new W1 W hW usualC 0 (by decide)
  have KAW : Hid (∀ W, Below w.heap.size w W → Calls Try.prog 9 #[] W fun e w' => e = .returned (.bool true) ∧ Below w.heap.size w w') := fun W hW => (awake_ok W).mono fun _ _ ⟨he, hb⟩ => ⟨he, hW.trans (hb.mono hW.size)⟩
  clear wp0 wp1 wq0 wq1 sL sM hP1 hP2 hb1 b0 b1 b2 b3
  go_enter Try.func4, Try.ntmps4
  go_wp2_with fail
  rw [← hW1]
  clear hW1
  refine KU.mono ?_
  rintro e w2 ⟨rfl, hb2⟩
  have kn := KN.out w2 hb2
  clear KU KN hb2
  go_wp2_with fail
  refine kn.mono ?_
  rintro e w3 ⟨g, rfl, hS3⟩
  have H3 : Hid (Solo W1 w3 g (newT usualC 0) 0) := hS3
  clear kn hS3
  by_cases hf1 : far < -1000000
  · have ka := KAW.out w3 (HB.out.1.trans (H3.out.low.mono HB.out.1.size))
    go_wp2_with fail
    refine ka.mono ?_
    rintro e w4 ⟨rfl, hb⟩
    have HE : Hid (Below w.heap.size w w4) := hb
    clear ka hb
    go_wp2
    go_ret
    exact ⟨rfl, HE.out⟩
  by_cases hf2 : 1000000 < far
  · have ka := KAW.out w3 (HB.out.1.trans (H3.out.low.mono HB.out.1.size))
    go_wp2_with fail
    refine ka.mono ?_
    rintro e w4 ⟨rfl, hb⟩
    have HE : Hid (Below w.heap.size w w4) := hb
    clear ka hb
    go_wp2
    go_ret
    exact ⟨rfl, HE.out⟩
  have HF : Hid (-1000000 ≤ far ∧ far ≤ 1000000) := ⟨by omega, by omega⟩
  obtain ⟨P, hP⟩ : ∃ P, P = 2000000 + far := ⟨_, rfl⟩
  have HP : Hid (P = 2000000 + far) := hP
  have e1 : IntKind.i64.wrap (2000000 + far) = P := by rw [hP]; exact wrap_in (by omega) (by omega)
  have e2 : IntKind.i64.wrap (P - 2000000) = far := by rw [hP, wrap_in (by omega) (by omega)]; omega
  obtain ⟨lo, hlo⟩ : ∃ x, x = far - p0 := ⟨_, rfl⟩
  obtain ⟨hi, hhi⟩ : ∃ x, x = far + p1 := ⟨_, rfl⟩
  have e3 : IntKind.i64.wrap (far - p0) = lo := by have := HU.out; rw [hlo]; exact wrap_in (by omega) (by omega)
  have e4 : IntKind.i64.wrap (far + p1) = hi := by have := HU.out; rw [hhi]; exact wrap_in (by omega) (by omega)
  have HN1 : Hid (Hn (putV (newT usualC 0) 1 lo hi 2000000) far 2000000) := by
    rw [hlo, hhi]; exact Hn.first HU.out.1 HU.out.2.1 HF.out
  have KP1 := H3.out.put (by omega) 1 lo hi 2000000
  obtain ⟨c0, c1⟩ := (HB.out.2.1.below H3.out.low).facts
  generalize putV (newT usualC 0) 1 lo hi 2000000 = v1 at *
  generalize putE (newT usualC 0) 1 lo hi 2000000 = pe1 at *
  clear hP hlo hhi H3
  go_wp2_with fail
  refine KP1.mono ?_
  rintro e w4 ⟨rfl, hS4⟩
  have H4 : Hid (Solo W1 w4 g v1 1) := hS4
  clear KP1 hS4 c0 c1 e1 e2 e3 e4 u0 u1 hf1 hf2
  go_upto_region 7 with fail
  go_wp2
  go_loopw [13, 14, 15] (fun a b i wr => ∃ (j : Nat) (o p : Int), j ≤ L.length ∧ j ≤ 30 ∧ a = .int .i64 o ∧ b = .int .i64 p ∧ i = .int .i64 (j : Int) ∧ Bs j (o - 2000000) ∧ Bs j (p - P) ∧ Solo W1 wr g v1 1) (fun _ _ i _ => 30 - (intOf i).toNat)
  case atStart => exact ⟨0, 2000000, P, Nat.zero_le _, by omega, rfl, rfl, rfl, by unfold Bs; omega, by unfold Bs; omega, H4.out⟩
  case round =>
    obtain ⟨j, o, p, hjl, hj3, rfl, rfl, rfl, hBo, hBp, hs⟩ := hrel
    have HBO : Hid (Bs j (o - 2000000) ∧ Bs j (p - P) ∧ j ≤ 30) := ⟨hBo, hBp, hj3⟩
    have H5 : Hid (Solo W1 wr g v1 1) := hs
    have hor : 2000000 ≤ o ∧ o ≤ 2003090 ∧ P ≤ p ∧ p ≤ P + 3090 := by
      have h1 := hBo.1; have h2 := hBo.2; have h3 := hBp.1; have h4 := hBp.2
      omega
    have HOR : Hid (2000000 ≤ o ∧ o ≤ 2003090 ∧ P ≤ p ∧ p ≤ P + 3090) := hor
    have HPR : Hid (1000000 ≤ P ∧ P ≤ 3000000) := by have h1 := HP.out; have h2 := HF.out; show 1000000 ≤ P ∧ P ≤ 3000000; omega
    clear hBo hBp hs H4 hor
    by_cases hlt : (j : Int) < (L.length : Int) ∧ (j : Int) < 30
    · obtain ⟨g1, g2⟩ := hlt
      have g3 : (0 : Int) ≤ (j : Int) := Int.natCast_nonneg _
      obtain ⟨⟨za, zb⟩, hx⟩ : ∃ x, L[j]? = some x := ⟨_, List.getElem?_eq_getElem (by omega)⟩
      have hps := HB.out.2.2.2.1.below H5.out.low
      obtain ⟨lb, lo, hla, hc1, hc2⟩ := hps.get hx
      have hwz := hps.wf _ (List.mem_of_getElem? hx)
      dsimp only at hc1 hc2
      have bz1 := bounds_i8 hwz.1
      have bz2 := bounds_i8 hwz.2
      dsimp only at bz1 bz2
      subst hla
      have HJ : Hid (j < L.length ∧ j < 30) := ⟨by omega, by omega⟩
      have e9 : IntKind.i64.wrap ((j : Int) + 1) = ((j + 1 : Nat) : Int) := by rw [wrap_in (by omega) (by omega)]; omega
      have ez1 : IntKind.i64.wrap za = za := wrap_in (by omega) (by omega)
      have ez2 : IntKind.i64.wrap zb = zb := wrap_in (by omega) (by omega)
      obtain ⟨s1, s2⟩ := stp_parts o za (by have := HOR.out; omega)
      obtain ⟨s3, s4⟩ := stp_parts p zb (by have := HOR.out; have := HPR.out; omega)
      have hx1 := max3i za (-3)
      have hx2 := max3i zb (-3)
      have hn1 := min3i (max za (-3)) 3
      have hn2 := min3i (max zb (-3)) 3
      generalize min (max za (-3)) 3 = m1 at *
      generalize min (max zb (-3)) 3 = m2 at *
      generalize max za (-3) = x1 at *
      generalize max zb (-3) = x2 at *
      have HE : Hid (Bs (j + 1 : Nat) (o + stpN za - 2000000) ∧ Bs (j + 1 : Nat) (p + stpN zb - P)) := by
        have h1 := HBO.out.1.step (z := za)
        have h2 := HBO.out.2.1.step (z := zb)
        have z1 : o - 2000000 + stpN za = o + stpN za - 2000000 := by omega
        have z2 : p - P + stpN zb = p + stpN zb - P := by omega
        have z3 : ((j + 1 : Nat) : Int) = (j : Int) + 1 := by omega
        rw [z1] at h1
        rw [z2] at h2
        rw [z3]
        exact ⟨h1, h2⟩
      generalize o + stpN za = o2 at *
      generalize p + stpN zb = p2 at *
      obtain ⟨o1, ho1⟩ : ∃ x, x = o + 100 := ⟨_, rfl⟩
      obtain ⟨pp1, hp1⟩ : ∃ x, x = p + 100 := ⟨_, rfl⟩
      have t1 : IntKind.i64.wrap (o + 100) = o1 := by rw [ho1]; exact s1
      have t3 : IntKind.i64.wrap (p + 100) = pp1 := by rw [hp1]; exact s3
      rw [← ho1] at s2
      rw [← hp1] at s4
      clear hx hps hwz bz1 bz2 hjl hj3 s1 s3 ho1 hp1
      go_wp2
      go_roundw
      case rel => exact ⟨j + 1, o2, p2, HJ.out.1, HJ.out.2, rfl, rfl, rfl, HE.out.1, HE.out.2, H5.out⟩
      case measure => have := HJ.out; simp [intOf]; omega
    · obtain ⟨D, hD⟩ : ∃ D, D = p - o := ⟨_, rfl⟩
      obtain ⟨lo, hlo⟩ : ∃ x, x = D - q0 := ⟨_, rfl⟩
      obtain ⟨hi, hhi⟩ : ∃ x, x = D + q1 := ⟨_, rfl⟩
      have e2 : IntKind.i64.wrap (p - o) = D := by have := HOR.out; have := HPR.out; rw [hD]; exact wrap_in (by omega) (by omega)
      have e3 : IntKind.i64.wrap (D - q0) = lo := by have := HOR.out; have := HPR.out; have := HU.out; rw [hlo]; exact wrap_in (by omega) (by omega)
      have e4 : IntKind.i64.wrap (D + q1) = hi := by have := HOR.out; have := HPR.out; have := HU.out; rw [hhi]; exact wrap_in (by omega) (by omega)
      have HN2 : Hid (Hn (putV v1 1 lo hi o) D o) := by
        have h := HN1.out.again (n := j) (a := o - 2000000) (b := p - P) (x := q0) (y := q1) (by omega) (by have := HBO.out.2.2; omega) HBO.out.1 HBO.out.2.1 rfl HF.out HU.out.2.2.1 HU.out.2.2.2
        have z1 : far + (p - P - (o - 2000000)) = D := by have := HP.out; omega
        have z2 : 2000000 + (o - 2000000) = o := by omega
        rw [z1, z2, ← hlo, ← hhi] at h
        exact h
      have HDR : Hid (D = p - o) := hD
      have KP2 := H5.out.put (by omega) 1 lo hi o
      obtain ⟨c0, c1⟩ := (HB.out.2.2.1.below H5.out.low).facts
      generalize putV v1 1 lo hi o = v2 at *
      generalize putE v1 1 lo hi o = pe2 at *
      clear hlo hhi hD H5 HN1 HF
      by_cases hjl2 : (j : Int) < (L.length : Int)
      · have hj3' : ¬ (j : Int) < 30 := fun h => hlt ⟨hjl2, h⟩
        clear hlt hjl hj3
        go_wp2_with fail
        refine KP2.mono ?_
        rintro e w6 ⟨rfl, hS6⟩
        have H6 : Hid (Solo W1 w6 g v2 2) := hS6
        clear KP2 hS6 c0 c1 e2 e3 e4 u2 u3
        go_wp2
        go_loopw [13, 14, 16] (fun a b i wr => ∃ (k : Nat) (o2 p2 : Int), k ≤ M.length ∧ k ≤ 60 ∧ a = .int .i64 o2 ∧ b = .int .i64 p2 ∧ i = .int .i64 (k : Int) ∧ Bs k (o2 - o) ∧ Bs k (p2 - p) ∧ Solo W1 wr g v2 2) (fun _ _ i _ => 60 - (intOf i).toNat)
        case atStart => exact ⟨0, o, p, Nat.zero_le _, by omega, rfl, rfl, rfl, by unfold Bs; omega, by unfold Bs; omega, H6.out⟩
        case round =>
          clear H6
          generalize hoo : o = ob at *
          generalize hpp : p = pb at *
          clear hoo hpp HBO
          obtain ⟨j, o, p, hjl, hj3, rfl, rfl, rfl, hBo, hBp, hs⟩ := hrel
          have HBO : Hid (Bs j (o - ob) ∧ Bs j (p - pb) ∧ j ≤ 60) := ⟨hBo, hBp, hj3⟩
          have H7 : Hid (Solo W1 wr g v2 2) := hs
          have hor : 2000000 ≤ o ∧ o ≤ 2009270 ∧ P ≤ p ∧ p ≤ P + 9270 := by
            have h0 := HOR.out
            have h1 := hBo.1; have h2 := hBo.2; have h3 := hBp.1; have h4 := hBp.2
            omega
          have HOR2 : Hid (2000000 ≤ o ∧ o ≤ 2009270 ∧ P ≤ p ∧ p ≤ P + 9270) := hor
          clear hBo hBp hs hor
          by_cases hlt : (j : Int) < (M.length : Int) ∧ (j : Int) < 60
          · obtain ⟨g1, g2⟩ := hlt
            have g3 : (0 : Int) ≤ (j : Int) := Int.natCast_nonneg _
            obtain ⟨⟨za, zb⟩, hx⟩ : ∃ x, M[j]? = some x := ⟨_, List.getElem?_eq_getElem (by omega)⟩
            have hps := HB.out.2.2.2.2.below H7.out.low
            obtain ⟨lb, lo, hla, hc1, hc2⟩ := hps.get hx
            have hwz := hps.wf _ (List.mem_of_getElem? hx)
            dsimp only at hc1 hc2
            have bz1 := bounds_i8 hwz.1
            have bz2 := bounds_i8 hwz.2
            dsimp only at bz1 bz2
            subst hla
            have HJ : Hid (j < M.length ∧ j < 60) := ⟨by omega, by omega⟩
            have e9 : IntKind.i64.wrap ((j : Int) + 1) = ((j + 1 : Nat) : Int) := by rw [wrap_in (by omega) (by omega)]; omega
            have ez1 : IntKind.i64.wrap za = za := wrap_in (by omega) (by omega)
            have ez2 : IntKind.i64.wrap zb = zb := wrap_in (by omega) (by omega)
            obtain ⟨s1, s2⟩ := stp_parts o za (by have := HOR2.out; omega)
            obtain ⟨s3, s4⟩ := stp_parts p zb (by have := HOR2.out; have := HPR.out; omega)
            have hx1 := max3i za (-3)
            have hx2 := max3i zb (-3)
            have hn1 := min3i (max za (-3)) 3
            have hn2 := min3i (max zb (-3)) 3
            generalize min (max za (-3)) 3 = m1 at *
            generalize min (max zb (-3)) 3 = m2 at *
            generalize max za (-3) = x1 at *
            generalize max zb (-3) = x2 at *
            have HE : Hid (Bs (j + 1 : Nat) (o + stpN za - ob) ∧ Bs (j + 1 : Nat) (p + stpN zb - pb)) := by
              have h1 := HBO.out.1.step (z := za)
              have h2 := HBO.out.2.1.step (z := zb)
              have z1 : o - ob + stpN za = o + stpN za - ob := by omega
              have z2 : p - pb + stpN zb = p + stpN zb - pb := by omega
              have z3 : ((j + 1 : Nat) : Int) = (j : Int) + 1 := by omega
              rw [z1] at h1
              rw [z2] at h2
              rw [z3]
              exact ⟨h1, h2⟩
            generalize o + stpN za = o2 at *
            generalize p + stpN zb = p2 at *
            obtain ⟨o1, ho1⟩ : ∃ x, x = o + 100 := ⟨_, rfl⟩
            obtain ⟨pp1, hp1⟩ : ∃ x, x = p + 100 := ⟨_, rfl⟩
            have t1 : IntKind.i64.wrap (o + 100) = o1 := by rw [ho1]; exact s1
            have t3 : IntKind.i64.wrap (p + 100) = pp1 := by rw [hp1]; exact s3
            rw [← ho1] at s2
            rw [← hp1] at s4
            clear hx hps hwz bz1 bz2 hjl hj3 s1 s3 ho1 hp1
            go_wp2
            go_roundw
            case rel => exact ⟨j + 1, o2, p2, HJ.out.1, HJ.out.2, rfl, rfl, rfl, HE.out.1, HE.out.2, H7.out⟩
            case measure => have := HJ.out; simp [intOf]; omega
          · have hlat := HN2.out.later (n := j) (a := o - ob) (b := p - pb) (by omega) (by omega) HBO.out.1 HBO.out.2.1
            have z1 : ob + (o - ob) = o := by omega
            obtain ⟨E, hE⟩ : ∃ E, E = p - o := ⟨_, rfl⟩
            have z2 : D + (p - pb - (o - ob)) = E := by have := HDR.out; omega
            rw [z1, z2] at hlat
            have e5 : IntKind.i64.wrap (p - o) = E := by have := HOR2.out; have := HPR.out; rw [hE]; exact wrap_in (by omega) (by omega)
            have KA := H7.out.at 1 o
            have KM : Hid (∀ W, Solo W1 W g v2 2 → Calls Try.prog 16 #[.pointer (some ⟨g, 0, none⟩), .int .i64 1, .int .i64 o] W fun e w' => e = .returned (.tuple #[.int .i64 (mosV (atA v2 1 o) o), .int .i64 (atA v2 1 o).e]) ∧ Below W.heap.size W w') := fun W hW => hW.mostB 1 o
            have HMV : Hid (mosV (atA v2 1 o) o = if (atA v2 1 o).e = 0 then max (o + (atA v2 1 o).b) 0 else 0) := rfl
            have hrt : (atA v2 1 o).e = 0 → rightB (atA v2 1 o).a (atA v2 1 o).b = true := fun h => at_right h
            have KH : Hid (∀ W, Calls Try.prog 25 #[.agg #[.int .i64 (atA v2 1 o).a, .int .i64 (atA v2 1 o).b], .int .i64 E] W fun e w' => e = .returned (.bool (holdsB (atA v2 1 o).a (atA v2 1 o).b E)) ∧ Below W.heap.size W w') := fun W => holds_ok W _ _ _
            generalize mosV (atA v2 1 o) o = mv at *
            generalize atA v2 1 o = X at *
            obtain ⟨x, y, z⟩ := X
            dsimp only at hlat KA KM HMV hrt KH
            have HLT : Hid ((z = 0 → x ≤ E ∧ E ≤ y) ∧ (z = 0 ∨ z = 6) ∧ ((j : Int) ≤ 20 → z = 0)) := hlat
            have HRT : Hid (z = 0 → rightB x y = true) := hrt
            have HED : Hid (E = p - o) := hE
            have HEX : Hid (¬ ((j : Int) < (M.length : Int) ∧ (j : Int) < 60)) := hlt
            have HJL : Hid (j ≤ M.length) := hjl
            clear hlat hrt hE z1 z2 H7 hlt hjl HN2
            by_cases hjm : (j : Int) < (M.length : Int)
            · have hj6 : ¬ (j : Int) < 60 := fun h => HEX.out ⟨hjm, h⟩
              clear hj3
              go_wp2_with fail
              refine KA.mono ?_
              rintro e w7 ⟨rfl, hS7⟩
              clear KA
              go_upto_region 19 with fail
              have H8 : Hid (Solo W1 (w7.alloc (.cells #[.int .i64 x, .int .i64 y] 39)) g v2 2) := hS7.below (Go.Joins.below_alloc1 _ _)
              have HP8 : Hid (Pair (w7.alloc (.cells #[.int .i64 x, .int .i64 y] 39)) w7.heap.size x y) := Pair.new w7 x y
              generalize w7.alloc (.cells #[.int .i64 x, .int .i64 y] 39) = w8 at *
              generalize w7.heap.size = pq at *
              clear hS7 w7
              by_cases hz : z = 0
              · subst hz
                have hmv : mv = max (o + y) 0 := by rw [HMV.out]; simp
                have hlx := HLT.out.1 rfl
                have hhB : holdsB x y E = true := by
                  rw [holdsB_eq (HRT.out rfl)]; exact decide_eq_true hlx
                have hge : p ≤ mv := by
                  have := HED.out
                  rw [hmv]; omega
                rw [hhB] at KH
                have km := KM.out w8 H8.out
                clear hmv hlx hhB HMV HLT HRT KM HED
                go_wp2_with fail
                refine km.mono ?_
                rintro e w9 ⟨rfl, hb9⟩
                have H9 : Hid (Solo W1 w9 g v2 2) := H8.out.below hb9
                have hP9 := HP8.out.below hb9
                obtain ⟨y0, y1, y2, y3⟩ := hP9.facts
                clear km hb9 H8 HP8 hP9
                go_wp2_with fail
                refine (KH.out _).mono ?_
                rintro e wa ⟨rfl, hba⟩
                have Ha : Hid (Below w.heap.size w wa) := HB.out.1.trans ((H9.out.below hba).low.mono HB.out.1.size)
                have ka := KAW.out wa Ha.out
                clear KH hba y0 y1 y2 y3 H9
                go_wp2_with fail
                refine ka.mono ?_
                rintro e wb ⟨rfl, hbb⟩
                have Hb : Hid (Below w.heap.size w wb) := hbb
                clear ka hbb
                go_wp2
                go_ret
                exact ⟨by first | rfl | simp, Hb.out⟩
              · have hz6 : z = 6 := by
                  rcases HLT.out.2.1 with h | h
                  · exact absurd h hz
                  · exact h
                have hM : (20 : Int) < (M.length : Int) := by
                  have h1 := HJL.out
                  have h2 : ¬ (j : Int) ≤ 20 := fun h => hz (HLT.out.2.2 h)
                  omega
                subst hz6
                have ka := KAW.out w8 (HB.out.1.trans (H8.out.low.mono HB.out.1.size))
                clear HMV HLT HRT KM HED KH HP8 H8 hz
                go_wp2_with fail
                refine ka.mono ?_
                rintro e wb ⟨rfl, hbb⟩
                have Hb : Hid (Below w.heap.size w wb) := hbb
                clear ka hbb
                go_wp2
                go_ret
                exact ⟨by first | rfl | simp, Hb.out⟩
            · clear hj3
              go_wp2_with fail
              refine KA.mono ?_
              rintro e w7 ⟨rfl, hS7⟩
              clear KA
              go_upto_region 19 with fail
              have H8 : Hid (Solo W1 (w7.alloc (.cells #[.int .i64 x, .int .i64 y] 39)) g v2 2) := hS7.below (Go.Joins.below_alloc1 _ _)
              have HP8 : Hid (Pair (w7.alloc (.cells #[.int .i64 x, .int .i64 y] 39)) w7.heap.size x y) := Pair.new w7 x y
              generalize w7.alloc (.cells #[.int .i64 x, .int .i64 y] 39) = w8 at *
              generalize w7.heap.size = pq at *
              clear hS7 w7
              by_cases hz : z = 0
              · subst hz
                have hmv : mv = max (o + y) 0 := by rw [HMV.out]; simp
                have hlx := HLT.out.1 rfl
                have hhB : holdsB x y E = true := by
                  rw [holdsB_eq (HRT.out rfl)]; exact decide_eq_true hlx
                have hge : p ≤ mv := by
                  have := HED.out
                  rw [hmv]; omega
                rw [hhB] at KH
                have km := KM.out w8 H8.out
                clear hmv hlx hhB HMV HLT HRT KM HED
                go_wp2_with fail
                refine km.mono ?_
                rintro e w9 ⟨rfl, hb9⟩
                have H9 : Hid (Solo W1 w9 g v2 2) := H8.out.below hb9
                have hP9 := HP8.out.below hb9
                obtain ⟨y0, y1, y2, y3⟩ := hP9.facts
                clear km hb9 H8 HP8 hP9
                go_wp2_with fail
                refine (KH.out _).mono ?_
                rintro e wa ⟨rfl, hba⟩
                have Ha : Hid (Below w.heap.size w wa) := HB.out.1.trans ((H9.out.below hba).low.mono HB.out.1.size)
                have ka := KAW.out wa Ha.out
                clear KH hba y0 y1 y2 y3 H9
                go_wp2_with fail
                refine ka.mono ?_
                rintro e wb ⟨rfl, hbb⟩
                have Hb : Hid (Below w.heap.size w wb) := hbb
                clear ka hbb
                go_wp2
                go_ret
                exact ⟨by first | rfl | simp, Hb.out⟩
              · have hz6 : z = 6 := by
                  rcases HLT.out.2.1 with h | h
                  · exact absurd h hz
                  · exact h
                have hM : (20 : Int) < (M.length : Int) := by
                  have h1 := HJL.out
                  have h2 : ¬ (j : Int) ≤ 20 := fun h => hz (HLT.out.2.2 h)
                  omega
                subst hz6
                have ka := KAW.out w8 (HB.out.1.trans (H8.out.low.mono HB.out.1.size))
                clear HMV HLT HRT KM HED KH HP8 H8 hz
                go_wp2_with fail
                refine ka.mono ?_
                rintro e wb ⟨rfl, hbb⟩
                have Hb : Hid (Below w.heap.size w wb) := hbb
                clear ka hbb
                go_wp2
                go_ret
                exact ⟨by first | rfl | simp, Hb.out⟩
      · clear hlt hjl hj3
        go_wp2_with fail
        refine KP2.mono ?_
        rintro e w6 ⟨rfl, hS6⟩
        have H6 : Hid (Solo W1 w6 g v2 2) := hS6
        clear KP2 hS6 c0 c1 e2 e3 e4 u2 u3
        go_wp2
        go_loopw [13, 14, 16] (fun a b i wr => ∃ (k : Nat) (o2 p2 : Int), k ≤ M.length ∧ k ≤ 60 ∧ a = .int .i64 o2 ∧ b = .int .i64 p2 ∧ i = .int .i64 (k : Int) ∧ Bs k (o2 - o) ∧ Bs k (p2 - p) ∧ Solo W1 wr g v2 2) (fun _ _ i _ => 60 - (intOf i).toNat)
        case atStart => exact ⟨0, o, p, Nat.zero_le _, by omega, rfl, rfl, rfl, by unfold Bs; omega, by unfold Bs; omega, H6.out⟩
        case round =>
          clear H6
          generalize hoo : o = ob at *
          generalize hpp : p = pb at *
          clear hoo hpp HBO
          obtain ⟨j, o, p, hjl, hj3, rfl, rfl, rfl, hBo, hBp, hs⟩ := hrel
          have HBO : Hid (Bs j (o - ob) ∧ Bs j (p - pb) ∧ j ≤ 60) := ⟨hBo, hBp, hj3⟩
          have H7 : Hid (Solo W1 wr g v2 2) := hs
          have hor : 2000000 ≤ o ∧ o ≤ 2009270 ∧ P ≤ p ∧ p ≤ P + 9270 := by
            have h0 := HOR.out
            have h1 := hBo.1; have h2 := hBo.2; have h3 := hBp.1; have h4 := hBp.2
            omega
          have HOR2 : Hid (2000000 ≤ o ∧ o ≤ 2009270 ∧ P ≤ p ∧ p ≤ P + 9270) := hor
          clear hBo hBp hs hor
          by_cases hlt : (j : Int) < (M.length : Int) ∧ (j : Int) < 60
          · obtain ⟨g1, g2⟩ := hlt
            have g3 : (0 : Int) ≤ (j : Int) := Int.natCast_nonneg _
            obtain ⟨⟨za, zb⟩, hx⟩ : ∃ x, M[j]? = some x := ⟨_, List.getElem?_eq_getElem (by omega)⟩
            have hps := HB.out.2.2.2.2.below H7.out.low
            obtain ⟨lb, lo, hla, hc1, hc2⟩ := hps.get hx
            have hwz := hps.wf _ (List.mem_of_getElem? hx)
            dsimp only at hc1 hc2
            have bz1 := bounds_i8 hwz.1
            have bz2 := bounds_i8 hwz.2
            dsimp only at bz1 bz2
            subst hla
            have HJ : Hid (j < M.length ∧ j < 60) := ⟨by omega, by omega⟩
            have e9 : IntKind.i64.wrap ((j : Int) + 1) = ((j + 1 : Nat) : Int) := by rw [wrap_in (by omega) (by omega)]; omega
            have ez1 : IntKind.i64.wrap za = za := wrap_in (by omega) (by omega)
            have ez2 : IntKind.i64.wrap zb = zb := wrap_in (by omega) (by omega)
            obtain ⟨s1, s2⟩ := stp_parts o za (by have := HOR2.out; omega)
            obtain ⟨s3, s4⟩ := stp_parts p zb (by have := HOR2.out; have := HPR.out; omega)
            have hx1 := max3i za (-3)
            have hx2 := max3i zb (-3)
            have hn1 := min3i (max za (-3)) 3
            have hn2 := min3i (max zb (-3)) 3
            generalize min (max za (-3)) 3 = m1 at *
            generalize min (max zb (-3)) 3 = m2 at *
            generalize max za (-3) = x1 at *
            generalize max zb (-3) = x2 at *
            have HE : Hid (Bs (j + 1 : Nat) (o + stpN za - ob) ∧ Bs (j + 1 : Nat) (p + stpN zb - pb)) := by
              have h1 := HBO.out.1.step (z := za)
              have h2 := HBO.out.2.1.step (z := zb)
              have z1 : o - ob + stpN za = o + stpN za - ob := by omega
              have z2 : p - pb + stpN zb = p + stpN zb - pb := by omega
              have z3 : ((j + 1 : Nat) : Int) = (j : Int) + 1 := by omega
              rw [z1] at h1
              rw [z2] at h2
              rw [z3]
              exact ⟨h1, h2⟩
            generalize o + stpN za = o2 at *
            generalize p + stpN zb = p2 at *
            obtain ⟨o1, ho1⟩ : ∃ x, x = o + 100 := ⟨_, rfl⟩
            obtain ⟨pp1, hp1⟩ : ∃ x, x = p + 100 := ⟨_, rfl⟩
            have t1 : IntKind.i64.wrap (o + 100) = o1 := by rw [ho1]; exact s1
            have t3 : IntKind.i64.wrap (p + 100) = pp1 := by rw [hp1]; exact s3
            rw [← ho1] at s2
            rw [← hp1] at s4
            clear hx hps hwz bz1 bz2 hjl hj3 s1 s3 ho1 hp1
            go_wp2
            go_roundw
            case rel => exact ⟨j + 1, o2, p2, HJ.out.1, HJ.out.2, rfl, rfl, rfl, HE.out.1, HE.out.2, H7.out⟩
            case measure => have := HJ.out; simp [intOf]; omega
          · have hlat := HN2.out.later (n := j) (a := o - ob) (b := p - pb) (by omega) (by omega) HBO.out.1 HBO.out.2.1
            have z1 : ob + (o - ob) = o := by omega
            obtain ⟨E, hE⟩ : ∃ E, E = p - o := ⟨_, rfl⟩
            have z2 : D + (p - pb - (o - ob)) = E := by have := HDR.out; omega
            rw [z1, z2] at hlat
            have e5 : IntKind.i64.wrap (p - o) = E := by have := HOR2.out; have := HPR.out; rw [hE]; exact wrap_in (by omega) (by omega)
            have KA := H7.out.at 1 o
            have KM : Hid (∀ W, Solo W1 W g v2 2 → Calls Try.prog 16 #[.pointer (some ⟨g, 0, none⟩), .int .i64 1, .int .i64 o] W fun e w' => e = .returned (.tuple #[.int .i64 (mosV (atA v2 1 o) o), .int .i64 (atA v2 1 o).e]) ∧ Below W.heap.size W w') := fun W hW => hW.mostB 1 o
            have HMV : Hid (mosV (atA v2 1 o) o = if (atA v2 1 o).e = 0 then max (o + (atA v2 1 o).b) 0 else 0) := rfl
            have hrt : (atA v2 1 o).e = 0 → rightB (atA v2 1 o).a (atA v2 1 o).b = true := fun h => at_right h
            have KH : Hid (∀ W, Calls Try.prog 25 #[.agg #[.int .i64 (atA v2 1 o).a, .int .i64 (atA v2 1 o).b], .int .i64 E] W fun e w' => e = .returned (.bool (holdsB (atA v2 1 o).a (atA v2 1 o).b E)) ∧ Below W.heap.size W w') := fun W => holds_ok W _ _ _
            generalize mosV (atA v2 1 o) o = mv at *
            generalize atA v2 1 o = X at *
            obtain ⟨x, y, z⟩ := X
            dsimp only at hlat KA KM HMV hrt KH
            have HLT : Hid ((z = 0 → x ≤ E ∧ E ≤ y) ∧ (z = 0 ∨ z = 6) ∧ ((j : Int) ≤ 20 → z = 0)) := hlat
            have HRT : Hid (z = 0 → rightB x y = true) := hrt
            have HED : Hid (E = p - o) := hE
            have HEX : Hid (¬ ((j : Int) < (M.length : Int) ∧ (j : Int) < 60)) := hlt
            have HJL : Hid (j ≤ M.length) := hjl
            clear hlat hrt hE z1 z2 H7 hlt hjl HN2
            by_cases hjm : (j : Int) < (M.length : Int)
            · have hj6 : ¬ (j : Int) < 60 := fun h => HEX.out ⟨hjm, h⟩
              clear hj3
              go_wp2_with fail
              refine KA.mono ?_
              rintro e w7 ⟨rfl, hS7⟩
              clear KA
              go_upto_region 19 with fail
              have H8 : Hid (Solo W1 (w7.alloc (.cells #[.int .i64 x, .int .i64 y] 39)) g v2 2) := hS7.below (Go.Joins.below_alloc1 _ _)
              have HP8 : Hid (Pair (w7.alloc (.cells #[.int .i64 x, .int .i64 y] 39)) w7.heap.size x y) := Pair.new w7 x y
              generalize w7.alloc (.cells #[.int .i64 x, .int .i64 y] 39) = w8 at *
              generalize w7.heap.size = pq at *
              clear hS7 w7
              by_cases hz : z = 0
              · subst hz
                have hmv : mv = max (o + y) 0 := by rw [HMV.out]; simp
                have hlx := HLT.out.1 rfl
                have hhB : holdsB x y E = true := by
                  rw [holdsB_eq (HRT.out rfl)]; exact decide_eq_true hlx
                have hge : p ≤ mv := by
                  have := HED.out
                  rw [hmv]; omega
                rw [hhB] at KH
                have km := KM.out w8 H8.out
                clear hmv hlx hhB HMV HLT HRT KM HED
                go_wp2_with fail
                refine km.mono ?_
                rintro e w9 ⟨rfl, hb9⟩
                have H9 : Hid (Solo W1 w9 g v2 2) := H8.out.below hb9
                have hP9 := HP8.out.below hb9
                obtain ⟨y0, y1, y2, y3⟩ := hP9.facts
                clear km hb9 H8 HP8 hP9
                go_wp2_with fail
                refine (KH.out _).mono ?_
                rintro e wa ⟨rfl, hba⟩
                have Ha : Hid (Below w.heap.size w wa) := HB.out.1.trans ((H9.out.below hba).low.mono HB.out.1.size)
                have ka := KAW.out wa Ha.out
                clear KH hba y0 y1 y2 y3 H9
                go_wp2_with fail
                refine ka.mono ?_
                rintro e wb ⟨rfl, hbb⟩
                have Hb : Hid (Below w.heap.size w wb) := hbb
                clear ka hbb
                go_wp2
                go_ret
                exact ⟨by first | rfl | simp, Hb.out⟩
              · have hz6 : z = 6 := by
                  rcases HLT.out.2.1 with h | h
                  · exact absurd h hz
                  · exact h
                have hM : (20 : Int) < (M.length : Int) := by
                  have h1 := HJL.out
                  have h2 : ¬ (j : Int) ≤ 20 := fun h => hz (HLT.out.2.2 h)
                  omega
                subst hz6
                have ka := KAW.out w8 (HB.out.1.trans (H8.out.low.mono HB.out.1.size))
                clear HMV HLT HRT KM HED KH HP8 H8 hz
                go_wp2_with fail
                refine ka.mono ?_
                rintro e wb ⟨rfl, hbb⟩
                have Hb : Hid (Below w.heap.size w wb) := hbb
                clear ka hbb
                go_wp2
                go_ret
                exact ⟨by first | rfl | simp, Hb.out⟩
            · clear hj3
              go_wp2_with fail
              refine KA.mono ?_
              rintro e w7 ⟨rfl, hS7⟩
              clear KA
              go_upto_region 19 with fail
              have H8 : Hid (Solo W1 (w7.alloc (.cells #[.int .i64 x, .int .i64 y] 39)) g v2 2) := hS7.below (Go.Joins.below_alloc1 _ _)
              have HP8 : Hid (Pair (w7.alloc (.cells #[.int .i64 x, .int .i64 y] 39)) w7.heap.size x y) := Pair.new w7 x y
              generalize w7.alloc (.cells #[.int .i64 x, .int .i64 y] 39) = w8 at *
              generalize w7.heap.size = pq at *
              clear hS7 w7
              by_cases hz : z = 0
              · subst hz
                have hmv : mv = max (o + y) 0 := by rw [HMV.out]; simp
                have hlx := HLT.out.1 rfl
                have hhB : holdsB x y E = true := by
                  rw [holdsB_eq (HRT.out rfl)]; exact decide_eq_true hlx
                have hge : p ≤ mv := by
                  have := HED.out
                  rw [hmv]; omega
                rw [hhB] at KH
                have km := KM.out w8 H8.out
                clear hmv hlx hhB HMV HLT HRT KM HED
                go_wp2_with fail
                refine km.mono ?_
                rintro e w9 ⟨rfl, hb9⟩
                have H9 : Hid (Solo W1 w9 g v2 2) := H8.out.below hb9
                have hP9 := HP8.out.below hb9
                obtain ⟨y0, y1, y2, y3⟩ := hP9.facts
                clear km hb9 H8 HP8 hP9
                go_wp2_with fail
                refine (KH.out _).mono ?_
                rintro e wa ⟨rfl, hba⟩
                have Ha : Hid (Below w.heap.size w wa) := HB.out.1.trans ((H9.out.below hba).low.mono HB.out.1.size)
                have ka := KAW.out wa Ha.out
                clear KH hba y0 y1 y2 y3 H9
                go_wp2_with fail
                refine ka.mono ?_
                rintro e wb ⟨rfl, hbb⟩
                have Hb : Hid (Below w.heap.size w wb) := hbb
                clear ka hbb
                go_wp2
                go_ret
                exact ⟨by first | rfl | simp, Hb.out⟩
              · have hz6 : z = 6 := by
                  rcases HLT.out.2.1 with h | h
                  · exact absurd h hz
                  · exact h
                have hM : (20 : Int) < (M.length : Int) := by
                  have h1 := HJL.out
                  have h2 : ¬ (j : Int) ≤ 20 := fun h => hz (HLT.out.2.2 h)
                  omega
                subst hz6
                have ka := KAW.out w8 (HB.out.1.trans (H8.out.low.mono HB.out.1.size))
                clear HMV HLT HRT KM HED KH HP8 H8 hz
                go_wp2_with fail
                refine ka.mono ?_
                rintro e wb ⟨rfl, hbb⟩
                have Hb : Hid (Below w.heap.size w wb) := hbb
                clear ka hbb
                go_wp2
                go_ret
                exact ⟨by first | rfl | simp, Hb.out⟩
end Go.Proofs.Ytoibndfiolipbaa
