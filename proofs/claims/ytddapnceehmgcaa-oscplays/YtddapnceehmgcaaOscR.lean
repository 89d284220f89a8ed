/-
  The document's clock: stepped, adjusted, set.
-/
import Derived.Test.YtddapnceehmgcaaOscB
namespace Go.Proofs.Ytddapnceehmgcaa
open Go.ChangeShapes Go.WideShapes Go.ChangeAt Go.RowKit

theorem radjust_ok (w : World) (g : Nat) (v : Ck) (h : RC w g v) (n : Int) : Calls Try.prog 13 #[.pointer (some ⟨g, 0, none⟩), .int .i64 n] w fun e w' => e = .returned (.int .i64 (adjE n)) ∧ RC w' g (adjV v n) ∧ Apart (fun k => k = g) w w' := by
  cases hc : owesB n
  · rw [adjE, adjV, hc, if_neg Bool.false_ne_true, if_neg Bool.false_ne_true]
    have H : Hid (RC w g v) := h
    have hn : ¬ (-1099511627776 ≤ n) ∨ ¬ (n ≤ 1099511627776) := by
      simp only [owesB, Bool.and_eq_false_iff, decide_eq_false_iff_not] at hc; exact hc
    clear h hc
    by_cases h0 : -1099511627776 ≤ n
    · have h1 : ¬ n ≤ 1099511627776 := by omega
      clear hn
      go_enter Try.func13, Try.ntmps13
      go_wp2
      go_ret
      exact ⟨rfl, H.out, Apart.refl _ _⟩
    · clear hn
      go_enter Try.func13, Try.ntmps13
      go_wp2
      go_ret
      exact ⟨rfl, H.out, Apart.refl _ _⟩
  · rw [adjE, adjV, hc, if_pos rfl, if_pos rfl]
    have H : Hid (RC w g v) := h
    obtain ⟨h0, h1⟩ : -1099511627776 ≤ n ∧ n ≤ 1099511627776 := by simpa only [owesB, Bool.and_eq_true, decide_eq_true_eq] using hc
    have f4 := h.fz 3
    have c4 := h.c3
    clear h hc
    go_enter Try.func13, Try.ntmps13
    go_wp2
    go_ret
    exact ⟨rfl, H.out.set3 n, apart_set (Apart.refl _ _) _ _⟩
theorem rset_ok (w : World) (g : Nat) (v : Ck) (h : RC w g v) (n : Int) : Calls Try.prog 15 #[.pointer (some ⟨g, 0, none⟩), .int .i64 n] w fun e w' => e = .returned (.int .i64 (setE n)) ∧ RC w' g (setV v n) ∧ Apart (fun k => k = g) w w' := by
  cases hc : timeB n
  · rw [setE, setV, hc, if_neg Bool.false_ne_true, if_neg Bool.false_ne_true]
    have H : Hid (RC w g v) := h
    have hn : ¬ (0 ≤ n) ∨ ¬ (n ≤ 1099511627776) := by
      simp only [timeB, Bool.and_eq_false_iff, decide_eq_false_iff_not] at hc; exact hc
    clear h hc
    by_cases h0 : 0 ≤ n
    · have h1 : ¬ n ≤ 1099511627776 := by omega
      clear hn
      go_enter Try.func15, Try.ntmps15
      go_wp2
      go_ret
      exact ⟨rfl, H.out, Apart.refl _ _⟩
    · clear hn
      go_enter Try.func15, Try.ntmps15
      go_wp2
      go_ret
      exact ⟨rfl, H.out, Apart.refl _ _⟩
  · rw [setE, setV, hc, if_pos rfl, if_pos rfl]
    have H : Hid (RC w g v) := h
    obtain ⟨h0, h1⟩ : 0 ≤ n ∧ n ≤ 1099511627776 := by simpa only [timeB, Bool.and_eq_true, decide_eq_true_eq] using hc
    have f3 := h.fz 2
    have c3 := h.c2
    have f4 := h.fz 3
    have c4 := h.c3
    clear h hc
    go_enter Try.func15, Try.ntmps15
    go_wp2
    go_ret
    exact ⟨rfl, (H.out.set2 n).set3 0, apart_set (apart_set (Apart.refl _ _) _ _) _ _⟩
theorem max3 (a b c : Int) (w : World) : (Builtin.max_ #[2, 2, 2] 2 #[.int .i64 a, .int .i64 b, .int .i64 c]).run Try.prog w = .ok (.int .i64 (max (max a b) c)) w := by
  simp only [Builtin.max_, List.foldlM_cons, List.foldlM_nil, Builtin.max2, Sem.run_bind, Sem.run_pure, Result.andThen_ok]
  congr 2
  omega
theorem min2 (a b : Int) (w : World) : (Builtin.min_ #[2, 2] 2 #[.int .i64 a, .int .i64 b]).run Try.prog w = .ok (.int .i64 (min a b)) w := by
  simp only [Builtin.min_, List.foldlM_cons, List.foldlM_nil, Builtin.min2, Sem.run_bind, Sem.run_pure, Result.andThen_ok]
  congr 2
  omega
set_option maxHeartbeats 3200000 in
set_option maxRecDepth 20000 in
theorem rstep_ok (w : World) (g : Nat) (v : Ck) (h : RC w g v) (hv : v.ok) (n : Int) : Calls Try.prog 11 #[.pointer (some ⟨g, 0, none⟩), .int .i64 n] w fun e w' => e = .returned (.int .i64 (stepE v n)) ∧ RC w' g (stepV v n) ∧ Apart (fun k => k = g) w w' := by
  have H : Hid (RC w g v) := h
  cases hc : timeB n
  · rw [stepE, stepV, hc, if_neg Bool.false_ne_true, Bool.false_and, if_neg Bool.false_ne_true]
    have hn : ¬ (0 ≤ n) ∨ ¬ (n ≤ 1099511627776) := by
      simp only [timeB, Bool.and_eq_false_iff, decide_eq_false_iff_not] at hc; exact hc
    clear h hc
    by_cases h0 : 0 ≤ n
    · have h1 : ¬ n ≤ 1099511627776 := by omega
      clear hn
      go_enter Try.func11, Try.ntmps11
      go_wp2
      go_ret
      exact ⟨rfl, H.out, Apart.refl _ _⟩
    · clear hn
      go_enter Try.func11, Try.ntmps11
      go_wp2
      go_ret
      exact ⟨rfl, H.out, Apart.refl _ _⟩
  · rw [stepE, stepV, hc, if_pos rfl, Bool.true_and]
    obtain ⟨n0, n1⟩ : 0 ≤ n ∧ n ≤ 1099511627776 := by simpa only [timeB, Bool.and_eq_true, decide_eq_true_eq] using hc
    obtain ⟨x0, x1⟩ := most_in hv.s0 hv.s1 n0
    obtain ⟨y0, y1, y2, y3⟩ := pay_in (o := v.o) hv.s0 hv.s1 n0
    obtain ⟨p, hp⟩ : ∃ p, p = payN v.s n v.o := ⟨_, rfl⟩
    rw [← hp] at y0 y1 y2 y3
    have hp2 : min (max (max v.o (-(mostN v.s n))) (-n)) (mostN v.s n) = p := by rw [hp]; exact pay_ref hv.s0 hv.s1 n0
    obtain ⟨a, ha⟩ : ∃ a, a = v.h + n := ⟨_, rfl⟩
    obtain ⟨b0, hb0⟩ : ∃ b0, b0 = v.t + n := ⟨_, rfl⟩
    obtain ⟨b1, hb1'⟩ : ∃ b1, b1 = b0 + p := ⟨_, rfl⟩
    obtain ⟨q, hq⟩ : ∃ q, q = v.o - p := ⟨_, rfl⟩
    obtain ⟨_, _, z0, z1, z2, z3, z4, z5⟩ := hv
    have e1 : IntKind.i64.wrap (v.h + n) = a := by rw [ha]; exact wrap_in (by omega) (by omega)
    have e2 : IntKind.i64.wrap (v.t + n) = b0 := by rw [hb0]; exact wrap_in (by omega) (by omega)
    have e3 : IntKind.i64.wrap (b0 + p) = b1 := by rw [hb1', hb0]; exact wrap_in (by omega) (by omega)
    have e4 : IntKind.i64.wrap (v.o - p) = q := by rw [hq]; exact wrap_in (by omega) (by omega)
    have e5 : IntKind.i64.wrap (n + 50) = n + 50 := wrap_in (by omega) (by omega)
    obtain ⟨r, hr⟩ : ∃ r, r = (n + 50) / 100 := ⟨_, rfl⟩
    have e6 : (n + 50).tdiv 100 = r := by rw [Int.tdiv_eq_ediv_of_nonneg (by omega)]; omega
    have e6' : (n + 50) / 100 = r := hr.symm
    have e7 : IntKind.i64.wrap r = r := wrap_in (by omega) (by omega)
    obtain ⟨x, hx⟩ : ∃ x, x = mostN v.s n := ⟨_, rfl⟩
    have e8 : v.s * r = x := by rw [hx, hr]; rfl
    rw [← hx] at hp2 x0 x1 y0 y1
    have e9 : IntKind.i64.wrap x = x := wrap_in (by omega) (by omega)
    have e10 : IntKind.i64.wrap (-x) = -x := wrap_in (by omega) (by omega)
    have e11 : IntKind.i64.wrap (-n) = -n := wrap_in (by omega) (by omega)
    rw [show fullB v n = (decide (1099511627776 < a) || decide (1099511627776 < b1)) by rw [fullB, ha, hb1', hb0, hp]]
    rw [show (⟨v.s, v.h + n, v.t + n + payN v.s n v.o, v.o - payN v.s n v.o⟩ : Ck) = ⟨v.s, a, b1, q⟩ by rw [hq, ha, hb1', hb0, hp]]
    have c0 := h.c0
    have c1 := h.c1
    have c2 := h.c2
    have c3 := h.c3
    have f1 := h.fz 1
    have f2 := h.fz 2
    have f3 := h.fz 3
    have m3 := max3 v.o (-x) (-n) w
    have m2 := min2 (max (max v.o (-x)) (-n)) x w
    rw [hp2] at m2
    obtain ⟨M, hM⟩ : ∃ M, M = max (max v.o (-x)) (-n) := ⟨_, rfl⟩
    rw [← hM] at m3 m2
    have HP2 : Hid (min (max (max v.o (-x)) (-n)) x = p) := hp2
    have HX : Hid (0 ≤ x ∧ x ≤ n) := ⟨x0, x1⟩
    clear h hc ha hb0 hb1' hq hp z0 z1 z2 z3 z4 z5 x0 x1 y0 y1 y2 y3 hr hx hp2 hM
    generalize hvo : v.o = o at *
    generalize hvh : v.h = hh at *
    generalize hvt : v.t = tt at *
    generalize hvs : v.s = s at *
    have HVS : Hid (v.s = s) := hvs
    clear hvo hvh hvt hvs
    go_enter Try.func11, Try.ntmps11
    go_upto_region 5 with fail
    clear m3 m2
    by_cases k1 : 1099511627776 < a
    · go_wp2
      all_goals (go_ret; exact ⟨rfl, H.out, Apart.refl _ _⟩)
    · by_cases k2 : 1099511627776 < b1
      · go_wp2
        go_ret
        exact ⟨rfl, H.out, Apart.refl _ _⟩
      · go_wp2
        go_ret
        exact ⟨rfl, by rw [← HVS.out]; exact ((H.out.set1 a).set2 b1).set3 q, apart_set (apart_set (apart_set (Apart.refl _ _) _ _) _ _) _ _⟩
end Go.Proofs.Ytddapnceehmgcaa
