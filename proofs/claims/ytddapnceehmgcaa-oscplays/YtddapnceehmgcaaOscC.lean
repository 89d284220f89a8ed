/-
  A clock is stepped: the program's Step.
-/
import Derived.Test.YtddapnceehmgcaaOscB
namespace Go.Proofs.Ytddapnceehmgcaa
open Go.ChangeShapes Go.WideShapes Go.ChangeAt Go.RowKit

theorem below_undrew {B : Nat} {w w' : World} (h : Below B w.drew w') : Below B w w' := ⟨h.os, h.tape, h.output, h.size, h.block⟩
set_option maxHeartbeats 3200000 in
set_option maxRecDepth 20000 in
theorem step_ok (w : World) (g : Nat) (v : Ck) (h : OC w g v) (hv : v.ok) (n : Int) : Calls Try.prog 10 #[.pointer (some ⟨g, 0, none⟩), .int .i64 n] w fun e w' => e = .returned (.int .i64 (stepE v n)) ∧ OC w' g (stepV v n) ∧ Apart (fun k => k = g) w w' := by
  have hs := stands_ok w g v h
  have ht := istime_ok w n
  have H : Hid (OC w g v) := h
  cases hc : timeB n
  · rw [stepE, stepV, hc, if_neg Bool.false_ne_true, Bool.false_and, if_neg Bool.false_ne_true]
    rw [hc] at ht
    clear h hc
    go_enter Try.func10, Try.ntmps10
    go_wp2_with fail
    refine hs.mono ?_
    rintro e w ⟨rfl, rfl⟩
    go_wp2_with fail
    refine ht.mono ?_
    rintro e w ⟨rfl, rfl⟩
    go_wp2
    go_ret
    exact ⟨rfl, H.out, Apart.refl _ _⟩
  · rw [stepE, stepV, hc, if_pos rfl, Bool.true_and]
    rw [hc] at ht
    obtain ⟨n0, n1⟩ : 0 ≤ n ∧ n ≤ 1099511627776 := by simpa only [timeB, Bool.and_eq_true, decide_eq_true_eq] using hc
    have c4 : w.drew.cell? ⟨g, 4, none⟩ = some (.int .i64 v.o) := h.c4
    obtain ⟨x0, x1⟩ := most_in hv.s0 hv.s1 n0
    obtain ⟨y0, y1, y2, y3⟩ := pay_in (o := v.o) hv.s0 hv.s1 n0
    obtain ⟨p, hp⟩ : ∃ p, p = payN v.s n v.o := ⟨_, rfl⟩
    rw [← hp] at y0 y1 y2 y3
    have HP : Hid (Calls Try.prog 21 #[.pointer (some ⟨g, 0, none⟩), .int .i64 n] w.drew fun e w' => ∃ m b, e = .returned (.func (.func 22) #[] #[.pointer (some ⟨m, 0, none⟩), .pointer (some ⟨b, 0, none⟩)]) ∧
      w'.cell? ⟨m, 0, none⟩ = some (.int .i64 (mostN v.s n)) ∧ w'.cell? ⟨b, 0, none⟩ = some (.int .i64 n) ∧ Below w.heap.size w w') := (paying_ok w.drew g v h.drew hv n n0 n1).mono fun e w' ⟨m, b, h1, h2, h3, h4⟩ => ⟨m, b, h1, h2, h3, below_undrew h4⟩
    have HQ : Hid (∀ (W : World) (m b : Nat), W.cell? ⟨m, 0, none⟩ = some (.int .i64 (mostN v.s n)) → W.cell? ⟨b, 0, none⟩ = some (.int .i64 n) → Calls Try.prog 22 #[.int .i64 v.o, .pointer (some ⟨m, 0, none⟩), .pointer (some ⟨b, 0, none⟩)] W fun e w' => e = .returned (.int .i64 p) ∧ w' = W) := fun W m b h1 h2 => by
      have := pays_ok W m b v.o (mostN v.s n) n h1 h2 x0 x1 n1
      rw [show max (-(mostN v.s n)) (min v.o (mostN v.s n)) = p by rw [hp]; unfold payN; rw [show min (mostN v.s n) n = mostN v.s n by omega]] at this
      exact this
    have HF : Hid (∀ W, Below w.heap.size w W → W.cell? ⟨g, 4, none⟩ = some (.int .i64 v.o)) := fun W hW => (h.below hW).c4
    obtain ⟨a, ha⟩ : ∃ a, a = v.h + n := ⟨_, rfl⟩
    obtain ⟨b0, hb0⟩ : ∃ b0, b0 = v.t + n := ⟨_, rfl⟩
    obtain ⟨b1, hb1'⟩ : ∃ b1, b1 = b0 + p := ⟨_, rfl⟩
    obtain ⟨q, hq⟩ : ∃ q, q = v.o - p := ⟨_, rfl⟩
    obtain ⟨_, _, z0, z1, z2, z3, z4, z5⟩ := hv
    have e1 : IntKind.i64.wrap (v.h + n) = a := by rw [ha]; exact wrap_in (by omega) (by omega)
    have e2 : IntKind.i64.wrap (v.t + n) = b0 := by rw [hb0]; exact wrap_in (by omega) (by omega)
    have e3 : IntKind.i64.wrap (b0 + p) = b1 := by rw [hb1', hb0]; exact wrap_in (by omega) (by omega)
    have e4 : IntKind.i64.wrap (v.o - p) = q := by rw [hq]; exact wrap_in (by omega) (by omega)
    rw [show fullB v n = (decide (1099511627776 < a) || decide (1099511627776 < b1)) by rw [fullB, ha, hb1', hb0, hp]]
    rw [show (⟨v.s, v.h + n, v.t + n + payN v.s n v.o, v.o - payN v.s n v.o⟩ : Ck) = ⟨v.s, a, b1, q⟩ by rw [hq, ha, hb1', hb0, hp]]
    have HC : Hid (∀ W, Below w.heap.size w W → W.cell? ⟨g, 2, none⟩ = some (.int .i64 v.h) ∧ W.cell? ⟨g, 3, none⟩ = some (.int .i64 v.t) ∧ W.cell? ⟨g, 4, none⟩ = some (.int .i64 v.o) ∧ W.frozen? ⟨g, 2, none⟩ = false ∧ W.frozen? ⟨g, 3, none⟩ = false ∧ W.frozen? ⟨g, 4, none⟩ = false) := fun W hW => ⟨(h.below hW).c2, (h.below hW).c3, (h.below hW).c4, (h.below hW).fz 2, (h.below hW).fz 3, (h.below hW).fz 4⟩
    clear h hc ha hb0 hb1' hq hp z0 z1 z2 z3 z4 z5 x0 x1 y0 y1 y2 y3 n0 n1
    generalize mostN v.s n = mo at *
    generalize hvo : v.o = o at *
    generalize hvh : v.h = hh at *
    generalize hvt : v.t = tt at *
    clear hvo hvh hvt
    go_enter Try.func10, Try.ntmps10
    go_wp2_with fail
    refine hs.mono ?_
    rintro e w ⟨rfl, rfl⟩
    go_wp2_with fail
    refine ht.mono ?_
    rintro e w ⟨rfl, rfl⟩
    clear hs ht
    go_upto_region 5 with fail
    refine wp_region_noPanic ?_
    refine wp_region_held (S := fun V => V.cell? ⟨g, 4, none⟩ = some (.int .i64 o)) (by kernel_rfl) ?_
    have hS := (show (fun V => V.cell? ⟨g, 4, none⟩ = some (.int .i64 o)) w.drew from c4)
    refine any_take 0 ?vpn1 rfl (by kernel_rfl) (by kernel_rfl) (by kernel_rfl) (fun _ _ _ h => h) (by rfl) ?hpn1 hS ?_
    case hpn1 => (intro w hSw; (try dsimp only at hSw); go_split_ands; go_simp; (try with_reducible rfl))
    (try simp only [Act.put, List.setIfInBounds_toArray, List.set_cons_zero, List.set_cons_succ])
    refine any_take 1 ?vpn2 rfl (by kernel_rfl) (by kernel_rfl) (by kernel_rfl) (fun _ _ _ h => h) (by rfl) ?hpn2 hS ?_
    case hpn2 => (intro w hSw; (try dsimp only at hSw); go_split_ands; go_simp; (try with_reducible rfl))
    (try simp only [Act.put, List.setIfInBounds_toArray, List.set_cons_zero, List.set_cons_succ])
    refine any_take 3 ?vpn3 rfl (by kernel_rfl) (by kernel_rfl) (by kernel_rfl) (fun _ _ _ h => h) (by rfl) ?hpn3 hS ?_
    case hpn3 => (intro w hSw; (try dsimp only at hSw); go_split_ands; go_simp; (try with_reducible rfl))
    (try simp only [Act.put, List.setIfInBounds_toArray, List.set_cons_zero, List.set_cons_succ])
    refine any_take 4 ?vpn4 rfl (by kernel_rfl) (by kernel_rfl) (by kernel_rfl) (fun _ _ _ h => h) (by rfl) ?hpn4 hS ?_
    case hpn4 => (intro w hSw; (try dsimp only at hSw); go_split_ands; go_simp; (try with_reducible rfl))
    (try simp only [Act.put, List.setIfInBounds_toArray, List.set_cons_zero, List.set_cons_succ])
    refine any_take 5 ?vpn5 rfl (by kernel_rfl) (by kernel_rfl) (by kernel_rfl) (fun _ _ _ h => h) (by rfl) ?hpn5 hS ?_
    case hpn5 => (intro w hSw; (try dsimp only at hSw); go_split_ands; go_simp; (try with_reducible rfl))
    (try simp only [Act.put, List.setIfInBounds_toArray, List.set_cons_zero, List.set_cons_succ])
    refine any_take 6 ?vpn6 rfl (by kernel_rfl) (by kernel_rfl) (by kernel_rfl) (fun _ _ _ h => h) (by rfl) ?hpn6 hS ?_
    case hpn6 => (intro w hSw; (try dsimp only at hSw); go_split_ands; go_simp; (try with_reducible rfl))
    (try simp only [Act.put, List.setIfInBounds_toArray, List.set_cons_zero, List.set_cons_succ])
    refine any_one 2 rfl (by kernel_rfl) (by rfl) (fun K hK => ?_)
    clear hS
    go_simp
    refine HP.out.mono ?_
    rintro e w1 ⟨m, b, rfl, hm, hbx, hb1⟩
    clear HP
    refine hK.out _ _ (HF.out w1 hb1) (fun hS => ?_)
    clear hK
    (try simp only [Act.put, List.setIfInBounds_toArray, List.set_cons_zero, List.set_cons_succ])
    refine any_one 7 rfl (by kernel_rfl) (by rfl) (fun K hK => ?_)
    clear hS
    go_simp
    refine (HQ.out _ _ _ hm hbx).mono ?_
    rintro e w2 ⟨rfl, rfl⟩
    clear HQ
    refine hK.out _ _ (HF.out _ hb1) (fun hS => ?_)
    clear hK
    (try simp only [Act.put, List.setIfInBounds_toArray, List.set_cons_zero, List.set_cons_succ])
    refine any_take 8 ?vpn7 rfl (by kernel_rfl) (by kernel_rfl) (by kernel_rfl) (fun _ _ _ h => h) (by rfl) ?hpn7 hS ?_
    case hpn7 => (intro w hSw; (try dsimp only at hSw); go_split_ands; go_simp; (try with_reducible rfl))
    (try simp only [Act.put, List.setIfInBounds_toArray, List.set_cons_zero, List.set_cons_succ])
    refine wpAnyH_done (by kernel_rfl) ?_ _
    refine NoPanic.normal ?_
    have HB : Hid (Below w.heap.size w w2) := hb1
    obtain ⟨c2, c3, c4', f2, f3, f4⟩ := HC.out w2 hb1
    clear hS hb1 hm hbx HF HC c4
    go_upto_region 6 with fail
    refine wp_region_noPanic ?_
    refine wp_region_held (S := fun V => V.cell? ⟨g, 2, none⟩ = some (.int .i64 hh) ∧ V.cell? ⟨g, 3, none⟩ = some (.int .i64 tt)) (by kernel_rfl) ?_
    have hS := (show (fun V => V.cell? ⟨g, 2, none⟩ = some (.int .i64 hh) ∧ V.cell? ⟨g, 3, none⟩ = some (.int .i64 tt)) w2.drew from ⟨c2, c3⟩)
    refine any_take 0 ?vrn1 rfl (by kernel_rfl) (by kernel_rfl) (by kernel_rfl) (fun _ _ _ h => h) (by rfl) ?hrn1 hS ?_
    case hrn1 => (intro w hSw; (try dsimp only at hSw); go_split_ands; go_simp; (try with_reducible rfl))
    (try simp only [Act.put, List.setIfInBounds_toArray, List.set_cons_zero, List.set_cons_succ])
    refine any_take 1 ?vrn2 rfl (by kernel_rfl) (by kernel_rfl) (by kernel_rfl) (fun _ _ _ h => h) (by rfl) ?hrn2 hS ?_
    case hrn2 => (intro w hSw; (try dsimp only at hSw); go_split_ands; go_simp; (try with_reducible rfl))
    (try simp only [Act.put, List.setIfInBounds_toArray, List.set_cons_zero, List.set_cons_succ])
    refine any_take 2 ?vrn3 rfl (by kernel_rfl) (by kernel_rfl) (by kernel_rfl) (fun _ _ _ h => h) (by rfl) ?hrn3 hS ?_
    case hrn3 => (intro w hSw; (try dsimp only at hSw); go_split_ands; go_simp; (try with_reducible rfl))
    (try simp only [Act.put, List.setIfInBounds_toArray, List.set_cons_zero, List.set_cons_succ])
    refine any_take 3 ?vrn4 rfl (by kernel_rfl) (by kernel_rfl) (by kernel_rfl) (fun _ _ _ h => h) (by rfl) ?hrn4 hS ?_
    case hrn4 => (intro w hSw; (try dsimp only at hSw); go_split_ands; go_simp; (try with_reducible rfl))
    (try simp only [Act.put, List.setIfInBounds_toArray, List.set_cons_zero, List.set_cons_succ])
    refine any_take 4 ?vrn5 rfl (by kernel_rfl) (by kernel_rfl) (by kernel_rfl) (fun _ _ _ h => h) (by rfl) ?hrn5 hS ?_
    case hrn5 => (intro w hSw; (try dsimp only at hSw); go_split_ands; go_simp; (try with_reducible rfl))
    (try simp only [Act.put, List.setIfInBounds_toArray, List.set_cons_zero, List.set_cons_succ])
    refine any_take 5 ?vrn6 rfl (by kernel_rfl) (by kernel_rfl) (by kernel_rfl) (fun _ _ _ h => h) (by rfl) ?hrn6 hS ?_
    case hrn6 => (intro w hSw; (try dsimp only at hSw); go_split_ands; go_simp; (try with_reducible rfl))
    (try simp only [Act.put, List.setIfInBounds_toArray, List.set_cons_zero, List.set_cons_succ])
    refine any_take 6 ?vrn7 rfl (by kernel_rfl) (by kernel_rfl) (by kernel_rfl) (fun _ _ _ h => h) (by rfl) ?hrn7 hS ?_
    case hrn7 => (intro w hSw; (try dsimp only at hSw); go_split_ands; go_simp; (try with_reducible rfl))
    (try simp only [Act.put, List.setIfInBounds_toArray, List.set_cons_zero, List.set_cons_succ])
    refine any_take 7 ?vrn8 rfl (by kernel_rfl) (by kernel_rfl) (by kernel_rfl) (fun _ _ _ h => h) (by rfl) ?hrn8 hS ?_
    case hrn8 => (intro w hSw; (try dsimp only at hSw); go_split_ands; go_simp; (try with_reducible rfl))
    (try simp only [Act.put, List.setIfInBounds_toArray, List.set_cons_zero, List.set_cons_succ])
    refine any_take 8 ?vrn9 rfl (by kernel_rfl) (by kernel_rfl) (by kernel_rfl) (fun _ _ _ h => h) (by rfl) ?hrn9 hS ?_
    case hrn9 => (intro w hSw; (try dsimp only at hSw); go_split_ands; go_simp; (try with_reducible rfl))
    (try simp only [Act.put, List.setIfInBounds_toArray, List.set_cons_zero, List.set_cons_succ])
    refine any_take 9 ?vrn10 rfl (by kernel_rfl) (by kernel_rfl) (by kernel_rfl) (fun _ _ _ h => h) (by rfl) ?hrn10 hS ?_
    case hrn10 => (intro w hSw; (try dsimp only at hSw); go_split_ands; go_simp; (try with_reducible rfl))
    (try simp only [Act.put, List.setIfInBounds_toArray, List.set_cons_zero, List.set_cons_succ])
    refine any_take 10 ?vrn11 rfl (by kernel_rfl) (by kernel_rfl) (by kernel_rfl) (fun _ _ _ h => h) (by rfl) ?hrn11 hS ?_
    case hrn11 => (intro w hSw; (try dsimp only at hSw); go_split_ands; go_simp; (try with_reducible rfl))
    (try simp only [Act.put, List.setIfInBounds_toArray, List.set_cons_zero, List.set_cons_succ])
    refine any_take 11 ?vrn12 rfl (by kernel_rfl) (by kernel_rfl) (by kernel_rfl) (fun _ _ _ h => h) (by rfl) ?hrn12 hS ?_
    case hrn12 => (intro w hSw; (try dsimp only at hSw); go_split_ands; go_simp; (try with_reducible rfl))
    (try simp only [Act.put, List.setIfInBounds_toArray, List.set_cons_zero, List.set_cons_succ])
    refine any_take 12 ?vrn13 rfl (by kernel_rfl) (by kernel_rfl) (by kernel_rfl) (fun _ _ _ h => h) (by rfl) ?hrn13 hS ?_
    case hrn13 => (intro w hSw; (try dsimp only at hSw); go_split_ands; go_simp; (try with_reducible rfl))
    (try simp only [Act.put, List.setIfInBounds_toArray, List.set_cons_zero, List.set_cons_succ])
    refine any_take 13 ?vrn14 rfl (by kernel_rfl) (by kernel_rfl) (by kernel_rfl) (fun _ _ _ h => h) (by rfl) ?hrn14 hS ?_
    case hrn14 => (intro w hSw; (try dsimp only at hSw); go_split_ands; go_simp; (try with_reducible rfl))
    (try simp only [Act.put, List.setIfInBounds_toArray, List.set_cons_zero, List.set_cons_succ])
    refine any_take 14 ?vrn15 rfl (by kernel_rfl) (by kernel_rfl) (by kernel_rfl) (fun _ _ _ h => h) (by rfl) ?hrn15 hS ?_
    case hrn15 => (intro w hSw; (try dsimp only at hSw); go_split_ands; go_simp; (try with_reducible rfl))
    (try simp only [Act.put, List.setIfInBounds_toArray, List.set_cons_zero, List.set_cons_succ])
    refine any_take 15 ?vrn16 rfl (by kernel_rfl) (by kernel_rfl) (by kernel_rfl) (fun _ _ _ h => h) (by rfl) ?hrn16 hS ?_
    case hrn16 => (intro w hSw; (try dsimp only at hSw); go_split_ands; go_simp; (try with_reducible rfl))
    (try simp only [Act.put, List.setIfInBounds_toArray, List.set_cons_zero, List.set_cons_succ])
    refine wpAnyH_done (by kernel_rfl) ?_ _
    refine NoPanic.normal ?_
    clear hS
    by_cases k1 : 1099511627776 < a
    · go_wp2
      all_goals (go_ret; exact ⟨rfl, (H.out.below HB.out).drew, (Apart.of_below HB.out).drew⟩)
    · by_cases k2 : 1099511627776 < b1
      · go_wp2
        go_ret
        exact ⟨rfl, (H.out.below HB.out).drew, (Apart.of_below HB.out).drew⟩
      · go_wp2
        go_ret
        exact ⟨rfl, (((H.out.below HB.out).drew.set2 a).set3 b1).set4 q, apart_set (apart_set (apart_set (Apart.of_below HB.out).drew _ _) _ _) _ _⟩
end Go.Proofs.Ytddapnceehmgcaa
