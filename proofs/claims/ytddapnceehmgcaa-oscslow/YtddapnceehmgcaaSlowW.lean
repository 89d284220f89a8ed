/-
  The walk of OscSlow.
-/
import Derived.Test.YtddapnceehmgcaaPaysW
namespace Go.Proofs.Ytddapnceehmgcaa
open Go.ChangeShapes Go.WideShapes Go.ChangeAt Go.RowKit

theorem bounds_i8 {x : Int} (h : (Lit.int .i8 x).wf = true) : -128 ≤ x ∧ x < 128 := by
  simp [Lit.wf, IntKind.min, IntKind.max, IntKind.signed, IntKind.bits] at h; omega
theorem max2i (a b : Int) (w : World) : (Builtin.max_ #[3, 3] 3 #[.int .i64 a, .int .i64 b]).run Try.prog w = .ok (.int .i64 (max a b)) w := by
  simp only [Builtin.max_, List.foldlM_cons, List.foldlM_nil, Builtin.max2, Sem.run_bind, Sem.run_pure, Result.andThen_ok]
  congr 2
  omega
theorem min2i (a b : Int) (w : World) : (Builtin.min_ #[3, 3] 3 #[.int .i64 a, .int .i64 b]).run Try.prog w = .ok (.int .i64 (min a b)) w := by
  simp only [Builtin.min_, List.foldlM_cons, List.foldlM_nil, Builtin.min2, Sem.run_bind, Sem.run_pure, Result.andThen_ok]
  congr 2
  omega

/-- Behind k beats. -/
structure Beats (s : Int) (k : Nat) (v : Ck) : Prop where
  ok : v.ok
  s : v.s = s
  h : v.h ≤ 149 * (k : Int)
  t : v.t ≤ 298 * (k : Int)
theorem beats_new {s : Int} (h0 : 0 ≤ s) (h1 : s ≤ 49) : Beats s 0 (newK s) := ⟨newK_ok h0 h1, rfl, by simp [newK], by simp [newK]⟩
theorem Beats.adjust {s : Int} {k : Nat} {v : Ck} (h : Beats s k v) (n : Int) : Beats s k (adjV v n) ∧ (adjV v n).h = v.h ∧ (adjV v n).t = v.t := by
  have ho := adjV_ok h.ok n
  have hs := h.s; have hh := h.h; have ht := h.t
  revert ho
  unfold adjV
  split
  · exact fun ho => ⟨⟨ho, hs, hh, ht⟩, rfl, rfl⟩
  · exact fun _ => ⟨h, rfl, rfl⟩
theorem Beats.step {s : Int} {k : Nat} {v : Ck} (h : Beats s k v) (hk : k < 300) (n : Int) (n0 : 51 ≤ n) (n1 : n ≤ 149) :
    stepE v n = 0 ∧ Beats s (k + 1) (stepV v n) ∧ (stepV v n).h = v.h + n ∧ -s ≤ (stepV v n).t - v.t - n ∧ (stepV v n).t - v.t - n ≤ s ∧ v.t ≤ (stepV v n).t := by
  have ht : timeB n = true := by simp only [timeB, Bool.and_eq_true, decide_eq_true_eq]; omega
  have m := most_in h.ok.s0 h.ok.s1 (by omega : 0 ≤ n)
  have e1 : mostN v.s n = s := by
    rw [mostN, show (n + 50) / 100 = 1 by omega, Int.mul_one, h.s]
  obtain ⟨p1, p2, p3, p4⟩ := pay_in (o := v.o) h.ok.s0 h.ok.s1 (by omega : 0 ≤ n)
  have a1 := h.h; have a2 := h.t; have a3 := h.s; have a4 := h.ok.s0; have a5 := h.ok.s1
  have hf : fullB v n = false := by simp only [fullB, Bool.or_eq_false_iff, decide_eq_false_iff_not]; omega
  have ho := stepV_ok h.ok n
  refine ⟨by rw [stepE, ht, hf]; rfl, ?_⟩
  rw [stepV, ht, hf] at ho ⊢
  simp only [Bool.not_false, Bool.and_self, if_true] at ho ⊢
  refine ⟨⟨ho, ?_, ?_, ?_⟩, ?_, ?_, ?_, ?_⟩ <;> (try simp only) <;> omega

set_option maxHeartbeats 8000000 in
set_option maxRecDepth 20000 in
theorem slow_walk (x0 : Int) (a1 : Option Addr) (c1 : Nat) (ol : List Int) (a2 : Option Addr) (c2 : Nat) (dl : List Int) (w : World) (w0 : (Lit.int .u8 x0).wf = true) (s1 : Nums .i64 w a1 c1 ol) (s2 : Nums .i8 w a2 c2 dl) :
    Calls Try.prog 4 #[.int .u8 x0, .slice a1 ol.length c1, .slice a2 dl.length c2] w fun e w' => e = .returned (.bool true) ∧ Below w.heap.size w w' := by
  have b0 : 0 ≤ x0 ∧ x0 < 256 := bounds_u8 w0
  obtain ⟨q, hq⟩ : ∃ q : Int, q = x0 % 50 := ⟨_, rfl⟩
  have e0 : x0.tmod 50 = q := by rw [Int.tmod_eq_emod_of_nonneg (by omega)]; exact hq.symm
  have e0' : x0 % 50 = q := hq.symm
  have wq : IntKind.i64.wrap q = q := wrap_in (by omega) (by omega)
  have wq' : IntKind.u8.wrap q = q := by rw [IntKind.wrap_u8]; omega
  have q0 : 0 ≤ q := by omega
  have q1 : q ≤ 49 := by omega
  have wn : IntKind.i64.wrap (-q) = -q := wrap_in (by omega) (by omega)
  have H1 : Hid (Nums .i64 w a1 c1 ol) := s1
  have H2 : Hid (Nums .i8 w a2 c2 dl) := s2
  have l1 := s1.len
  have l2 := s2.len
  have kn := solo_new w w (Below.refl _ _) q q0 q1
  have HP : Hid (Beats q 0 (newK q)) := beats_new q0 q1
  clear s1 s2 w0 b0 hq
  go_enter Try.func4, Try.ntmps4
  go_wp2_with fail
  refine kn.mono ?_
  rintro e wa ⟨g, rfl, ha⟩
  clear kn
  have HS : Hid (Solo w wa g (newK q)) := ha
  clear ha
  go_wp2
  go_loopw [10] (fun u wr => ∃ (k : Nat) (v : Ck), k ≤ 300 ∧ u = .int .i64 (k : Int) ∧ Beats q k v ∧ Solo w wr g v) (fun u _ => 300 - (intOf u).toNat)
  case atStart => exact ⟨0, _, by omega, rfl, HP.out, HS.out⟩
  case round =>
    obtain ⟨k, v, hk, rfl, hp, hs⟩ := hrel
    clear HP HS
    have g0 : (0 : Int) ≤ (k : Int) := Int.natCast_nonneg _
    by_cases hall : k < ol.length ∧ k < dl.length ∧ k < 300
    · obtain ⟨k1, k2, k3⟩ := hall
      obtain ⟨z, hz⟩ : ∃ z, ol[k]? = some z := ⟨ol[k], by simp [k1]⟩
      obtain ⟨nb, no, rfl, cz⟩ := H1.out.get hz
      obtain ⟨y, hy⟩ : ∃ y, dl[k]? = some y := ⟨dl[k], by simp [k2]⟩
      obtain ⟨db, dof, rfl, cy⟩ := H2.out.get hy
      have by1 := bounds_i8 (H2.out.wf y (List.mem_of_getElem? hy))
      have cw : wr.cell? ⟨nb, no + k, none⟩ = some (.int .i64 z) := by rw [hs.low.cell (p := ⟨nb, no + k, none⟩) (World.block_lt_of_cell? w _ cz)]; exact cz
      have HCY : Hid (∀ W, Below w.heap.size w W → W.cell? ⟨db, dof + k, none⟩ = some (.int .i8 y)) := fun W hW => by rw [hW.cell (p := ⟨db, dof + k, none⟩) (World.block_lt_of_cell? w _ cy)]; exact cy
      have t1 : decide ((k : Int) < (ol.length : Int)) = true := by simp; omega
      have t2 : decide ((k : Int) < (dl.length : Int)) = true := by simp; omega
      have t3 : decide ((k : Int) < 300) = true := by simp; omega
      have i1 : (k : Int) < (ol.length : Int) := by omega
      have i2 : (k : Int) < (dl.length : Int) := by omega
      have wy : IntKind.i64.wrap y = y := wrap_in (by omega) (by omega)
      obtain ⟨y1, hy1⟩ : ∃ y1, y1 = max y (-49) := ⟨_, rfl⟩
      obtain ⟨d, hd⟩ : ∃ d, d = min y1 49 := ⟨_, rfl⟩
      obtain ⟨hp1, hh1, ht1⟩ := hp.adjust z
      have ka := hs.adjust z
      obtain ⟨v1, hv1⟩ : ∃ v1, v1 = adjV v z := ⟨_, rfl⟩
      obtain ⟨E, hE⟩ : ∃ E, E = adjE z := ⟨_, rfl⟩
      rw [← hv1] at ka hp1
      rw [← hE] at ka
      obtain ⟨n, hn⟩ : ∃ n, n = 100 + d := ⟨_, rfl⟩
      have wn2 : IntKind.i64.wrap (100 + d) = n := by rw [hn]; exact wrap_in (by omega) (by omega)
      obtain ⟨f1, hp2, f2, f3, f4, f5⟩ := hp1.step k3 n (by omega) (by omega)
      obtain ⟨v2, hv2⟩ : ∃ v2, v2 = stepV v1 n := ⟨_, rfl⟩
      rw [← hv2] at hp2 f2 f3 f4 f5
      obtain ⟨T1, hT1⟩ : ∃ T1, T1 = v1.t := ⟨_, rfl⟩
      obtain ⟨A1, hA1⟩ : ∃ A1, A1 = v1.h := ⟨_, rfl⟩
      obtain ⟨T2, hT2⟩ : ∃ T2, T2 = v2.t := ⟨_, rfl⟩
      obtain ⟨A2, hA2⟩ : ∃ A2, A2 = v2.h := ⟨_, rfl⟩
      have KA : Hid (∀ W, Solo w W g v1 → (Calls Try.prog 16 #[.pointer (some ⟨g, 0, none⟩)] W fun e w' => e = .returned (.int .i64 T1) ∧ w' = W) ∧ (Calls Try.prog 17 #[.pointer (some ⟨g, 0, none⟩)] W fun e w' => e = .returned (.int .i64 A1) ∧ w' = W) ∧
        (Calls Try.prog 10 #[.pointer (some ⟨g, 0, none⟩), .int .i64 n] W fun e w' => e = .returned (.int .i64 0) ∧ Solo w w' g v2)) := fun W hW => by
          refine ⟨by rw [hT1]; exact hW.now, by rw [hA1]; exact hW.hard, ?_⟩
          have := hW.step n
          rw [f1, ← hv2] at this; exact this
      have KB : Hid (∀ W, Solo w W g v2 → (Calls Try.prog 16 #[.pointer (some ⟨g, 0, none⟩)] W fun e w' => e = .returned (.int .i64 T2) ∧ w' = W) ∧ (Calls Try.prog 17 #[.pointer (some ⟨g, 0, none⟩)] W fun e w' => e = .returned (.int .i64 A2) ∧ w' = W)) := fun W hW => by rw [hT2, hA2]; exact ⟨hW.now, hW.hard⟩
      have HP2 : Hid (Beats q (k + 1) v2) := hp2
      have z1 := hp1.ok.h0; have z2 := hp1.ok.h1; have z3 := hp1.ok.t0; have z4 := hp1.ok.t1; have z5 := hp2.ok.t0; have z6 := hp2.ok.t1
      rw [← hA1] at z1 z2 f2
      rw [← hT1] at z3 z4 f3 f4 f5
      rw [← hT2] at z5 z6 f3 f4 f5
      rw [← hA2] at f2
      obtain ⟨u1, hu1⟩ : ∃ u, u = A1 + 100 := ⟨_, rfl⟩
      have r1 : IntKind.i64.wrap (A1 + 100) = u1 := by rw [hu1]; exact wrap_in (by omega) (by omega)
      have r2 : IntKind.i64.wrap (u1 + d) = A2 := by rw [wrap_in (by omega) (by omega)]; omega
      obtain ⟨u2, hu2⟩ : ∃ u, u = T2 - T1 := ⟨_, rfl⟩
      obtain ⟨u3, hu3⟩ : ∃ u, u = u2 - 100 := ⟨_, rfl⟩
      obtain ⟨u4, hu4⟩ : ∃ u, u = u3 - d := ⟨_, rfl⟩
      have r3 : IntKind.i64.wrap (T2 - T1) = u2 := by rw [hu2]; exact wrap_in (by omega) (by omega)
      have r4 : IntKind.i64.wrap (u2 - 100) = u3 := by rw [hu3]; exact wrap_in (by omega) (by omega)
      have r5 : IntKind.i64.wrap (u3 - d) = u4 := by rw [hu4]; exact wrap_in (by omega) (by omega)
      have r6 : ¬ q < u4 := by omega
      have r7 : ¬ u4 < -q := by omega
      have r8 : ¬ T2 < T1 := by omega
      have M1 : Hid (∀ W, (Builtin.max_ #[3, 3] 3 #[.int .i64 y, .int .i64 (-49)]).run Try.prog W = .ok (.int .i64 y1) W) := fun W => by rw [hy1]; exact max2i y (-49) W
      have M2 : Hid (∀ W, (Builtin.min_ #[3, 3] 3 #[.int .i64 y1, .int .i64 49]).run Try.prog W = .ok (.int .i64 d) W) := fun W => by rw [hd]; exact min2i y1 49 W
      clear hz cz hy cy by1 hs hp hp1 hp2 hh1 ht1 hv1 hE hn f1 f2 f3 f4 f5 hv2 hT1 hA1 hT2 hA2 z1 z2 z3 z4 z5 z6 hu1 hu2 hu3 hu4 hy1 hd H1 H2
      go_wp2_with fail
      refine ka.mono ?_
      rintro e wb ⟨rfl, hs1⟩
      clear ka cw
      have cy := HCY.out wb hs1.low
      have m1 := M1.out wb
      have m2 := M2.out wb
      obtain ⟨ka, kb, kc⟩ := KA.out wb hs1
      clear hs1 HCY M1 M2 KA
      go_wp2_with fail
      refine ka.mono ?_
      rintro e wb ⟨rfl, rfl⟩
      clear ka m1 m2 cy
      go_wp2_with fail
      refine kb.mono ?_
      rintro e wb ⟨rfl, rfl⟩
      clear kb
      go_wp2_with fail
      refine kc.mono ?_
      rintro e wc ⟨rfl, hs2⟩
      clear kc
      obtain ⟨ka, kb⟩ := KB.out wc hs2
      have HS2 : Hid (Solo w wc g v2) := hs2
      clear hs2 KB
      go_wp2_with fail
      refine kb.mono ?_
      rintro e wd ⟨rfl, rfl⟩
      clear kb
      go_wp2_with fail
      refine ka.mono ?_
      rintro e we ⟨rfl, rfl⟩
      go_wp2_with fail
      refine ka.mono ?_
      rintro e wf ⟨rfl, rfl⟩
      clear ka
      go_wp2
      go_roundw
      case rel => exact ⟨k + 1, v2, by omega, by go_num, HP2.out, HS2.out⟩
      case measure => simp [intOf]; omega
    · have HB : Hid (Below w.heap.size w wr) := hs.low
      clear hs hp H1 H2
      by_cases b0 : ¬ (k < ol.length)
      · have f0 : decide ((k : Int) < (ol.length : Int)) = false := by simp; omega
        clear hall
        go_wp2_with fail
        refine (awake_ok _).mono ?_
        rintro e wc ⟨rfl, hc⟩
        have HC : Hid (Below w.heap.size w wc) := HB.out.trans (hc.mono HB.out.size)
        clear hc
        go_wp2
        go_ret
        exact ⟨rfl, HC.out⟩
      · have f0 : decide ((k : Int) < (ol.length : Int)) = true := by simp; omega
        by_cases b1 : ¬ (k < dl.length)
        · have f1 : decide ((k : Int) < (dl.length : Int)) = false := by simp; omega
          clear hall
          go_wp2_with fail
          refine (awake_ok _).mono ?_
          rintro e wc ⟨rfl, hc⟩
          have HC : Hid (Below w.heap.size w wc) := HB.out.trans (hc.mono HB.out.size)
          clear hc
          go_wp2
          go_ret
          exact ⟨rfl, HC.out⟩
        · have f1 : decide ((k : Int) < (dl.length : Int)) = true := by simp; omega
          have f2 : decide ((k : Int) < 300) = false := by simp; omega
          clear hall
          go_wp2_with fail
          refine (awake_ok _).mono ?_
          rintro e wc ⟨rfl, hc⟩
          have HC : Hid (Below w.heap.size w wc) := HB.out.trans (hc.mono HB.out.size)
          clear hc
          go_wp2
          go_ret
          exact ⟨rfl, HC.out⟩
end Go.Proofs.Ytddapnceehmgcaa
