/-
  The walk of OscPays.
-/
import Derived.Test.YtddapnceehmgcaaOscD
namespace Go.Proofs.Ytddapnceehmgcaa
open Go.ChangeShapes Go.WideShapes Go.ChangeAt Go.RowKit

theorem bounds_u8 {x : Int} (h : (Lit.int .u8 x).wf = true) : 0 ≤ x ∧ x < 256 := by
  simp [Lit.wf, IntKind.min, IntKind.max, IntKind.signed, IntKind.bits] at h; omega
theorem bounds_u16 {x : Int} (h : (Lit.int .u16 x).wf = true) : 0 ≤ x ∧ x < 65536 := by
  simp [Lit.wf, IntKind.min, IntKind.max, IntKind.signed, IntKind.bits] at h; omega

/-- Behind k steps of at most 65535: the clock and what is owed, together, are the hardware and what was owed first. -/
structure Pay (d : Int) (k : Nat) (v : Ck) : Prop where
  ok : v.ok
  h : v.h ≤ 65535 * (k : Int)
  t : v.t ≤ 131070 * (k : Int)
  sum : v.t + v.o - v.h = d
  neg : d ≤ 0 → v.o ≤ 0
  pos : 0 ≤ d → 0 ≤ v.o
theorem pay_new {s d : Int} (h0 : 0 ≤ s) (h1 : s ≤ 49) (hd : owesB d = true) : Pay d 0 (adjV (newK s) d) := by
  have ho := adjV_ok (newK_ok h0 h1) d
  rw [adjV, hd, if_pos rfl] at ho ⊢
  exact ⟨ho, by simp [newK], by simp [newK], by simp [newK], fun h => h, fun h => h⟩
theorem Pay.step {d : Int} {k : Nat} {v : Ck} (h : Pay d k v) (hk : k < 300) (n : Int) (n0 : 0 ≤ n) (n1 : n < 65536) : stepE v n = 0 ∧ Pay d (k + 1) (stepV v n) := by
  have ht : timeB n = true := by simp only [timeB, Bool.and_eq_true, decide_eq_true_eq]; omega
  have m := most_in h.ok.s0 h.ok.s1 n0
  obtain ⟨p1, p2, p3, p4⟩ := pay_in (o := v.o) h.ok.s0 h.ok.s1 n0
  have a1 := h.h; have a2 := h.t; have a3 := h.sum; have a4 := h.neg; have a5 := h.pos
  have hf : fullB v n = false := by simp only [fullB, Bool.or_eq_false_iff, decide_eq_false_iff_not]; omega
  have ho := stepV_ok h.ok n
  refine ⟨by rw [stepE, ht, hf]; rfl, ?_⟩
  rw [stepV, ht, hf] at ho ⊢
  simp only [Bool.not_false, Bool.and_self, if_true] at ho ⊢
  refine ⟨ho, ?_, ?_, ?_, ?_, ?_⟩ <;> simp only <;> omega

set_option maxHeartbeats 8000000 in
set_option maxRecDepth 20000 in
theorem pays_walk (x0 x1 : Int) (a2 : Option Addr) (c2 : Nat) (nl : List Int) (w : World) (w0 : (Lit.int .u8 x0).wf = true) (_w1 : (Lit.int .i64 x1).wf = true) (s2 : Nums .u16 w a2 c2 nl) :
    Calls Try.prog 5 #[.int .u8 x0, .int .i64 x1, .slice a2 nl.length c2] w fun e w' => e = .returned (.bool true) ∧ Below w.heap.size w w' := by
  have b0 : 0 ≤ x0 ∧ x0 < 256 := bounds_u8 w0
  obtain ⟨q, hq⟩ : ∃ q : Int, q = x0 % 50 := ⟨_, rfl⟩
  have e0 : x0.tmod 50 = q := by rw [Int.tmod_eq_emod_of_nonneg (by omega)]; exact hq.symm
  have e0' : x0 % 50 = q := hq.symm
  have wq : IntKind.i64.wrap q = q := wrap_in (by omega) (by omega)
  have wq' : IntKind.u8.wrap q = q := by rw [IntKind.wrap_u8]; omega
  have q0 : 0 ≤ q := by omega
  have q1 : q ≤ 49 := by omega
  have H1 : Hid (Nums .u16 w a2 c2 nl) := s2
  have l1 := s2.len
  have kn := solo_new w w (Below.refl _ _) q q0 q1
  clear s2 w0 b0 hq
  go_enter Try.func5, Try.ntmps5
  go_wp2_with fail
  refine kn.mono ?_
  rintro e wa ⟨g, rfl, ha⟩
  clear kn
  have ka := ha.adjust x1
  clear ha
  cases hd : owesB x1
  · rw [adjE, hd, if_neg Bool.false_ne_true] at ka
    have hor : 1099511627776 < x1 ∨ x1 < -1099511627776 := by
      simp only [owesB, Bool.and_eq_false_iff, decide_eq_false_iff_not] at hd; omega
    clear hd
    go_wp2_with fail
    refine ka.mono ?_
    rintro e wb ⟨rfl, hb⟩
    clear ka
    have HB : Hid (Below w.heap.size w wb) := hb.low
    clear hb
    by_cases h1 : 1099511627776 < x1
    · clear hor
      go_wp2_with fail
      refine (awake_ok _).mono ?_
      rintro e wc ⟨rfl, hc⟩
      have HC : Hid (Below w.heap.size w wc) := HB.out.trans (hc.mono HB.out.size)
      clear hc
      go_wp2
      go_ret
      exact ⟨rfl, HC.out⟩
    · have h2 : x1 < -1099511627776 := by omega
      clear hor
      go_wp2_with fail
      refine (awake_ok _).mono ?_
      rintro e wc ⟨rfl, hc⟩
      have HC : Hid (Below w.heap.size w wc) := HB.out.trans (hc.mono HB.out.size)
      clear hc
      go_wp2
      go_ret
      exact ⟨rfl, HC.out⟩
  · rw [adjE, hd, if_pos rfl] at ka
    have HP : Hid (Pay x1 0 (adjV (newK q) x1)) := pay_new q0 q1 hd
    clear hd
    go_wp2_with fail
    refine ka.mono ?_
    rintro e wb ⟨rfl, hb⟩
    clear ka
    have HS : Hid (Solo w wb g (adjV (newK q) x1)) := hb
    clear hb
    go_wp2
    go_loopw [9] (fun u wr => ∃ (k : Nat) (v : Ck), k ≤ 300 ∧ u = .int .i64 (k : Int) ∧ Pay x1 k v ∧ Solo w wr g v) (fun u _ => 300 - (intOf u).toNat)
    case atStart => exact ⟨0, _, by omega, rfl, HP.out, HS.out⟩
    case round =>
      obtain ⟨k, v, hk, rfl, hp, hs⟩ := hrel
      clear HP HS
      have g0 : (0 : Int) ≤ (k : Int) := Int.natCast_nonneg _
      by_cases hall : k < nl.length ∧ k < 300
      · obtain ⟨k1, k2⟩ := hall
        obtain ⟨z, hz⟩ : ∃ z, nl[k]? = some z := ⟨nl[k], by simp [k1]⟩
        obtain ⟨nb, no, rfl, cz⟩ := H1.out.get hz
        have hwz := H1.out.wf z (List.mem_of_getElem? hz)
        have bz : 0 ≤ z ∧ z < 65536 := bounds_u16 hwz
        have cw : wr.cell? ⟨nb, no + k, none⟩ = some (.int .u16 z) := by rw [hs.low.cell (p := ⟨nb, no + k, none⟩) (World.block_lt_of_cell? w _ cz)]; exact cz
        have t1 : decide ((k : Int) < (nl.length : Int)) = true := by simp; omega
        have t2 : decide ((k : Int) < 300) = true := by simp; omega
        have i1 : (k : Int) < (nl.length : Int) := by omega
        have wz : IntKind.i64.wrap z = z := wrap_in (by omega) (by omega)
        obtain ⟨hE, hp2⟩ := hp.step k2 z bz.1 bz.2
        have kt := hs.step z
        rw [hE] at kt
        obtain ⟨v2, hv2⟩ : ∃ v2, v2 = stepV v z := ⟨_, rfl⟩
        rw [← hv2] at kt hp2
        have HP2 : Hid (Pay x1 (k + 1) v2) := hp2
        obtain ⟨T, hT⟩ : ∃ T, T = v2.t := ⟨_, rfl⟩
        obtain ⟨O, hO⟩ : ∃ O, O = v2.o := ⟨_, rfl⟩
        obtain ⟨A, hA⟩ : ∃ A, A = v2.h := ⟨_, rfl⟩
        have KA : Hid (∀ W, Solo w W g v2 → (Calls Try.prog 16 #[.pointer (some ⟨g, 0, none⟩)] W fun e w' => e = .returned (.int .i64 T) ∧ w' = W) ∧ (Calls Try.prog 17 #[.pointer (some ⟨g, 0, none⟩)] W fun e w' => e = .returned (.int .i64 A) ∧ w' = W) ∧ (Calls Try.prog 18 #[.pointer (some ⟨g, 0, none⟩)] W fun e w' => e = .returned (.int .i64 O) ∧ w' = W)) := fun W hW => by rw [hT, hO, hA]; exact ⟨hW.now, hW.hard, hW.owed⟩
        have y1 := hp2.sum; have y2 := hp2.neg; have y3 := hp2.pos
        have y4 := hp2.ok.t0; have y5 := hp2.ok.t1; have y6 := hp2.ok.o0; have y7 := hp2.ok.o1; have y8 := hp2.ok.h0; have y9 := hp2.ok.h1
        rw [← hT] at y1 y4 y5
        rw [← hO] at y1 y2 y3 y6 y7
        rw [← hA] at y1 y8 y9
        obtain ⟨B, hB⟩ : ∃ B, B = T + O := ⟨_, rfl⟩
        have r1 : IntKind.i64.wrap (T + O) = B := by rw [hB]; exact wrap_in (by omega) (by omega)
        have r2 : IntKind.i64.wrap (B - A) = x1 := by rw [hB, y1]; exact wrap_in (by omega) (by omega)
        have r3 : ¬ (0 < O ∧ x1 ≤ 0) := by omega
        have r4 : ¬ (O < 0 ∧ 0 ≤ x1) := by omega
        clear hz cz hwz bz hs hp hp2 hE hv2 hT hO hA hB y1 y2 y3 y4 y5 y6 y7 y8 y9 H1
        go_wp2_with fail
        refine kt.mono ?_
        rintro e wc ⟨rfl, hs2⟩
        obtain ⟨ka, kb, kc⟩ := KA.out wc hs2
        have HS2 : Hid (Solo w wc g v2) := hs2
        clear kt hs2 KA cw
        go_wp2_with fail
        refine ka.mono ?_
        rintro e wd ⟨rfl, rfl⟩
        clear ka
        go_wp2_with fail
        refine kc.mono ?_
        rintro e we ⟨rfl, rfl⟩
        go_wp2_with fail
        refine kb.mono ?_
        rintro e wf ⟨rfl, rfl⟩
        clear kb
        go_wp2_with fail
        refine kc.mono ?_
        rintro e wh ⟨rfl, rfl⟩
        by_cases o1 : 0 < O
        · have o2 : ¬ x1 ≤ 0 := by omega
          have o3 : ¬ O < 0 := by omega
          clear r3 r4
          go_wp2_with fail
          refine kc.mono ?_
          rintro e wi ⟨rfl, rfl⟩
          clear kc
          go_wp2
          go_roundw
          case rel => exact ⟨k + 1, v2, by omega, by go_num, HP2.out, HS2.out⟩
          case measure => simp [intOf]; omega
        · clear r3
          go_wp2_with fail
          refine kc.mono ?_
          rintro e wi ⟨rfl, rfl⟩
          clear kc
          by_cases o3 : O < 0
          · have o4 : ¬ 0 ≤ x1 := by omega
            clear r4
            go_wp2
            go_roundw
            case rel => exact ⟨k + 1, v2, by omega, by go_num, HP2.out, HS2.out⟩
            case measure => simp [intOf]; omega
          · clear r4
            go_wp2
            go_roundw
            case rel => exact ⟨k + 1, v2, by omega, by go_num, HP2.out, HS2.out⟩
            case measure => simp [intOf]; omega
      · have HB : Hid (Below w.heap.size w wr) := hs.low
        clear hs hp H1
        by_cases b0 : ¬ (k < nl.length)
        · have f0 : decide ((k : Int) < (nl.length : Int)) = false := by simp; omega
          clear hall
          go_wp2_with fail
          refine (awake_ok _).mono ?_
          rintro e wc ⟨rfl, hc⟩
          have HC : Hid (Below w.heap.size w wc) := HB.out.trans (hc.mono HB.out.size)
          clear hc
          go_wp2
          go_ret
          exact ⟨rfl, HC.out⟩
        · have f0 : decide ((k : Int) < (nl.length : Int)) = true := by simp; omega
          have f1 : decide ((k : Int) < 300) = false := by simp; omega
          clear hall
          go_wp2_with fail
          refine (awake_ok _).mono ?_
          rintro e wc ⟨rfl, hc⟩
          have HC : Hid (Below w.heap.size w wc) := HB.out.trans (hc.mono HB.out.size)
          clear hc
          go_wp2
          go_ret
          exact ⟨rfl, HC.out⟩
end Go.Proofs.Ytddapnceehmgcaa
