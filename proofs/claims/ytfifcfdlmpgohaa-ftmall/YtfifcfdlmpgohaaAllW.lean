/-
  The law: trimmed, their middle, and by how much a clock is to go on, told as the document tells it. The program's contracts are a premise here.
-/
import Derived.Test.YtfifcfdlmpgohaaFtmN
namespace Go.Proofs.Ytfifcfdlmpgohaa
open Go.ChangeShapes Go.WideShapes Go.ChangeAt Go.RowKit
set_option maxRecDepth 20000

set_option maxHeartbeats 8000000 in
theorem all_walk (H : FtmP) (a1 : Option Addr) (c1 : Nat) (l : List Int) (a2 : Option Addr) (c2 : Nat) (x : List (Int × Int)) (f most : Int) (w : World) (s1 : Nums .i64 w a1 c1 l) (s2 : Ivals w a2 c2 x) (_hf : (Lit.int .i64 f).wf = true) (hm : (Lit.int .i64 most).wf = true) :
    Calls Try.prog 3 #[.slice a1 l.length c1, .slice a2 x.length c2, .int .i64 f, .int .i64 most] w fun e w' => e = .returned (.bool true) ∧ Below w.heap.size w w' := by
  have l1 := s1.len
  have l2 := s2.len
  have HS : Hid (∀ W, Below w.heap.size w W → LsO W a1 l ∧ Ivals W a2 c2 x) := fun W hW => ⟨(Nums.lsO s1).below hW, s2.below hW⟩
  have KA : Hid (∀ W, Below w.heap.size w W → Calls Try.prog 7 #[] W fun e w' => e = .returned (.bool true) ∧ Below w.heap.size w w') := fun W hW => (awake_ok H W).mono fun _ _ ⟨h1, h2⟩ => ⟨h1, hW.trans (h2.mono hW.size)⟩
  have HC : Hid (l.length ≤ c1) := s1.fits
  clear s1 s2
  by_cases hl : l.length ≤ 200 ∧ x.length ≤ 200
  · obtain ⟨hl1, hl2⟩ := hl
    have g1 : ¬ (200 : Int) < (l.length : Int) := by omega
    have g2 : ¬ (200 : Int) < (x.length : Int) := by omega
    have K1 : Hid (∀ W, Below w.heap.size w W → Calls Try.prog 8 #[.slice a1 l.length c1, .int .i64 f] W (TrP W l f)) := fun W hW => H.trim W a1 c1 l f (by omega) HC.out (HS.out W hW).1
    have K2 : Hid (∀ W, Below w.heap.size w W → Calls Try.prog 9 #[.slice a1 l.length c1, .int .i64 f] W (TrP W l f)) := fun W hW => dtrim_ok W a1 c1 l f (by omega) (HS.out W hW).1
    have K3 : Hid (∀ W, Below w.heap.size w W → Calls Try.prog 10 #[.slice a1 l.length c1, .int .i64 f] W fun e w' => e = .returned (.tuple #[.int .i64 (miV l f), .int .i64 (trE l f)]) ∧ Below W.heap.size W w') := fun W hW => H.mid W a1 c1 l f (by omega) HC.out (HS.out W hW).1
    have K4 : Hid (∀ W, Below w.heap.size w W → Calls Try.prog 11 #[.slice a1 l.length c1, .int .i64 f] W fun e w' => e = .returned (.tuple #[.int .i64 (miV l f), .int .i64 (trE l f)]) ∧ Below W.heap.size W w') := fun W hW => dmiddle_ok W a1 c1 l f (by omega) (HS.out W hW).1
    have K5 : Hid (∀ W, Below w.heap.size w W → Calls Try.prog 12 #[.slice a2 x.length c2, .int .i64 f, .int .i64 most] W fun e w' => e = .returned (.tuple #[.int .i64 (coV x f most), .int .i64 (trE (ptV x) f)]) ∧ Below W.heap.size W w') := fun W hW => H.cor W a2 c2 x f most (by omega) (HS.out W hW).2 hm
    have K6 : Hid (∀ W, Below w.heap.size w W → Calls Try.prog 13 #[.slice a2 x.length c2, .int .i64 f, .int .i64 most] W fun e w' => e = .returned (.tuple #[.int .i64 (coV x f most), .int .i64 (trE (ptV x) f)]) ∧ Below W.heap.size W w') := fun W hW => dcorrect_ok W a2 c2 x f most (by omega) (HS.out W hW).2 hm
    have K7 : Hid (∀ W, Below w.heap.size w W → Calls Try.prog 15 #[.slice a2 x.length c2] W (PtP W x)) := fun W hW => H.pts W a2 c2 x (by omega) (HS.out W hW).2
    have K8 : Hid (∀ W, Below w.heap.size w W → Calls Try.prog 16 #[.slice a2 x.length c2] W (PtP W x)) := fun W hW => dpoints_ok W a2 c2 x (by omega) (HS.out W hW).2
    have K9 : Hid (∀ W, Calls Try.prog 17 #[.int .i64 most, .int .i64 7] W fun e w' => e = .returned (.int .i64 (clV most 7)) ∧ Below W.heap.size W w') := fun W => H.cla W most 7 hm (by decide)
    have K10 : Hid (∀ W, Calls Try.prog 18 #[.int .i64 most, .int .i64 7] W fun e w' => e = .returned (.int .i64 (clV most 7)) ∧ Below W.heap.size W w') := fun W => dclamp_ok W most 7 (by decide)
    have n1 : (trV l f).length ≤ 900 := by
      by_cases h : trE l f = 0
      · rw [trV_len h]; omega
      · rw [trV_bad h]; decide
    have n2 : (ptV x).length ≤ 900 := by have := ptV_len x; omega
    unfold TrP at K1 K2
    unfold PtP at K7 K8
    generalize trV l f = T at *
    generalize trE l f = E at *
    generalize miV l f = M at *
    generalize coV x f most = C at *
    generalize trE (ptV x) f = E2 at *
    generalize ptV x = P at *
    generalize clV most 7 = CL at *
    have HN : Hid (T.length ≤ 900 ∧ P.length ≤ 900) := ⟨n1, n2⟩
    clear hl1 hl2 n1 n2 l1 l2 hm HS
    go_enter Try.func3, Try.ntmps3
    go_wp2_with fail
    refine (K1.out w (Below.refl _ _)).mono ?_
    rintro e w1 ⟨t1, d1, rfl, hls, hb⟩
    have H1 : Hid (Below w.heap.size w w1 ∧ LsO w1 t1 T) := ⟨hb, hls⟩
    clear hls hb K1
    go_wp2_with fail
    refine (K2.out w1 H1.out.1).mono ?_
    rintro e w2 ⟨t2, d2, rfl, hls, hb⟩
    have H2 : Hid (Below w.heap.size w w2 ∧ LsO w2 t1 T ∧ LsO w2 t2 T) := ⟨H1.out.1.trans (hb.mono H1.out.1.size), H1.out.2.below hb, hls⟩
    clear hls hb K2 H1
    go_wp2_with fail
    refine (K3.out w2 H2.out.1).mono ?_
    rintro e w3 ⟨rfl, hb⟩
    have H3 : Hid (Below w.heap.size w w3 ∧ LsO w3 t1 T ∧ LsO w3 t2 T) := ⟨H2.out.1.trans (hb.mono H2.out.1.size), H2.out.2.1.below hb, H2.out.2.2.below hb⟩
    clear hb K3 H2
    go_wp2_with fail
    refine (K4.out w3 H3.out.1).mono ?_
    rintro e w4 ⟨rfl, hb⟩
    have H4 : Hid (Below w.heap.size w w4 ∧ LsO w4 t1 T ∧ LsO w4 t2 T) := ⟨H3.out.1.trans (hb.mono H3.out.1.size), H3.out.2.1.below hb, H3.out.2.2.below hb⟩
    clear hb K4 H3
    go_wp2_with fail
    refine (K5.out w4 H4.out.1).mono ?_
    rintro e w5 ⟨rfl, hb⟩
    have H5 : Hid (Below w.heap.size w w5 ∧ LsO w5 t1 T ∧ LsO w5 t2 T) := ⟨H4.out.1.trans (hb.mono H4.out.1.size), H4.out.2.1.below hb, H4.out.2.2.below hb⟩
    clear hb K5 H4
    go_wp2_with fail
    refine (K6.out w5 H5.out.1).mono ?_
    rintro e w6 ⟨rfl, hb⟩
    have H6 : Hid (Below w.heap.size w w6 ∧ LsO w6 t1 T ∧ LsO w6 t2 T) := ⟨H5.out.1.trans (hb.mono H5.out.1.size), H5.out.2.1.below hb, H5.out.2.2.below hb⟩
    clear hb K6 H5
    go_wp2_with fail
    refine (numbers_ok w6 t1 t2 d1 d2 T HN.out.1 H6.out.2.1 H6.out.2.2).mono ?_
    rintro e w7 ⟨rfl, hb⟩
    have H7 : Hid (Below w.heap.size w w7) := H6.out.1.trans (hb.mono H6.out.1.size)
    clear hb H6
    go_wp2_with fail
    refine (K7.out w7 H7.out).mono ?_
    rintro e w8 ⟨t3, d3, rfl, hls, hb⟩
    have H8 : Hid (Below w.heap.size w w8 ∧ LsO w8 t3 P) := ⟨H7.out.trans (hb.mono H7.out.size), hls⟩
    clear hls hb K7 H7
    go_wp2_with fail
    refine (K8.out w8 H8.out.1).mono ?_
    rintro e w9 ⟨t4, d4, rfl, hls, hb⟩
    have H9 : Hid (Below w.heap.size w w9 ∧ LsO w9 t3 P ∧ LsO w9 t4 P) := ⟨H8.out.1.trans (hb.mono H8.out.1.size), H8.out.2.below hb, hls⟩
    clear hls hb K8 H8
    go_wp2_with fail
    refine (numbers_ok w9 t3 t4 d3 d4 P HN.out.2 H9.out.2.1 H9.out.2.2).mono ?_
    rintro e w10 ⟨rfl, hb⟩
    have H10 : Hid (Below w.heap.size w w10) := H9.out.1.trans (hb.mono H9.out.1.size)
    clear hb H9
    go_wp2_with fail
    refine (K9.out w10).mono ?_
    rintro e w11 ⟨rfl, hb⟩
    have H11 : Hid (Below w.heap.size w w11) := H10.out.trans (hb.mono H10.out.size)
    clear hb H10 K9
    go_wp2_with fail
    refine (K10.out w11).mono ?_
    rintro e w12 ⟨rfl, hb⟩
    have H12 : Hid (Below w.heap.size w w12) := H11.out.trans (hb.mono H11.out.size)
    clear hb H11 K10
    go_wp2_with fail
    refine (KA.out w12 H12.out).mono ?_
    rintro e w13 ⟨rfl, hb⟩
    have H13 : Hid (Below w.heap.size w w13) := hb
    clear hb KA H12
    go_wp2
    go_ret
    exact ⟨rfl, H13.out⟩
  · by_cases g1 : (200 : Int) < (l.length : Int)
    · have ka := KA.out w (Below.refl _ _)
      clear KA HS hl
      go_enter Try.func3, Try.ntmps3
      go_wp2_with fail
      refine ka.mono ?_
      rintro e wa ⟨rfl, hb⟩
      have HB : Hid (Below w.heap.size w wa) := hb
      clear hb ka
      go_wp2
      go_ret
      exact ⟨rfl, HB.out⟩
    · have g2 : (200 : Int) < (x.length : Int) := by omega
      have ka := KA.out w (Below.refl _ _)
      clear KA HS hl
      go_enter Try.func3, Try.ntmps3
      go_wp2_with fail
      refine ka.mono ?_
      rintro e wa ⟨rfl, hb⟩
      have HB : Hid (Below w.heap.size w wa) := hb
      clear hb ka
      go_wp2
      go_ret
      exact ⟨rfl, HB.out⟩
end Go.Proofs.Ytfifcfdlmpgohaa
