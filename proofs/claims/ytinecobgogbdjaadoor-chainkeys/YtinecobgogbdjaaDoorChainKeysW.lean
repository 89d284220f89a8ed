/-
  The walk of ChainKeys.
-/
import Derived.Test.YtinecobgogbdjaaDoorChainS
import Derived.Deep.QuietTactic
import Derived.BigQuiet
namespace Go.Proofs.YtinecobgogbdjaaDoor
open Go.ChangeShapes Go.WideShapes Go.ChangeAt Go.RowKit

/-- One of a list of lists: where it lies, and as a text. -/
theorem Rowss.text {W : World} {a : Option Addr} {cap : Nat} {L : List (List UInt8)} (h : Rowss W a cap L) (r : Nat) (bs : List UInt8) (hr : L[r]? = some bs) :
    ∃ g o x cx, a = some ⟨g, o, none⟩ ∧ W.cell? ⟨g, o + r, none⟩ = some (.slice x bs.length cx) ∧ Sees W x cx bs := by
  obtain ⟨b, off, he, x, cx, hc, hs⟩ := h.at' r bs hr
  exact ⟨b, off, x, cx, he, hc, hs⟩

set_option maxHeartbeats 3200000 in
theorem keys_walk (a : Option Addr) (ca : Nat) (seed : List UInt8) (n i p : Int) (w : World) (hTab : FTab w ∧ KTab w) (ha : Sees w a ca seed) (_ : ca ≤ 140737488351232) (_wn : (Lit.int .i64 n).wf = true) (_wi : (Lit.int .i64 i).wf = true) (_wp : (Lit.int .i64 p).wf = true) :
    Calls Tryd.prog 3 #[.slice a seed.length ca, .int .i64 n, .int .i64 i, .int .i64 p] w fun e w' => e = .returned (.bool true) ∧ Below w.heap.size w w' := by
  have HF : Hid (FTab w) := hTab.1
  have HT : Hid (KTab w) := hTab.2
  have HA : Hid (Sees w a ca seed) := ha
  have hkm : seed.length ≤ 9223372036854775807 := by have := ha.fits; have := ha.room; unfold maxLen at this; omega
  by_cases hbig : 60 < n ∧ n ≤ 256
  · obtain ⟨h0, h1⟩ := hbig
    have haw := awake_ok w hTab.1 hTab.2
    clear hTab ha
    go_enter Tryd.func3, Tryd.ntmps3
    go_wp2_with fail
    refine haw.mono ?_
    rintro e w' ⟨rfl, hbl⟩
    go_wp2
    go_ret
    exact ⟨rfl, hbl⟩
  have H1 : Hid (∀ W, Below w.heap.size w W → Calls Tryd.prog 8 #[.slice a seed.length ca, .int .i64 n, .int .i64 i] W fun e w' => Tells W w' e (keyC seed n i).1 (keyC seed n i).2) := fun W hW =>
    keyc_any W a ca seed n i (HF.out.below hW) (HT.out.below hW) (HA.out.below hW)
  have H2 : Hid (∀ W, Below w.heap.size w W → Calls Tryd.prog 9 #[.slice a seed.length ca, .int .i64 n, .int .i64 i] W fun e w' => Tells W w' e (keyC seed n i).1 (keyC seed n i).2) := fun W hW =>
    rkeyc_any W a ca seed n i (HA.out.below hW)
  have H3 : Hid (∀ W, Below w.heap.size w W → Calls Tryd.prog 10 #[.slice a seed.length ca, .int .i64 n] W fun e w' => RTells W w' e (allP seed n).1 (allP seed n).2) := fun W hW =>
    all_any W a ca seed n (HF.out.below hW) (HT.out.below hW) (HA.out.below hW)
  have H4 : Hid (∀ W, Below w.heap.size w W → Calls Tryd.prog 11 #[.slice a seed.length ca, .int .i64 n] W fun e w' => RTells W w' e (allP seed n).1 (allP seed n).2) := fun W hW =>
    rall_any W a ca seed n (HA.out.below hW)
  have H5 : Hid (∀ W, Below w.heap.size w W → Calls Tryd.prog 12 #[.slice a seed.length ca, .int .i64 p] W fun e w' => Tells W w' e (seedP seed p).1 (seedP seed p).2) := fun W hW =>
    seed_any W a ca seed p (HF.out.below hW) (HT.out.below hW) (HA.out.below hW)
  have H6 : Hid (∀ W, Below w.heap.size w W → Calls Tryd.prog 13 #[.slice a seed.length ca, .int .i64 p] W fun e w' => Tells W w' e (seedP seed p).1 (seedP seed p).2) := fun W hW =>
    rseed_any W a ca seed p (HA.out.below hW)
  obtain ⟨r1, hr1⟩ : ∃ r, r = (keyC seed n i).1 := ⟨_, rfl⟩
  obtain ⟨q1, hq1⟩ : ∃ q, q = (keyC seed n i).2 := ⟨_, rfl⟩
  obtain ⟨L, hL⟩ : ∃ r, r = (allP seed n).1 := ⟨_, rfl⟩
  obtain ⟨q2, hq2⟩ : ∃ q, q = (allP seed n).2 := ⟨_, rfl⟩
  obtain ⟨r3, hr3⟩ : ∃ r, r = (seedP seed p).1 := ⟨_, rfl⟩
  obtain ⟨q3, hq3⟩ : ∃ q, q = (seedP seed p).2 := ⟨_, rfl⟩
  rw [← hr1, ← hq1] at H1 H2
  rw [← hL, ← hq2] at H3 H4
  rw [← hr3, ← hq3] at H5 H6
  have g1 := H1.out w (Below.refl _ _)
  clear hr1 hq1 hL hq2 hr3 hq3 hTab ha
  have REST : ¬ 60 < n ∨ (60 < n ∧ ¬ n ≤ 256) := by omega
  clear hbig
  rcases REST with c1 | ⟨c1, c2⟩
  · have d1 : decide (60 < n) = false := decide_eq_false c1
    clear c1
    go_enter Tryd.func3, Tryd.ntmps3
    go_wp2_with fail
    refine g1.mono ?_
    rintro e w1 ⟨x1, k1, rfl, s1, b1⟩
    have g2 := H2.out w1 b1
    clear g1
    go_wp2_with fail
    refine g2.mono ?_
    rintro e w2 ⟨x2, k2, rfl, s2, b2⟩
    have bw2 := b1.trans (b2.mono b1.size)
    have g3 := H3.out w2 bw2
    clear g2
    go_wp2_with fail
    refine g3.mono ?_
    rintro e w3 ⟨x3, k3, rfl, s3, b3⟩
    have bw3 := bw2.trans (b3.mono bw2.size)
    have g4 := H4.out w3 bw3
    clear g3
    go_wp2_with fail
    refine g4.mono ?_
    rintro e w4 ⟨x4, k4, rfl, s4, b4⟩
    have bw4 := bw3.trans (b4.mono bw3.size)
    have g5 := H5.out w4 bw4
    clear g4
    go_wp2_with fail
    refine g5.mono ?_
    rintro e w5 ⟨x5, k5, rfl, s5, b5⟩
    have bw5 := bw4.trans (b5.mono bw4.size)
    have g6 := H6.out w5 bw5
    clear g5
    go_wp2_with fail
    refine g6.mono ?_
    rintro e w6 ⟨x6, k6, rfl, s6, b6⟩
    have bw6 := bw5.trans (b6.mono bw5.size)
    clear g6
    have t5 := s5.below b6
    have t4 := (s4.below b5).below b6
    have t3 := ((s3.below b4).below b5).below b6
    have t2 := (((s2.below b3).below b4).below b5).below b6
    have t1 := ((((s1.below b2).below b3).below b4).below b5).below b6
    have e1 := t1.convert (P := Tryd.prog) 22 5 9 Tryd.underlying22 Tryd.underlying5 Tryd.underlying9
    have e2 := t2.convert (P := Tryd.prog) 22 5 9 Tryd.underlying22 Tryd.underlying5 Tryd.underlying9
    have e5 := t5.convert (P := Tryd.prog) 22 5 9 Tryd.underlying22 Tryd.underlying5 Tryd.underlying9
    have e6 := s6.convert (P := Tryd.prog) 22 5 9 Tryd.underlying22 Tryd.underlying5 Tryd.underlying9
    have HX : Hid (Rowss w6 x3 k3 L ∧ Rowss w6 x4 k4 L) := ⟨t3, t4⟩
    have hLm := t3.len
    have HBW : Hid (Below w.heap.size w w6) := bw6
    clear s1 s2 s3 s4 s5 s6 t1 t2 t3 t4 t5 b1 b2 b3 b4 b5 b6 bw2 bw3 bw4 bw5 bw6 H1 H2 H3 H4 H5 H6
    go_wp2
    clear e1 e2 e5 e6
    go_loopw [21] (fun m wr => ∃ t : Nat, t ≤ L.length ∧ m = .int .i64 (t : Int) ∧ Below w6.heap.size w6 wr) (fun m _ => L.length - (intOf m).toNat)
    case atStart => exact ⟨0, Nat.zero_le _, rfl, Below.refl _ _⟩
    case round =>
      obtain ⟨t, ht, rfl, hbr⟩ := hrel
      by_cases hlt : t < L.length
      · obtain ⟨bs, hbs⟩ : ∃ bs, L[t]? = some bs := ⟨L[t], by simp [hlt]⟩
        obtain ⟨ga, oa, xa, cxa, rfl, hca, hsa⟩ := (HX.out.1.below hbr).text t bs hbs
        obtain ⟨gb, ob, xb, cxb, rfl, hcb, hsb⟩ := (HX.out.2.below hbr).text t bs hbs
        have f1 : ∀ m, (Go.convert 22 9 (.slice xa bs.length cxa)).run Tryd.prog (wr.drewN m) = .ok (.string ⟨bs.toArray⟩) (wr.drewN m) := fun m => (hsa.drewN m).convert (P := Tryd.prog) 22 5 9 Tryd.underlying22 Tryd.underlying5 Tryd.underlying9
        have f2 : ∀ m, (Go.convert 22 9 (.slice xb bs.length cxb)).run Tryd.prog (wr.drewN m) = .ok (.string ⟨bs.toArray⟩) (wr.drewN m) := fun m => (hsb.drewN m).convert (P := Tryd.prog) 22 5 9 Tryd.underlying22 Tryd.underlying5 Tryd.underlying9
        have g0 : (0 : Int) ≤ (t : Int) := Int.natCast_nonneg _
        have g1 : (t : Int) < (L.length : Int) := by omega
        have g2 : (t : Int).toNat = t := Int.toNat_natCast _
        have HBR : Hid (Below w6.heap.size w6 wr) := hbr
        clear hbs hsa hsb hbr HX
        go_wp2_with fail
        go_quiet (fail)
        go_wp2
        go_roundw
        case rel => exact ⟨t + 1, by omega, by go_num, by first | exact HBR.out | exact HBR.out.drew | exact below_drewN HBR.out _⟩
        case measure => simp [intOf]; omega
      · obtain rfl : t = L.length := by omega
        have hbw := HBW.out.trans (hbr.mono HBW.out.size)
        have haw := awake_ok wr (HF.out.below hbw) (HT.out.below hbw)
        clear hbr HX ht hlt
        go_wp2_with fail
        refine haw.mono ?_
        rintro e w7 ⟨rfl, hb7⟩
        clear haw
        go_wp2
        go_ret
        exact ⟨rfl, hbw.trans (hb7.mono hbw.size)⟩
  · have d2 : decide (n ≤ 256) = false := decide_eq_false c2
    clear c2
    go_enter Tryd.func3, Tryd.ntmps3
    go_wp2_with fail
    refine g1.mono ?_
    rintro e w1 ⟨x1, k1, rfl, s1, b1⟩
    have g2 := H2.out w1 b1
    clear g1
    go_wp2_with fail
    refine g2.mono ?_
    rintro e w2 ⟨x2, k2, rfl, s2, b2⟩
    have bw2 := b1.trans (b2.mono b1.size)
    have g3 := H3.out w2 bw2
    clear g2
    go_wp2_with fail
    refine g3.mono ?_
    rintro e w3 ⟨x3, k3, rfl, s3, b3⟩
    have bw3 := bw2.trans (b3.mono bw2.size)
    have g4 := H4.out w3 bw3
    clear g3
    go_wp2_with fail
    refine g4.mono ?_
    rintro e w4 ⟨x4, k4, rfl, s4, b4⟩
    have bw4 := bw3.trans (b4.mono bw3.size)
    have g5 := H5.out w4 bw4
    clear g4
    go_wp2_with fail
    refine g5.mono ?_
    rintro e w5 ⟨x5, k5, rfl, s5, b5⟩
    have bw5 := bw4.trans (b5.mono bw4.size)
    have g6 := H6.out w5 bw5
    clear g5
    go_wp2_with fail
    refine g6.mono ?_
    rintro e w6 ⟨x6, k6, rfl, s6, b6⟩
    have bw6 := bw5.trans (b6.mono bw5.size)
    clear g6
    have t5 := s5.below b6
    have t4 := (s4.below b5).below b6
    have t3 := ((s3.below b4).below b5).below b6
    have t2 := (((s2.below b3).below b4).below b5).below b6
    have t1 := ((((s1.below b2).below b3).below b4).below b5).below b6
    have e1 := t1.convert (P := Tryd.prog) 22 5 9 Tryd.underlying22 Tryd.underlying5 Tryd.underlying9
    have e2 := t2.convert (P := Tryd.prog) 22 5 9 Tryd.underlying22 Tryd.underlying5 Tryd.underlying9
    have e5 := t5.convert (P := Tryd.prog) 22 5 9 Tryd.underlying22 Tryd.underlying5 Tryd.underlying9
    have e6 := s6.convert (P := Tryd.prog) 22 5 9 Tryd.underlying22 Tryd.underlying5 Tryd.underlying9
    have HX : Hid (Rowss w6 x3 k3 L ∧ Rowss w6 x4 k4 L) := ⟨t3, t4⟩
    have hLm := t3.len
    have HBW : Hid (Below w.heap.size w w6) := bw6
    clear s1 s2 s3 s4 s5 s6 t1 t2 t3 t4 t5 b1 b2 b3 b4 b5 b6 bw2 bw3 bw4 bw5 bw6 H1 H2 H3 H4 H5 H6
    go_wp2
    clear e1 e2 e5 e6
    go_loopw [21] (fun m wr => ∃ t : Nat, t ≤ L.length ∧ m = .int .i64 (t : Int) ∧ Below w6.heap.size w6 wr) (fun m _ => L.length - (intOf m).toNat)
    case atStart => exact ⟨0, Nat.zero_le _, rfl, Below.refl _ _⟩
    case round =>
      obtain ⟨t, ht, rfl, hbr⟩ := hrel
      by_cases hlt : t < L.length
      · obtain ⟨bs, hbs⟩ : ∃ bs, L[t]? = some bs := ⟨L[t], by simp [hlt]⟩
        obtain ⟨ga, oa, xa, cxa, rfl, hca, hsa⟩ := (HX.out.1.below hbr).text t bs hbs
        obtain ⟨gb, ob, xb, cxb, rfl, hcb, hsb⟩ := (HX.out.2.below hbr).text t bs hbs
        have f1 : ∀ m, (Go.convert 22 9 (.slice xa bs.length cxa)).run Tryd.prog (wr.drewN m) = .ok (.string ⟨bs.toArray⟩) (wr.drewN m) := fun m => (hsa.drewN m).convert (P := Tryd.prog) 22 5 9 Tryd.underlying22 Tryd.underlying5 Tryd.underlying9
        have f2 : ∀ m, (Go.convert 22 9 (.slice xb bs.length cxb)).run Tryd.prog (wr.drewN m) = .ok (.string ⟨bs.toArray⟩) (wr.drewN m) := fun m => (hsb.drewN m).convert (P := Tryd.prog) 22 5 9 Tryd.underlying22 Tryd.underlying5 Tryd.underlying9
        have g0 : (0 : Int) ≤ (t : Int) := Int.natCast_nonneg _
        have g1 : (t : Int) < (L.length : Int) := by omega
        have g2 : (t : Int).toNat = t := Int.toNat_natCast _
        have HBR : Hid (Below w6.heap.size w6 wr) := hbr
        clear hbs hsa hsb hbr HX
        go_wp2_with fail
        go_quiet (fail)
        go_wp2
        go_roundw
        case rel => exact ⟨t + 1, by omega, by go_num, by first | exact HBR.out | exact HBR.out.drew | exact below_drewN HBR.out _⟩
        case measure => simp [intOf]; omega
      · obtain rfl : t = L.length := by omega
        have hbw := HBW.out.trans (hbr.mono HBW.out.size)
        have haw := awake_ok wr (HF.out.below hbw) (HT.out.below hbw)
        clear hbr HX ht hlt
        go_wp2_with fail
        refine haw.mono ?_
        rintro e w7 ⟨rfl, hb7⟩
        clear haw
        go_wp2
        go_ret
        exact ⟨rfl, hbw.trans (hb7.mono hbw.size)⟩
end Go.Proofs.YtinecobgogbdjaaDoor
