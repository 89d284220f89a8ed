/-
  The walk of ChainBacks.
-/
import Derived.Test.YtinecobgogbdjaaDoorChainS
namespace Go.Proofs.YtinecobgogbdjaaDoor
open Go.ChangeShapes Go.WideShapes Go.ChangeAt Go.RowKit

set_option maxHeartbeats 1600000 in
theorem backs_walk (a : Option Addr) (ca : Nat) (ka : List UInt8) (b : Option Addr) (cb : Nat) (kb : List UInt8) (i j : Int) (w : World) (hTab : FTab w ∧ KTab w) (ha : Sees w a ca ka) (_ : ca ≤ 140737488351232) (hb : Sees w b cb kb) (_ : cb ≤ 140737488351232) (_wi : (Lit.int .i64 i).wf = true) (_wj : (Lit.int .i64 j).wf = true) :
    Calls Tryd.prog 4 #[.slice a ka.length ca, .slice b kb.length cb, .int .i64 i, .int .i64 j] w fun e w' => e = .returned (.bool true) ∧ Below w.heap.size w w' := by
  have HF : Hid (FTab w) := hTab.1
  have HT : Hid (KTab w) := hTab.2
  have HA : Hid (Sees w a ca ka) := ha
  have HB : Hid (Sees w b cb kb) := hb
  have hkm : ka.length ≤ 9223372036854775807 := by have := ha.fits; have := ha.room; unfold maxLen at this; omega
  have hym : kb.length ≤ 9223372036854775807 := by have := hb.fits; have := hb.room; unfold maxLen at this; omega
  obtain ⟨T, hT⟩ : ∃ T : Bool, T = ((decide (60 < i) || decide (60 < j)) && decide (i ≤ 256) && decide (j ≤ 256)) := ⟨_, rfl⟩
  have haw := awake_ok w hTab.1 hTab.2
  by_cases hg : (60 < i ∨ 60 < j) ∧ i ≤ 256 ∧ j ≤ 256
  · obtain ⟨h0, h1, h2⟩ := hg
    by_cases h3 : 60 < i
    · clear hT hTab ha hb h0
      go_enter Tryd.func4, Tryd.ntmps4
      go_wp2_with fail
      refine haw.mono ?_
      rintro e w' ⟨rfl, hbl⟩
      go_wp2
      go_ret
      exact ⟨rfl, hbl⟩
    · have h4 : 60 < j := by omega
      have d1 : decide (60 < i) = false := decide_eq_false h3
      clear hT hTab ha hb h0 h3
      go_enter Tryd.func4, Tryd.ntmps4
      go_wp2_with fail
      refine haw.mono ?_
      rintro e w' ⟨rfl, hbl⟩
      go_wp2
      go_ret
      exact ⟨rfl, hbl⟩
  -- the rest is one walk, whichever test has failed
  have H1 : Hid (∀ W, Below w.heap.size w W → Calls Tryd.prog 14 #[.slice a ka.length ca, .int .i64 i] W fun e w' => Tells W w' e (backP ka i).1 (backP ka i).2) := fun W hW =>
    back_any W a ca ka i (HF.out.below hW) (HT.out.below hW) (HA.out.below hW)
  have H2 : Hid (∀ W, Below w.heap.size w W → Calls Tryd.prog 15 #[.slice a ka.length ca, .int .i64 i] W fun e w' => Tells W w' e (backP ka i).1 (backP ka i).2) := fun W hW =>
    rback_any W a ca ka i (HA.out.below hW)
  have H3 : Hid (∀ W, Below w.heap.size w W → Calls Tryd.prog 16 #[.int .i64 i, .slice a ka.length ca, .int .i64 j, .slice b kb.length cb] W fun e w' => e = .returned (.int .i64 (folP i ka j kb : Int)) ∧ Below W.heap.size W w') := fun W hW =>
    fol_any W i a ca ka j b cb kb (HF.out.below hW) (HT.out.below hW) (HA.out.below hW) (HB.out.below hW)
  have H4 : Hid (∀ W, Below w.heap.size w W → Calls Tryd.prog 17 #[.int .i64 i, .slice a ka.length ca, .int .i64 j, .slice b kb.length cb] W fun e w' => e = .returned (.int .i64 (folP i ka j kb : Int)) ∧ Below W.heap.size W w') := fun W hW =>
    rfol_any W i a ca ka j b cb kb (HA.out.below hW) (HB.out.below hW)
  obtain ⟨r, hr⟩ : ∃ r, r = (backP ka i).1 := ⟨_, rfl⟩
  obtain ⟨q, hq⟩ : ∃ q, q = (backP ka i).2 := ⟨_, rfl⟩
  obtain ⟨f, hf⟩ : ∃ f, f = folP i ka j kb := ⟨_, rfl⟩
  rw [← hr, ← hq] at H1 H2
  rw [← hf] at H3 H4
  have g1 := H1.out w (Below.refl _ _)
  clear hr hq hf hTab ha hb haw hT T
  have REST : (60 < i ∧ 256 < i) ∨ (60 < i ∧ i ≤ 256 ∧ 256 < j) ∨ (¬ 60 < i ∧ 60 < j ∧ 256 < j) ∨ (¬ 60 < i ∧ ¬ 60 < j) := by omega
  clear hg
  rcases REST with ⟨c1, c2⟩ | ⟨c1, c2, c3⟩ | ⟨c1, c2, c3⟩ | ⟨c1, c2⟩
  · have d2 : decide (i ≤ 256) = false := decide_eq_false (by omega)
    clear c2
    go_enter Tryd.func4, Tryd.ntmps4
    go_wp2_with fail
    refine g1.mono ?_
    rintro e w1 ⟨x1, k1, rfl, s1, b1⟩
    have g2 := H2.out w1 b1
    clear g1
    go_wp2_with fail
    refine g2.mono ?_
    rintro e w2 ⟨x2, k2, rfl, s2, b2⟩
    have bw2 := b1.trans (b2.mono b1.size)
    have e1 := (s1.below b2).convert (P := Tryd.prog) 22 5 9 Tryd.underlying22 Tryd.underlying5 Tryd.underlying9
    have e2 := s2.convert (P := Tryd.prog) 22 5 9 Tryd.underlying22 Tryd.underlying5 Tryd.underlying9
    have g3 := H3.out w2 bw2
    clear g2 s1 s2
    go_wp2_with fail
    refine g3.mono ?_
    rintro e w3 ⟨rfl, b3⟩
    have bw3 := bw2.trans (b3.mono bw2.size)
    have g4 := H4.out w3 bw3
    clear g3 e1 e2
    go_wp2_with fail
    refine g4.mono ?_
    rintro e w4 ⟨rfl, b4⟩
    have bw4 := bw3.trans (b4.mono bw3.size)
    have haw := awake_ok w4 (HF.out.below bw4) (HT.out.below bw4)
    clear g4
    go_wp2_with fail
    refine haw.mono ?_
    rintro e w5 ⟨rfl, b5⟩
    clear haw
    go_wp2
    go_ret
    exact ⟨rfl, bw4.trans (b5.mono bw4.size)⟩
  · have d3 : decide (j ≤ 256) = false := decide_eq_false (by omega)
    clear c3
    go_enter Tryd.func4, Tryd.ntmps4
    go_wp2_with fail
    refine g1.mono ?_
    rintro e w1 ⟨x1, k1, rfl, s1, b1⟩
    have g2 := H2.out w1 b1
    clear g1
    go_wp2_with fail
    refine g2.mono ?_
    rintro e w2 ⟨x2, k2, rfl, s2, b2⟩
    have bw2 := b1.trans (b2.mono b1.size)
    have e1 := (s1.below b2).convert (P := Tryd.prog) 22 5 9 Tryd.underlying22 Tryd.underlying5 Tryd.underlying9
    have e2 := s2.convert (P := Tryd.prog) 22 5 9 Tryd.underlying22 Tryd.underlying5 Tryd.underlying9
    have g3 := H3.out w2 bw2
    clear g2 s1 s2
    go_wp2_with fail
    refine g3.mono ?_
    rintro e w3 ⟨rfl, b3⟩
    have bw3 := bw2.trans (b3.mono bw2.size)
    have g4 := H4.out w3 bw3
    clear g3 e1 e2
    go_wp2_with fail
    refine g4.mono ?_
    rintro e w4 ⟨rfl, b4⟩
    have bw4 := bw3.trans (b4.mono bw3.size)
    have haw := awake_ok w4 (HF.out.below bw4) (HT.out.below bw4)
    clear g4
    go_wp2_with fail
    refine haw.mono ?_
    rintro e w5 ⟨rfl, b5⟩
    clear haw
    go_wp2
    go_ret
    exact ⟨rfl, bw4.trans (b5.mono bw4.size)⟩
  · have d1 : decide (60 < i) = false := decide_eq_false c1
    have d2 : i ≤ 256 := by omega
    have d3 : decide (j ≤ 256) = false := decide_eq_false (by omega)
    clear c3 c1
    go_enter Tryd.func4, Tryd.ntmps4
    go_wp2_with fail
    refine g1.mono ?_
    rintro e w1 ⟨x1, k1, rfl, s1, b1⟩
    have g2 := H2.out w1 b1
    clear g1
    go_wp2_with fail
    refine g2.mono ?_
    rintro e w2 ⟨x2, k2, rfl, s2, b2⟩
    have bw2 := b1.trans (b2.mono b1.size)
    have e1 := (s1.below b2).convert (P := Tryd.prog) 22 5 9 Tryd.underlying22 Tryd.underlying5 Tryd.underlying9
    have e2 := s2.convert (P := Tryd.prog) 22 5 9 Tryd.underlying22 Tryd.underlying5 Tryd.underlying9
    have g3 := H3.out w2 bw2
    clear g2 s1 s2
    go_wp2_with fail
    refine g3.mono ?_
    rintro e w3 ⟨rfl, b3⟩
    have bw3 := bw2.trans (b3.mono bw2.size)
    have g4 := H4.out w3 bw3
    clear g3 e1 e2
    go_wp2_with fail
    refine g4.mono ?_
    rintro e w4 ⟨rfl, b4⟩
    have bw4 := bw3.trans (b4.mono bw3.size)
    have haw := awake_ok w4 (HF.out.below bw4) (HT.out.below bw4)
    clear g4
    go_wp2_with fail
    refine haw.mono ?_
    rintro e w5 ⟨rfl, b5⟩
    clear haw
    go_wp2
    go_ret
    exact ⟨rfl, bw4.trans (b5.mono bw4.size)⟩
  · have d1 : decide (60 < i) = false := decide_eq_false c1
    have d2 : decide (60 < j) = false := decide_eq_false c2
    clear c1 c2
    go_enter Tryd.func4, Tryd.ntmps4
    go_wp2_with fail
    refine g1.mono ?_
    rintro e w1 ⟨x1, k1, rfl, s1, b1⟩
    have g2 := H2.out w1 b1
    clear g1
    go_wp2_with fail
    refine g2.mono ?_
    rintro e w2 ⟨x2, k2, rfl, s2, b2⟩
    have bw2 := b1.trans (b2.mono b1.size)
    have e1 := (s1.below b2).convert (P := Tryd.prog) 22 5 9 Tryd.underlying22 Tryd.underlying5 Tryd.underlying9
    have e2 := s2.convert (P := Tryd.prog) 22 5 9 Tryd.underlying22 Tryd.underlying5 Tryd.underlying9
    have g3 := H3.out w2 bw2
    clear g2 s1 s2
    go_wp2_with fail
    refine g3.mono ?_
    rintro e w3 ⟨rfl, b3⟩
    have bw3 := bw2.trans (b3.mono bw2.size)
    have g4 := H4.out w3 bw3
    clear g3 e1 e2
    go_wp2_with fail
    refine g4.mono ?_
    rintro e w4 ⟨rfl, b4⟩
    have bw4 := bw3.trans (b4.mono bw3.size)
    have haw := awake_ok w4 (HF.out.below bw4) (HT.out.below bw4)
    clear g4
    go_wp2_with fail
    refine haw.mono ?_
    rintro e w5 ⟨rfl, b5⟩
    clear haw
    go_wp2
    go_ret
    exact ⟨rfl, bw4.trans (b5.mono bw4.size)⟩
end Go.Proofs.YtinecobgogbdjaaDoor
