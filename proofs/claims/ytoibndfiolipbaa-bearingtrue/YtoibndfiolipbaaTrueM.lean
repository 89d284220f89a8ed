/-
  What was so is so, over plain numbers. No program here.
-/
import Derived.Test.YtoibndfiolipbaaBrgS
namespace Go.Proofs.Ytoibndfiolipbaa

/-- A clock has gone on by a in n beats of 100, within a drift of 3. -/
def Bs (n a : Int) : Prop := 97 * n ≤ a ∧ a ≤ 103 * n
/-- What is known of node 1 holds D, and was so at t. -/
structure Hn (v : Bt) (D t : Int) : Prop where
  c : v.c = usualC
  i : v.i = 0
  k : ∃ k, v.K 1 = some k ∧ k.t = t ∧ k.a ≤ D ∧ D ≤ k.b ∧ -2000000 ≤ k.a ∧ k.b ≤ 2000000
  ti : 0 ≤ t ∧ t ≤ 4000000
theorem usual_rnd : rndN usualC = 1200 := by decide +kernel
theorem spread3 {a : Int} (h : 0 ≤ a) : 0 ≤ spreadN a 3 ∧ spreadN a 3 ≤ 2 * a := by
  have h1 := spread_most (a := a) (d := 3) (by decide) (by decide) h
  have h2 := most_le3 (a := a) (d := 3) (by decide) (by decide) h
  have h3 := spread_nonneg (a := a) (d := 3) (by decide) (by decide) h
  exact ⟨h3, by omega⟩
theorem beats3 {n a b : Int} (ha : Bs n a) (hb : Bs n b) : b - a ≤ spreadN a 3 ∧ a - b ≤ spreadN a 3 := by
  obtain ⟨h1, h2⟩ := both_hold (a := a) (b := b) (n := n) (d := 3) (by decide) (by decide) (by have := ha.1; omega) (by have := ha.2; omega) (by have := hb.1; omega) (by have := hb.2; omega)
  exact spread_holds h1 h2
/-- What is told later. -/
theorem Hn.later {v : Bt} {D t : Int} (h : Hn v D t) {n a b : Int} (hn0 : 0 ≤ n) (hn : n ≤ 60) (ha : Bs n a) (hb : Bs n b) :
    ((atA v 1 (t + a)).e = 0 → (atA v 1 (t + a)).a ≤ D + (b - a) ∧ D + (b - a) ≤ (atA v 1 (t + a)).b) ∧ ((atA v 1 (t + a)).e = 0 ∨ (atA v 1 (t + a)).e = 6) ∧ (n ≤ 20 → (atA v 1 (t + a)).e = 0) := by
  obtain ⟨k, hk, ht, h1, h2, h3, h4⟩ := h.k
  have hti := h.ti
  have ha1 := ha.1
  have ha2 := ha.2
  have hs := spread3 (a := a) (by omega)
  obtain ⟨hd1, hd2⟩ := beats3 ha hb
  have hmay : mayF v 1 (t + a) = true := by
    unfold mayF otherB timeB
    rw [h.c, h.i]
    have h5 : decide (0 ≤ t + a ∧ t + a ≤ 1099511627776) = true := decide_eq_true ⟨by omega, by omega⟩
    rw [h5]; decide
  have hat : atA v 1 (t + a) = freA usualC k (t + a) := by
    rw [atA, if_pos hmay, hk, h.c]; rfl
  rw [hat]
  have hga : t + a - k.t = a := by omega
  unfold freA
  rw [hga, usual_rnd]
  by_cases hf : a < 0 ∨ 2 * 1200 < a
  · rw [if_pos hf]
    refine ⟨fun e => absurd e (by decide), .inr rfl, fun hn2 => ?_⟩
    rcases hf with hf | hf <;> omega
  · rw [if_neg hf]
    have hmb : mayB a (usualC.r + usualC.l) = true := mayB_of (by decide) (by decide) (by omega) (by omega)
    have hr1 : rightB k.a k.b = true := rightB_of (by omega) (by omega) (by omega)
    have hD : usualC.r + usualC.l = 3 := rfl
    rw [hD] at hmb ⊢
    have hr2 : rightB (k.a - spreadN a 3) (k.b + spreadN a 3) = true := rightB_of (by omega) (by omega) (by omega)
    have hg : grwA k.a k.b a 3 = ⟨k.a - spreadN a 3, k.b + spreadN a 3, 0⟩ := by
      unfold grwA
      rw [if_pos ⟨hmb, hr1⟩, if_pos hr2]
    rw [hg, if_pos rfl]
    exact ⟨fun _ => ⟨by show k.a - spreadN a 3 ≤ _; omega, by show _ ≤ k.b + spreadN a 3; omega⟩, .inl rfl, fun _ => rfl⟩
/-- What is put holds it, and is put. -/
theorem narrow_holds {x : An} {a b D : Int} (hx : x.e = 0 → x.a ≤ D ∧ D ≤ x.b) (ha : a ≤ D) (hb : D ≤ b) : (narA x a b).a ≤ D ∧ D ≤ (narA x a b).b ∧ a ≤ (narA x a b).a ∧ (narA x a b).b ≤ b := by
  unfold narA
  split
  · rename_i h0
    obtain ⟨h1, h2⟩ := hx h0
    split
    · rename_i h3
      unfold metA at *
      split at h3
      · rename_i h4
        rw [if_pos h4]
        split at h3
        · rename_i h5
          rw [if_pos h5]
          show mxN x.a a ≤ D ∧ D ≤ mnN x.b b ∧ a ≤ mxN x.a a ∧ mnN x.b b ≤ b
          unfold mxN mnN
          split <;> split <;> omega
        · cases h3
      · cases h3
    · exact ⟨ha, hb, Int.le_refl _, Int.le_refl _⟩
  · exact ⟨ha, hb, Int.le_refl _, Int.le_refl _⟩
theorem Hn.of {v : Bt} (hc : v.c = usualC) (hi : v.i = 0) {D t x y : Int} (hx : (atA v 1 t).e = 0 → (atA v 1 t).a ≤ D ∧ D ≤ (atA v 1 t).b) (hold : oldB (v.K 1) t = false) (h0 : 0 ≤ x ∧ x ≤ 65535) (h1 : 0 ≤ y ∧ y ≤ 65535) (hD : -1000600 ≤ D ∧ D ≤ 1000600) (ht : 0 ≤ t ∧ t ≤ 4000000) :
    putE v 1 (D - x) (D + y) t = 0 ∧ Hn (putV v 1 (D - x) (D + y) t) D t := by
  have ho : otherB v 1 = true := by unfold otherB; rw [hc, hi]; decide
  have hr : rightB (D - x) (D + y) = true := rightB_of (by omega) (by omega) (by omega)
  have htm : timeB t = true := decide_eq_true ⟨by omega, by omega⟩
  have he : putE v 1 (D - x) (D + y) t = 0 := by rw [putE, if_pos ⟨ho, hr, htm⟩, hold, if_neg (by simp)]
  refine ⟨he, ?_⟩
  rw [putV, if_pos he]
  obtain ⟨n1, n2, n3, n4⟩ := narrow_holds (x := atA v 1 t) (a := D - x) (b := D + y) (D := D) hx (by omega) (by omega)
  exact ⟨hc, hi, ⟨⟨(narA (atA v 1 t) (D - x) (D + y)).a, (narA (atA v 1 t) (D - x) (D + y)).b, t⟩, by simp [putT, putK], rfl, n1, n2, by show -2000000 ≤ (narA (atA v 1 t) (D - x) (D + y)).a; omega, by show (narA (atA v 1 t) (D - x) (D + y)).b ≤ 2000000; omega⟩, ht⟩
theorem Hn.first {x y D : Int} (h0 : 0 ≤ x ∧ x ≤ 65535) (h1 : 0 ≤ y ∧ y ≤ 65535) (hD : -1000000 ≤ D ∧ D ≤ 1000000) :
    Hn (putV (newT usualC 0) 1 (D - x) (D + y) 2000000) D 2000000 := by
  refine (Hn.of (v := newT usualC 0) rfl rfl (fun h => ?_) rfl h0 h1 (by omega) (by decide)).2
  exact absurd h (by decide +kernel)
theorem Hn.again {v : Bt} {D t : Int} (h : Hn v D t) {n a b x y : Int} (hn0 : 0 ≤ n) (hn : n ≤ 30) (ha : Bs n a) (hb : Bs n b) (ht : t = 2000000) (hD : -1000000 ≤ D ∧ D ≤ 1000000) (h0 : 0 ≤ x ∧ x ≤ 65535) (h1 : 0 ≤ y ∧ y ≤ 65535) :
    Hn (putV v 1 (D + (b - a) - x) (D + (b - a) + y) (t + a)) (D + (b - a)) (t + a) := by
  have hl := (h.later hn0 (by omega) ha hb).1
  obtain ⟨k, hk, hkt, _⟩ := h.k
  have ha1 := ha.1; have ha2 := ha.2; have hb1 := hb.1; have hb2 := hb.2
  refine (Hn.of h.c h.i hl ?_ h0 h1 (by omega) (by omega)).2
  rw [hk]
  show decide (t + a < k.t) = false
  exact decide_eq_false (by omega)
/-- A step of one clock. -/
def stpN (z : Int) : Int := 100 + min (max z (-3)) 3
theorem Bs.step {n a z : Int} (h : Bs n a) : Bs (n + 1) (a + stpN z) := by
  have h1 := h.1; have h2 := h.2
  unfold Bs stpN
  omega
end Go.Proofs.Ytoibndfiolipbaa
