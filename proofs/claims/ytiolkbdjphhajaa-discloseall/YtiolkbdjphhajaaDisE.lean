/-
  What follows of keys, times and rounds; the walk of DiscloseOver.
-/
import Derived.Test.YtiolkbdjphhajaaDisD
namespace Go.Proofs.Ytiolkbdjphhajaa
open Go.ChangeShapes Go.WideShapes Go.ChangeAt Go.RowKit

theorem idx_yes {c : Cf} {st r : Int} (hs : sinB c st r = true) (hk : keyB c (r - st) = true) : idxV c st r = .tuple #[.int .i64 (r - st), .int .i64 0] := by rw [idxV, if_pos hs, if_pos hk]
theorem idx_cases (c : Cf) (st r : Int) : (sinB c st r = true ∧ keyB c (r - st) = true) ∨ idxV c st r = .tuple #[.int .i64 0, .int .i64 1] ∨ idxV c st r = .tuple #[.int .i64 0, .int .i64 6] := by
  unfold idxV
  cases sinB c st r
  · exact .inr (.inl rfl)
  · cases keyB c (r - st)
    · exact .inr (.inr rfl)
    · exact .inl ⟨rfl, rfl⟩
theorem wh_round (c : Cf) (sl st r : Int) : whN c sl st (r - st) = atN c (r + c.d) sl := by
  unfold whN
  rw [show st + (r - st) + c.d = r + c.d by omega]
/-- A secret is not known, what is known is no secret. -/
theorem sec_kn {c : Cf} {sl st r now n : Int} (hs : sinB c st r = true) (hk : keyB c (r - st) = true) (h : Kn c sl st now n) :
    secN c sl st r now = 1 ∨ (secN c sl st r now = 0 ∧ n < r - st) ∨ (secN c sl st r now = 12 ∧ ¬ n < r - st) := by
  have ho := (sin_in hs).1
  have hi := key_in hk
  have hiff := h.iff ho hi.1 hi.2
  unfold secN
  rw [if_pos hs, if_pos hk]
  cases timeB now
  · exact .inl rfl
  · rw [if_pos rfl]
    cases hw : whB c sl st (r - st)
    · exact .inl rfl
    · rw [if_pos rfl]
      have h1 := (cell_ok (wh_in hw).2.2.2).2.1
      by_cases hT : whN c sl st (r - st) ≤ now
      · rw [if_pos hT]
        have := hiff.1 ⟨h1, hT⟩
        exact .inr (.inr ⟨rfl, by omega⟩)
      · rw [if_neg hT]
        refine .inr (.inl ⟨rfl, ?_⟩)
        have : ¬ (r - st ≤ n) := fun hle => hT (hiff.2 hle).2
        omega
theorem rsec_kn {c : Cf} {sl st r now n : Int} (hs : sinB c st r = true) (hk : keyB c (r - st) = true) (h : Kn c sl st now n) :
    rsecN c sl st r now = 1 ∨ (rsecN c sl st r now = 0 ∧ n < r - st) ∨ (rsecN c sl st r now = 12 ∧ ¬ n < r - st) := by
  unfold rsecN
  by_cases hsl : 0 ≤ sl ∧ sl < c.n
  · rw [if_pos hsl]
    exact sec_kn hs hk h
  · rw [if_neg hsl]
    exact .inl rfl
/-- Told in its time. -/
theorem tol_eq {c : Cf} {st r : Int} (hs : sinB c st r = true) (hk : keyB c (r - st) = true) (hr : r ≤ 1048570) : tolV c st (r + c.d) = .tuple #[.int .i64 (r - st), .int .i64 0] := by
  obtain ⟨ho, hst, hr0⟩ := sin_in hs
  have g := right_of ho
  have hd0 := g.d0
  have hd1 := g.d1
  have hi := key_in hk
  rw [tolV, if_pos (by simp only [sinB, roundB, ho, Bool.true_and, Bool.and_eq_true, decide_eq_true_eq]; omega), if_pos (by omega)]
  rw [show tolN c (r + c.d - st) = r - st by unfold tolN mnN mxN; split <;> split <;> omega]
theorem told_facts {c : Cf} {sl st r : Int} (hs : sinB c st r = true) (hk : keyB c (r - st) = true) (hc : cellB c (r + c.d) sl = true) :
    knB c sl st (atN c (r + c.d) sl) = true ∧ knB c sl st (atN c (r + c.d) sl - 1) = true ∧ (∀ n, Kn c sl st (atN c (r + c.d) sl) n → n = r - st) ∧ (∀ n, Kn c sl st (atN c (r + c.d) sl - 1) n → n < r - st) ∧ 1 ≤ atN c (r + c.d) sl ∧ atN c (r + c.d) sl ≤ 83886080000 := by
  obtain ⟨ho, hst, hr0⟩ := sin_in hs
  have g := right_of ho
  have hd0 := g.d0
  have hi := key_in hk
  obtain ⟨hp, hq, _, _⟩ := place_at hc
  obtain ⟨b1, b2, b3, b4, b5, b6, b7, b8⟩ := at_in hc
  obtain ⟨c0, c1, hn⟩ := cell_ok hc
  obtain ⟨_, n0, n1⟩ := node_ok hn
  have hR := rnd_in ho
  have hT1 : 1 ≤ atN c (r + c.d) sl := by
    have : 1 * rndN c ≤ (r + c.d) * rndN c := Int.mul_le_mul_of_nonneg_right (by omega) (by omega)
    unfold atN
    omega
  have hwr := wh_round c sl st r
  refine ⟨?_, ?_, ?_, ?_, hT1, b6⟩
  · simp [knB, hp, roundB, hst, n0, n1]
  · have hp2 : placeB c (atN c (r + c.d) sl - 1) = true := by
      have hle : (atN c (r + c.d) sl - 1) / rndN c ≤ atN c (r + c.d) sl / rndN c := Int.ediv_le_ediv (by omega) (by omega)
      simp only [placeB, timeB, ho, Bool.true_and, Bool.and_eq_true, decide_eq_true_eq]
      rw [hq] at hle
      exact ⟨⟨by omega, by omega⟩, by omega⟩
    simp [knB, hp2, roundB, hst, n0, n1]
  · intro n h
    have h1 := (h.iff ho hi.1 hi.2).1 ⟨by omega, by rw [hwr]; exact Int.le_refl _⟩
    by_cases he : n = r - st
    · exact he
    · have h2 := h.told (r - st + 1) (by omega) (by omega)
      have h3 := wh_next ho sl st (r - st)
      have h4 := h2.2
      rw [hwr] at h3
      omega
  · intro n h
    by_cases hlt : n < r - st
    · exact hlt
    · have h2 := (h.told (r - st) hi.1 (by omega)).2
      rw [hwr] at h2
      omega
end Go.Proofs.Ytiolkbdjphhajaa
