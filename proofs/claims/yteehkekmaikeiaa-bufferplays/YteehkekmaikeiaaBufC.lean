/-
  The contracts of what package buffer calls of the library, but for Reverse; of is and isNotBelow; of uncount.
-/
import Derived.Test.YteehkekmaikeiaaBufB
import Derived.Test.YteehkekmaikeiaaBytes
import Derived.Laws.StructEq
import Derived.Lib.SmallJoins
import Derived.Lib.SliceRun
import Derived.Deep.Fields
import Derived.Deep.Cut
import Derived.Deep.RegionLaw
namespace Go.Proofs.Yteehkekmaikeiaa
open Go.ChangeShapes Go.WideShapes Go.ChangeAt Go.RowKit

theorem equal_ok (w : World) (a b : Option Addr) (ca cb : Nat) (l m : List UInt8) (ha : Sees w a ca l) (hb : Sees w b cb m) :
    Calls Try.prog 31 #[.slice a l.length ca, .slice b m.length cb] w fun e w' => e = .returned (.bool (l == m)) ∧ w' = w := by
  have e1 := ha.convert (P := Try.prog) 22 5 9 Try.underlying22 Try.underlying5 Try.underlying9
  have e2 := hb.convert (P := Try.prog) 22 5 9 Try.underlying22 Try.underlying5 Try.underlying9
  clear ha hb
  go_enter Try.func31, Try.ntmps31
  go_wp2
  go_ret
  exact ⟨by first | rfl | simp, rfl⟩

theorem clone_ok (w : World) (x : Option Addr) (cx : Nat) (cs : List UInt8) (hx : Sees w x cx cs) (hb : cs.length ≤ 140737488355328) :
    Calls Try.prog 26 #[.slice x cs.length cx] w fun e w' => ∃ d cd, e = .returned (.slice d cs.length cd) ∧ Sees w' d cd cs ∧ Below w.heap.size w w' := by
  cases x with
  | none =>
    have h0 := hx.bare rfl
    have h1 := hx.fits
    have : cs = [] := List.eq_nil_of_length_eq_zero (by omega)
    subst this
    subst h0
    have hq := Lib.run_eql_slice_nil (P := Try.prog) w 22 5 none 0 0 0 0 Try.underlying22
    clear hx
    simp only [List.length_nil]
    go_enter Try.func26, Try.ntmps26
    go_wp2
    go_ret
    exact ⟨none, 0, rfl, Sees.nil' _, Below.refl _ _⟩
  | some ad =>
    have hb0 : Below w.heap.size w (w.alloc (.cells #[] 5)) := (Below.refl _ _).alloc (Nat.le_refl _) _
    obtain ⟨v', w', hrun, ho, hbl⟩ := append_own_any (w.alloc (.cells #[] 5)) w.heap.size _ [] (own_empty w) (some ad) cx cs (hx.below hb0) (by simpa using hb) (by simp)
    have HR : Hid ((Builtin.append_ #[22, 22] 22 #[.slice (some ⟨w.heap.size, 0, none⟩) 0 0, .slice (some ad) cs.length cx]).run Try.prog (w.alloc (.cells #[] 5)) = .ok v' w') := hrun
    obtain ⟨d, cd, rfl, hs⟩ := Sees.of_own ho
    have HE : Hid (Sees w' d cd cs ∧ Below w.heap.size w w') := ⟨hs, hbl _ _ hb0 (Nat.le_refl _)⟩
    have hq := Lib.run_eql_slice_nil (P := Try.prog) w 22 5 (some ad) cs.length cx 0 0 Try.underlying22
    clear hrun hx ho hbl hs
    go_enter Try.func26, Try.ntmps26
    go_wp2_with (at_builtin; refine wpList_append_run rfl _ _ 22 rfl _ _ _ rfl rfl HR.out ?_)
    go_ret
    exact ⟨d, cd, by simp, HE.out⟩

/-- Two cells compared. -/
theorem eqKey {a b : Key} (ha : wfK a) (hb : wfK b) (w : World) : (Op.equalIn 10000 51 (keyV a) (keyV b)).run Try.prog w = .ok (decide (a = b)) w := by
  obtain ⟨r, h1, h2⟩ := run_equal_deep (P := Try.prog) w (m := 2) (by omega) (k := 51) (by kernel_rfl) wide51 (key_pair ha) (key_pair hb)
  have e : r = decide (a = b) := by
    by_cases h : a = b
    · subst h; rw [decide_eq_true rfl]; exact h2.2 rfl
    · rw [decide_eq_false h]
      cases r
      · rfl
      · exact absurd (h2.1 rfl) (keyL_ne ha hb h)
  rw [← e]
  exact h1
theorem is_ok (w : World) (k j : Key) (hk : wfK k) (hj : wfK j) : Calls Try.prog 25 #[keyV k, keyV j] w fun e w' => e = .returned (.bool (decide (j = k))) ∧ Below w.heap.size w w' := by
  have hb : Hid (Below w.heap.size w ((w.alloc (.cells #[.int .i64 k.1, .int .i64 k.2] 51)).alloc (.cells #[.int .i64 j.1, .int .i64 j.2] 51))) := ((Below.refl _ _).alloc (Nat.le_refl _) _).alloc (by simp) _
  have hq := eqKey hj hk ((w.alloc (.cells #[.int .i64 k.1, .int .i64 k.2] 51)).alloc (.cells #[.int .i64 j.1, .int .i64 j.2] 51))
  simp only [keyV] at hq ⊢
  clear hk hj
  go_enter Try.func25, Try.ntmps25
  go_wp2
  go_ret
  exact ⟨rfl, hb.out⟩
theorem low_ok (w : World) (k j : Key) : Calls Try.prog 28 #[keyV k, keyV j] w fun e w' => e = .returned (.bool (decide (j.1 < k.1) || (decide (j.1 = k.1) && decide (j.2 ≤ k.2)))) ∧ Below w.heap.size w w' := by
  obtain ⟨k1, k2⟩ := k
  obtain ⟨j1, j2⟩ := j
  have hb : Hid (Below w.heap.size w ((w.alloc (.cells #[.int .i64 k1, .int .i64 k2] 51)).alloc (.cells #[.int .i64 j1, .int .i64 j2] 51))) := ((Below.refl _ _).alloc (Nat.le_refl _) _).alloc (by simp) _
  simp only [keyV]
  by_cases h1 : j1 < k1
  · rw [decide_eq_true h1, Bool.true_or]
    go_enter Try.func28, Try.ntmps28
    go_wp2
    go_ret
    exact ⟨rfl, hb.out⟩
  · rw [decide_eq_false h1, Bool.false_or]
    by_cases h2 : j1 = k1
    · subst h2
      rw [decide_eq_true rfl, Bool.true_and]
      go_enter Try.func28, Try.ntmps28
      go_wp2
      go_ret
      exact ⟨rfl, hb.out⟩
    · rw [decide_eq_false h2, Bool.false_and]
      go_enter Try.func28, Try.ntmps28
      go_wp2
      go_ret
      exact ⟨rfl, hb.out⟩
end Go.Proofs.Yteehkekmaikeiaa
