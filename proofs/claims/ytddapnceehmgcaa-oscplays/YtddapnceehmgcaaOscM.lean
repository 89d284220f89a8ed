/-
  A clock's numbers, and what its acts make of them. No program here.
-/
import Derived.Test.YtddapnceehmgcaaNums
import Derived.Test.YtddapnceehmgcaaCells
import Derived.Test.YtddapnceehmgcaaFoot
import Derived.Test.YtddapnceehmgcaaDraws
import Derived.Test.YtddapnceehmgcaaRows
namespace Go.Proofs.Ytddapnceehmgcaa
open Go.ChangeShapes Go.WideShapes Go.ChangeAt Go.RowKit

/-- What a clock holds: slew, hardware, the clock, what is owed. -/
structure Ck where
  s : Int
  h : Int
  t : Int
  o : Int
structure Ck.ok (v : Ck) : Prop where
  s0 : 0 ≤ v.s
  s1 : v.s ≤ 49
  h0 : 0 ≤ v.h
  h1 : v.h ≤ 1099511627776
  t0 : 0 ≤ v.t
  t1 : v.t ≤ 1099511627776
  o0 : -1099511627776 ≤ v.o
  o1 : v.o ≤ 1099511627776

/-- What may be paid in a step of n. -/
def mostN (s n : Int) : Int := s * ((n + 50) / 100)
/-- What is paid. -/
def payN (s n o : Int) : Int := max (-(min (mostN s n) n)) (min o (mostN s n))
def timeB (n : Int) : Bool := decide (0 ≤ n) && decide (n ≤ 1099511627776)
def owesB (n : Int) : Bool := decide (-1099511627776 ≤ n) && decide (n ≤ 1099511627776)
def fullB (v : Ck) (n : Int) : Bool := decide (1099511627776 < v.h + n) || decide (1099511627776 < v.t + n + payN v.s n v.o)
def stepE (v : Ck) (n : Int) : Int := if timeB n then (if fullB v n then 9 else 0) else 1
def stepV (v : Ck) (n : Int) : Ck := if timeB n && !fullB v n then ⟨v.s, v.h + n, v.t + n + payN v.s n v.o, v.o - payN v.s n v.o⟩ else v
def adjE (n : Int) : Int := if owesB n then 0 else 1
def adjV (v : Ck) (n : Int) : Ck := if owesB n then { v with o := n } else v
def setE (n : Int) : Int := if timeB n then 0 else 1
def setV (v : Ck) (n : Int) : Ck := if timeB n then { v with t := n, o := 0 } else v
def newK (s : Int) : Ck := ⟨s, 0, 0, 0⟩

theorem wrap_in {x : Int} (h0 : -9223372036854775808 ≤ x) (h1 : x ≤ 9223372036854775807) : IntKind.i64.wrap x = x := by rw [IntKind.wrap_i64]; omega
theorem most_in {s n : Int} (h0 : 0 ≤ s) (h1 : s ≤ 49) (n0 : 0 ≤ n) : 0 ≤ mostN s n ∧ mostN s n ≤ n := by
  unfold mostN
  have hq : 0 ≤ (n + 50) / 100 := by omega
  refine ⟨Int.mul_nonneg h0 hq, ?_⟩
  have : s * ((n + 50) / 100) ≤ 49 * ((n + 50) / 100) := Int.mul_le_mul_of_nonneg_right h1 hq
  omega
/-- What is paid is of its sign, no more than is owed, and at most the most. -/
theorem pay_in {s n o : Int} (h0 : 0 ≤ s) (h1 : s ≤ 49) (n0 : 0 ≤ n) : -(mostN s n) ≤ payN s n o ∧ payN s n o ≤ mostN s n ∧ (0 ≤ o → 0 ≤ payN s n o ∧ payN s n o ≤ o) ∧ (o ≤ 0 → payN s n o ≤ 0 ∧ o ≤ payN s n o) := by
  have := most_in h0 h1 n0
  unfold payN
  generalize mostN s n = m at *
  omega
theorem newK_ok {s : Int} (h0 : 0 ≤ s) (h1 : s ≤ 49) : (newK s).ok := ⟨h0, h1, by simp [newK], by simp [newK], by simp [newK], by simp [newK], by simp [newK], by simp [newK]⟩
theorem stepV_ok {v : Ck} (h : v.ok) (n : Int) : (stepV v n).ok := by
  unfold stepV
  split
  · next hc =>
    simp only [Bool.and_eq_true, Bool.not_eq_true', timeB, fullB, decide_eq_true_eq, Bool.or_eq_false_iff, decide_eq_false_iff_not] at hc
    obtain ⟨⟨n0, n1⟩, f1, f2⟩ := hc
    obtain ⟨p1, p2, p3, p4⟩ := pay_in (o := v.o) h.s0 h.s1 n0
    have m := most_in h.s0 h.s1 n0
    have := h.h0; have := h.t0; have := h.o0; have := h.o1
    refine ⟨h.s0, h.s1, ?_, ?_, ?_, ?_, ?_, ?_⟩ <;> simp only <;> omega
  · exact h
theorem adjV_ok {v : Ck} (h : v.ok) (n : Int) : (adjV v n).ok := by
  unfold adjV
  split
  · next hc =>
    simp only [owesB, Bool.and_eq_true, decide_eq_true_eq] at hc
    exact ⟨h.s0, h.s1, h.h0, h.h1, h.t0, h.t1, hc.1, hc.2⟩
  · exact h
theorem setV_ok {v : Ck} (h : v.ok) (n : Int) : (setV v n).ok := by
  unfold setV
  split
  · next hc =>
    simp only [timeB, Bool.and_eq_true, decide_eq_true_eq] at hc
    exact ⟨h.s0, h.s1, h.h0, h.h1, hc.1, hc.2, by simp, by simp⟩
  · exact h
/-- What the document pays is the same. -/
theorem pay_ref {s n o : Int} (h0 : 0 ≤ s) (h1 : s ≤ 49) (n0 : 0 ≤ n) : min (max (max o (-(mostN s n))) (-n)) (mostN s n) = payN s n o := by
  have := most_in h0 h1 n0
  unfold payN
  generalize mostN s n = m at *
  omega
end Go.Proofs.Ytddapnceehmgcaa
