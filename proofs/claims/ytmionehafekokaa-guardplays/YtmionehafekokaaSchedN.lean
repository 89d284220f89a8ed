/-
  Cells and times over plain numbers: where a slot begins, in which cell a time lies, the next round of a node. No program here.
-/
import Derived.Test.YtmionehafekokaaSchedM
namespace Go.Proofs.Ytmionehafekokaa

def cellB (c : Cf) (r s : Int) : Bool := decide (0 ≤ r ∧ r < 1048576) && nodeB c s
def atN (c : Cf) (r s : Int) : Int := r * rndN c + s * c.s
def placeB (c : Cf) (t : Int) : Bool := okB c && timeB t && decide (t / rndN c < 1048576)
def nextN (c : Cf) (i t : Int) : Int := upN (t - i * c.s) (rndN c)
def nextB (c : Cf) (i t : Int) : Bool := nodeB c i && timeB t && decide (nextN c i t < 1048576)

theorem time_in {t : Int} (h : timeB t = true) : 0 ≤ t ∧ t ≤ 1099511627776 := of_decide_eq_true h
theorem cell_ok {c : Cf} {r s : Int} (h : cellB c r s = true) : 0 ≤ r ∧ r < 1048576 ∧ nodeB c s = true := by
  simp only [cellB, Bool.and_eq_true, decide_eq_true_eq] at h
  exact ⟨h.1.1, h.1.2, h.2⟩
theorem place_ok' {c : Cf} {t : Int} (h : placeB c t = true) : okB c = true ∧ 0 ≤ t ∧ t ≤ 1099511627776 ∧ t / rndN c < 1048576 := by
  simp only [placeB, Bool.and_eq_true, decide_eq_true_eq] at h
  have := time_in h.1.2
  exact ⟨h.1.1, this.1, this.2, h.2⟩
theorem next_ok' {c : Cf} {i t : Int} (h : nextB c i t = true) : nodeB c i = true ∧ 0 ≤ t ∧ t ≤ 1099511627776 ∧ nextN c i t < 1048576 := by
  simp only [nextB, Bool.and_eq_true, decide_eq_true_eq] at h
  have := time_in h.1.2
  exact ⟨h.1.1, this.1, this.2, h.2⟩
/-- How far from a round's beginning a slot begins. -/
theorem slot_in {c : Cf} {s : Int} (h : nodeB c s = true) : 0 ≤ s * c.s ∧ s * c.s + c.s ≤ rndN c := by
  obtain ⟨ho, i0, i1⟩ := node_ok h
  have g := right_of ho
  have h3 := g.s0
  rw [rnd_right ho]
  have a1 : 0 ≤ s * c.s := Int.mul_nonneg i0 (by omega)
  have a2 : (s + 1) * c.s ≤ c.n * c.s := Int.mul_le_mul_of_nonneg_right (by omega) (by omega)
  rw [Int.add_mul, Int.one_mul] at a2
  exact ⟨a1, a2⟩
theorem rounds_in {c : Cf} {r : Int} (ho : okB c = true) (h0 : 0 ≤ r) (h1 : r < 1048576) : 0 ≤ r * rndN c ∧ r * rndN c ≤ 83886000000 := by
  have hr := rnd_in ho
  have a1 : 0 ≤ r * rndN c := Int.mul_nonneg h0 (by omega)
  have a2 : r * rndN c ≤ r * 80000 := Int.mul_le_mul_of_nonneg_left (by omega) h0
  omega
theorem at_in {c : Cf} {r s : Int} (h : cellB c r s = true) : 0 ≤ r * rndN c ∧ r * rndN c ≤ 83886000000 ∧ 0 ≤ s * c.s ∧ s * c.s ≤ 80000 ∧ 0 ≤ atN c r s ∧ atN c r s ≤ 83886080000 ∧ 300 ≤ c.s ∧ c.s ≤ 10000 := by
  obtain ⟨r0, r1, hn⟩ := cell_ok h
  have ho := (node_ok hn).1
  have h1 := rounds_in ho r0 r1
  have h2 := slot_in hn
  have h3 := rnd_in ho
  have h4 := (right_of ho).s0
  have h5 := (right_of ho).s1
  unfold atN
  omega

/-- A time as so many rounds, and what is over. -/
theorem parts (t R : Int) (hR : 0 < R) : t = t / R * R + t % R ∧ 0 ≤ t % R ∧ t % R < R := by
  have h1 := Int.emod_add_mul_ediv t R
  rw [Int.mul_comm] at h1
  exact ⟨by omega, Int.emod_nonneg _ (by omega), Int.emod_lt_of_pos _ hR⟩
theorem quo_of {t q r R : Int} (hR : 0 < R) (h : t = q * R + r) (h0 : 0 ≤ r) (h1 : r < R) : t / R = q ∧ t % R = r := by
  rw [h]
  constructor
  · rw [Int.add_comm, Int.add_mul_ediv_right _ _ (by omega), Int.ediv_eq_zero_of_lt h0 h1]; omega
  · rw [Int.add_comm, Int.add_mul_emod_self_right, Int.emod_eq_of_lt h0 h1]
/-- What is over of a slot, by the round or by the time. -/
theorem over_eq {c : Cf} (ho : okB c = true) (t : Int) : (t % rndN c) % c.s = t % c.s := by
  rw [rnd_right ho]
  exact Int.emod_emod_of_dvd t ⟨c.n, Int.mul_comm _ _⟩
theorem slot_of {c : Cf} (ho : okB c = true) (t : Int) : 0 ≤ t % rndN c / c.s ∧ t % rndN c / c.s < c.n := by
  have hr := rnd_in ho
  have g := right_of ho
  have h3 := g.s0
  have h1 := parts t (rndN c) (by omega)
  refine ⟨Int.ediv_nonneg h1.2.1 (by omega), ?_⟩
  rw [Int.ediv_lt_iff_lt_mul (by omega), ← rnd_right ho]
  exact h1.2.2

/-- The cell in which a slot begins. -/
theorem place_at {c : Cf} {r s : Int} (h : cellB c r s = true) : placeB c (atN c r s) = true ∧ atN c r s / rndN c = r ∧ atN c r s % rndN c / c.s = s ∧ atN c r s % c.s = 0 := by
  obtain ⟨r0, r1, hn⟩ := cell_ok h
  obtain ⟨ho, i0, i1⟩ := node_ok hn
  have h1 := at_in h
  have h2 := slot_in hn
  have h3 := rnd_in ho
  have h4 := (right_of ho).s0
  obtain ⟨q1, q2⟩ := quo_of (t := atN c r s) (q := r) (r := s * c.s) (R := rndN c) (by omega) rfl h2.1 (by omega)
  have q3 : atN c r s % rndN c / c.s = s := by rw [q2]; exact Int.mul_ediv_cancel _ (by omega)
  have q4 : atN c r s % c.s = 0 := by rw [← over_eq ho, q2]; exact Int.mul_emod_left _ _
  refine ⟨?_, q1, q3, q4⟩
  simp only [placeB, Bool.and_eq_true, decide_eq_true_eq, timeB]
  exact ⟨⟨ho, by omega, by omega⟩, by omega⟩
/-- A time is its slot's beginning and what is over of it. -/
theorem at_place {c : Cf} {t : Int} (h : placeB c t = true) : cellB c (t / rndN c) (t % rndN c / c.s) = true ∧ atN c (t / rndN c) (t % rndN c / c.s) + t % c.s = t ∧ 0 ≤ t % c.s ∧ t % c.s < c.s := by
  obtain ⟨ho, t0, t1, hq⟩ := place_ok' h
  have h3 := rnd_in ho
  have h4 := (right_of ho).s0
  have hs := slot_of ho t
  have p1 := parts t (rndN c) (by omega)
  have p2 := parts (t % rndN c) c.s (by omega)
  have p3 := parts t c.s (by omega)
  rw [over_eq ho] at p2
  refine ⟨?_, ?_, p3.2.1, p3.2.2⟩
  · simp only [cellB, nodeB, Bool.and_eq_true, decide_eq_true_eq]
    exact ⟨⟨Int.ediv_nonneg t0 (by omega), hq⟩, ho, hs⟩
  · unfold atN; omega
/-- The first round whose slot does not begin ahead of t. -/
theorem next_in {c : Cf} {i t : Int} (hn : nodeB c i = true) (t0 : 0 ≤ t) : 0 ≤ t - i * c.s + rndN c - 1 ∧ t ≤ atN c (nextN c i t) i ∧ atN c (nextN c i t) i < t + rndN c ∧ 0 ≤ nextN c i t ∧ nextN c i t ≤ t + rndN c := by
  have h2 := slot_in hn
  have h3 := rnd_in (node_ok hn).1
  have h4 := (right_of (node_ok hn).1).s0
  have hu := up_in (a := t - i * c.s) (b := rndN c) (by omega) (by omega)
  unfold nextN atN
  omega
/-- .. as the document finds it: in the round of t, or in the one behind it. -/
theorem next_ref {c : Cf} {i t : Int} (hn : nodeB c i = true) (t0 : 0 ≤ t) : nextN c i t = if atN c (t / rndN c) i < t then t / rndN c + 1 else t / rndN c := by
  have h2 := slot_in hn
  have h3 := rnd_in (node_ok hn).1
  have h4 := (right_of (node_ok hn).1).s0
  have p1 := parts t (rndN c) (by omega)
  unfold nextN upN atN
  rw [Int.tdiv_eq_ediv_of_nonneg (by omega)]
  generalize t / rndN c = q at *
  generalize t % rndN c = m at *
  split
  · exact (quo_of (q := q + 1) (r := m - i * c.s - 1) (by omega) (by rw [Int.add_mul, Int.one_mul]; omega) (by omega) (by omega)).1
  · exact (quo_of (q := q) (r := m - i * c.s + rndN c - 1) (by omega) (by omega) (by omega) (by omega)).1
end Go.Proofs.Ytmionehafekokaa
