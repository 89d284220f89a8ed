/-
  Configs, rounds, cells and times over plain numbers. No program here.
  Cells and times over plain numbers: where a slot begins, in which cell a time lies, the next round of a node. No program here.
  Keys, and the rounds in which they are told, over plain numbers. No program here.
  What waits, as a list; how it is taken out; which cell is the fullest. No program here.
  First come, first told, as lists. No program here.
-/
import Derived.Test.YtahnbljbhfpldaaGreatDoorGround
import Derived.WalkKit
namespace Go.Proofs.YtahnbljbhfpldaaGreatDoor
set_option maxRecDepth 20000

/-- What a config holds. -/
structure Cf where
  n : Int
  f : Int
  s : Int
  d : Int
  k : Int
  e : Int
  v : Int
  r : Int
  l : Int
  p : Int
def Cf.zero : Cf := ⟨0, 0, 0, 0, 0, 0, 0, 0, 0, 0⟩
/-- Its numbers are the language's. -/
def inI (x : Int) : Prop := -9223372036854775808 ≤ x ∧ x ≤ 9223372036854775807
/-- The number from l to m that is nearest to n, as the language's max and min have it. -/
def mxN (a c : Int) : Int := if a < c then c else a
def mnN (b d : Int) : Int := if d < b then d else b
def wiN (n l m : Int) : Int := mnN (mxN n l) m
theorem wi_in {n l m : Int} (h : l ≤ m) : l ≤ wiN n l m ∧ wiN n l m ≤ m := by
  unfold wiN mnN mxN
  split <;> split <;> omega
theorem wi_eq {n l m : Int} (h : l ≤ m) : n = wiN n l m ↔ l ≤ n ∧ n ≤ m := by
  unfold wiN mnN mxN
  split <;> split <;> omega
/-- Is it right, group by group? -/
def nodesB (c : Cf) : Bool := decide (1 ≤ c.n ∧ c.n ≤ 8 ∧ 0 ≤ c.f ∧ 3 * c.f < c.n)
def slotsB (c : Cf) : Bool := decide (300 ≤ c.s ∧ c.s ≤ 10000 ∧ 1 ≤ c.e ∧ c.e ≤ 4 * c.s ∧ 100 ≤ c.v ∧ c.v ≤ 4 * c.s)
def keysB (c : Cf) : Bool := decide (1 ≤ c.d ∧ c.d ≤ 4 ∧ c.d + 4 ≤ c.k ∧ c.k ≤ 256 ∧ 1 ≤ c.p ∧ c.p ≤ 64)
def clocksB (c : Cf) : Bool := decide (0 ≤ c.r ∧ c.r ≤ 5 ∧ 0 ≤ c.l ∧ c.l ≤ 5)
def okB (c : Cf) : Bool := nodesB c && slotsB c && keysB c && clocksB c
/-- Brought within the bounds. -/
def bNodes (c : Cf) : Cf := { c with n := wiN c.n 1 8, f := wiN c.f 0 ((wiN c.n 1 8 - 1).tdiv 3) }
def bSlots (c : Cf) : Cf := { c with s := wiN c.s 300 10000, e := wiN c.e 1 (4 * wiN c.s 300 10000), v := wiN c.v 100 (4 * wiN c.s 300 10000) }
def bKeys (c : Cf) : Cf := { c with d := wiN c.d 1 4, k := wiN c.k (wiN c.d 1 4 + 4) 256, p := wiN c.p 1 64 }
def bClocks (c : Cf) : Cf := { c with r := wiN c.r 0 5, l := wiN c.l 0 5 }
/-- Two configs alike, field by field. -/
def ssameB (a b : Cf) : Bool := a.n == b.n && a.f == b.f && a.s == b.s && a.d == b.d && a.k == b.k && a.e == b.e && a.v == b.v && a.r == b.r && a.l == b.l && a.p == b.p
theorem same_nodes (c : Cf) : ssameB c (bNodes c) = nodesB c := by
  rw [Bool.eq_iff_iff]
  simp only [ssameB, bNodes, nodesB, Bool.and_eq_true, beq_iff_eq, decide_eq_true_eq, and_true]
  have h1 := wi_in (n := c.n) (l := 1) (m := 8) (by omega)
  have h2 := wi_eq (n := c.n) (l := 1) (m := 8) (by omega)
  generalize wiN c.n 1 8 = q at *
  have h3 : (q - 1).tdiv 3 = (q - 1) / 3 := Int.tdiv_eq_ediv_of_nonneg (by omega)
  have h4 := wi_eq (n := c.f) (l := 0) (m := (q - 1).tdiv 3) (by rw [h3]; omega)
  rw [h3] at *
  generalize wiN c.f 0 ((q - 1) / 3) = u at *
  constructor
  · rintro ⟨a, b⟩; have := h2.1 a; have := h4.1 b; omega
  · rintro ⟨a, b, d, e⟩; have := h2.2 ⟨a, b⟩; exact ⟨this, h4.2 (by omega)⟩
theorem same_slots (c : Cf) : ssameB c (bSlots c) = slotsB c := by
  rw [Bool.eq_iff_iff]
  simp only [ssameB, bSlots, slotsB, Bool.and_eq_true, beq_iff_eq, decide_eq_true_eq, and_true, true_and]
  have h1 := wi_in (n := c.s) (l := 300) (m := 10000) (by omega)
  have h2 := wi_eq (n := c.s) (l := 300) (m := 10000) (by omega)
  generalize wiN c.s 300 10000 = q at *
  have h3 := wi_eq (n := c.e) (l := 1) (m := 4 * q) (by omega)
  have h4 := wi_eq (n := c.v) (l := 100) (m := 4 * q) (by omega)
  generalize wiN c.e 1 (4 * q) = u at *
  generalize wiN c.v 100 (4 * q) = t at *
  constructor
  · rintro ⟨⟨a, b⟩, d⟩; have := h2.1 a; have := h3.1 b; have := h4.1 d; omega
  · rintro ⟨a, b, d, e, f, g⟩; have := h2.2 ⟨a, b⟩; exact ⟨⟨this, h3.2 (by omega)⟩, h4.2 (by omega)⟩
theorem same_keys (c : Cf) : ssameB c (bKeys c) = keysB c := by
  rw [Bool.eq_iff_iff]
  simp only [ssameB, bKeys, keysB, Bool.and_eq_true, beq_iff_eq, decide_eq_true_eq, and_true, true_and]
  have h1 := wi_in (n := c.d) (l := 1) (m := 4) (by omega)
  have h2 := wi_eq (n := c.d) (l := 1) (m := 4) (by omega)
  generalize wiN c.d 1 4 = q at *
  have h3 := wi_eq (n := c.k) (l := q + 4) (m := 256) (by omega)
  have h4 := wi_eq (n := c.p) (l := 1) (m := 64) (by omega)
  generalize wiN c.k (q + 4) 256 = u at *
  generalize wiN c.p 1 64 = t at *
  constructor
  · rintro ⟨⟨a, b⟩, d⟩; have := h2.1 a; have := h3.1 b; have := h4.1 d; omega
  · rintro ⟨a, b, d, e, f, g⟩; have := h2.2 ⟨a, b⟩; exact ⟨⟨this, h3.2 (by omega)⟩, h4.2 (by omega)⟩
theorem same_clocks (c : Cf) : ssameB c (bClocks c) = clocksB c := by
  rw [Bool.eq_iff_iff]
  simp only [ssameB, bClocks, clocksB, Bool.and_eq_true, beq_iff_eq, decide_eq_true_eq, and_true, true_and]
  have h2 := wi_eq (n := c.r) (l := 0) (m := 5) (by omega)
  have h3 := wi_eq (n := c.l) (l := 0) (m := 5) (by omega)
  generalize wiN c.r 0 5 = q at *
  generalize wiN c.l 0 5 = u at *
  constructor
  · rintro ⟨a, b⟩; have := h2.1 a; have := h3.1 b; omega
  · rintro ⟨a, b, d, e⟩; exact ⟨h2.2 ⟨a, b⟩, h3.2 ⟨d, e⟩⟩

/-- What a right config keeps to. -/
structure Right (c : Cf) : Prop where
  n0 : 1 ≤ c.n
  n1 : c.n ≤ 8
  f0 : 0 ≤ c.f
  f1 : 3 * c.f < c.n
  s0 : 300 ≤ c.s
  s1 : c.s ≤ 10000
  e0 : 1 ≤ c.e
  e1 : c.e ≤ 4 * c.s
  v0 : 100 ≤ c.v
  v1 : c.v ≤ 4 * c.s
  d0 : 1 ≤ c.d
  d1 : c.d ≤ 4
  k0 : c.d + 4 ≤ c.k
  k1 : c.k ≤ 256
  p0 : 1 ≤ c.p
  p1 : c.p ≤ 64
  r0 : 0 ≤ c.r
  r1 : c.r ≤ 5
  l0 : 0 ≤ c.l
  l1 : c.l ≤ 5
theorem right_of {c : Cf} (h : okB c = true) : Right c := by
  simp only [okB, nodesB, slotsB, keysB, clocksB, Bool.and_eq_true, decide_eq_true_eq] at h
  obtain ⟨⟨⟨⟨a1, a2, a3, a4⟩, b1, b2, b3, b4, b5, b6⟩, c1, c2, c3, c4, c5, c6⟩, d1, d2, d3, d4⟩ := h
  exact ⟨a1, a2, a3, a4, b1, b2, b3, b4, b5, b6, c1, c2, c3, c4, c5, c6, d1, d2, d3, d4⟩

/-- The microticks of a round; how long what is known stays fresh; how long a node listens. -/
def rndN (c : Cf) : Int := if okB c = true then c.n * c.s else 0
def quiN (c : Cf) : Int := if okB c = true then ((2 * rndN c + c.v) * (100 + (c.r + c.l))).tdiv (100 - (c.r + c.l)) + 200 else 0
def upN (a b : Int) : Int := (a + b - 1).tdiv b
def nodeB (c : Cf) (i : Int) : Bool := okB c && decide (0 ≤ i ∧ i < c.n)
def timeB (t : Int) : Bool := decide (0 ≤ t ∧ t ≤ 1099511627776)
def patN (c : Cf) (i : Int) : Int := if nodeB c i = true then 2 * (c.d + 1) + 8 + (c.n - 1 - i) * (6 + upN (quiN c) (rndN c)) else 0

theorem node_ok {c : Cf} {i : Int} (h : nodeB c i = true) : okB c = true ∧ 0 ≤ i ∧ i < c.n := by
  simp only [nodeB, Bool.and_eq_true, decide_eq_true_eq] at h
  exact h
theorem rnd_right {c : Cf} (h : okB c = true) : rndN c = c.n * c.s := by rw [rndN, if_pos h]
theorem rnd_in {c : Cf} (h : okB c = true) : 300 ≤ rndN c ∧ rndN c ≤ 80000 ∧ c.s ≤ rndN c := by
  rw [rnd_right h]
  have g := right_of h
  have h1 := g.n0; have h2 := g.n1; have h3 := g.s0; have h4 := g.s1
  have a1 : 1 * c.s ≤ c.n * c.s := Int.mul_le_mul_of_nonneg_right h1 (by omega)
  have a2 : c.n * c.s ≤ 8 * c.s := Int.mul_le_mul_of_nonneg_right h2 (by omega)
  omega
theorem qui_in {c : Cf} (h : okB c = true) : 2 * rndN c + 300 ≤ quiN c ∧ quiN c ≤ 250000 := by
  have hr := rnd_in h
  have g := right_of h
  have h1 := g.v0; have h2 := g.v1; have h3 := g.s1; have h4 := g.r0; have h5 := g.r1; have h6 := g.l0; have h7 := g.l1
  rw [quiN, if_pos h]
  generalize rndN c = R at *
  generalize hd : c.r + c.l = q at *
  have q0 : 0 ≤ q := by omega
  have q1 : q ≤ 10 := by omega
  have a1 : (2 * R + c.v) * 100 ≤ (2 * R + c.v) * (100 + q) := Int.mul_le_mul_of_nonneg_left (by omega) (by omega)
  have a2 : (2 * R + c.v) * (100 + q) ≤ (2 * R + c.v) * 110 := Int.mul_le_mul_of_nonneg_left (by omega) (by omega)
  generalize (2 * R + c.v) * (100 + q) = X at *
  rw [Int.tdiv_eq_ediv_of_nonneg (by omega)]
  have b1 : 2 * R + c.v ≤ X / (100 - q) := by
    rw [Int.le_ediv_iff_mul_le (by omega)]
    have : (2 * R + c.v) * (100 - q) ≤ (2 * R + c.v) * 100 := Int.mul_le_mul_of_nonneg_left (by omega) (by omega)
    omega
  have b2 : X / (100 - q) ≤ X / 90 := by
    have := Int.ediv_mul_le X (show (100 - q) ≠ 0 by omega)
    have e1 : 0 ≤ X / (100 - q) := Int.ediv_nonneg (by omega) (by omega)
    have e2 : X / (100 - q) * 90 ≤ X / (100 - q) * (100 - q) := Int.mul_le_mul_of_nonneg_left (by omega) e1
    omega
  omega
theorem up_in {a b : Int} (ha : 0 ≤ a + b - 1) (hb : 0 < b) : a ≤ upN a b * b ∧ upN a b * b < a + b ∧ 0 ≤ upN a b ∧ upN a b ≤ a + b - 1 := by
  unfold upN
  rw [Int.tdiv_eq_ediv_of_nonneg ha]
  have h1 := Int.emod_add_mul_ediv (a + b - 1) b
  have h2 := Int.emod_nonneg (a + b - 1) (show b ≠ 0 by omega)
  have h3 := Int.emod_lt_of_pos (a + b - 1) hb
  rw [Int.mul_comm] at h1
  have h4 : 0 ≤ (a + b - 1) / b := Int.ediv_nonneg ha (by omega)
  have h5 : (a + b - 1) / b ≤ a + b - 1 := Int.ediv_le_self _ ha
  omega
end Go.Proofs.YtahnbljbhfpldaaGreatDoor

namespace Go.Proofs.YtahnbljbhfpldaaGreatDoor
set_option maxRecDepth 20000

def cellB (c : Cf) (r s : Int) : Bool := decide (0 ≤ r ∧ r < 1048576) && nodeB c s
def atN (c : Cf) (r s : Int) : Int := r * rndN c + s * c.s
def placeB (c : Cf) (t : Int) : Bool := okB c && timeB t && decide (t / rndN c < 1048576)
def nextN (c : Cf) (i t : Int) : Int := upN (t - i * c.s) (rndN c)
def snextB (c : Cf) (i t : Int) : Bool := nodeB c i && timeB t && decide (nextN c i t < 1048576)

theorem time_in {t : Int} (h : timeB t = true) : 0 ≤ t ∧ t ≤ 1099511627776 := of_decide_eq_true h
theorem cell_ok {c : Cf} {r s : Int} (h : cellB c r s = true) : 0 ≤ r ∧ r < 1048576 ∧ nodeB c s = true := by
  simp only [cellB, Bool.and_eq_true, decide_eq_true_eq] at h
  exact ⟨h.1.1, h.1.2, h.2⟩
theorem place_ok' {c : Cf} {t : Int} (h : placeB c t = true) : okB c = true ∧ 0 ≤ t ∧ t ≤ 1099511627776 ∧ t / rndN c < 1048576 := by
  simp only [placeB, Bool.and_eq_true, decide_eq_true_eq] at h
  have := time_in h.1.2
  exact ⟨h.1.1, this.1, this.2, h.2⟩
theorem next_ok' {c : Cf} {i t : Int} (h : snextB c i t = true) : nodeB c i = true ∧ 0 ≤ t ∧ t ≤ 1099511627776 ∧ nextN c i t < 1048576 := by
  simp only [snextB, Bool.and_eq_true, decide_eq_true_eq] at h
  have := time_in h.1.2
  exact ⟨h.1.1, this.1, this.2, h.2⟩
/-- How far from a round's beginning a slot begins. -/
theorem slot_in {c : Cf} {s : Int} (h : nodeB c s = true) : 0 ≤ s * c.s ∧ s * c.s + c.s ≤ rndN c := by
  obtain ⟨ho, i0, i1⟩ := node_ok h
  have g := right_of ho
  have h3 := g.s0
  rw [rnd_right ho]
  have a1 : 0 ≤ s * c.s := Int.mul_nonneg i0 (by omega)
  have a2 : (s + 1) * c.s ≤ c.n * c.s := Int.mul_le_mul_of_nonneg_right (by omega) (by omega)
  rw [Int.add_mul, Int.one_mul] at a2
  exact ⟨a1, a2⟩
theorem rounds_in {c : Cf} {r : Int} (ho : okB c = true) (h0 : 0 ≤ r) (h1 : r < 1048576) : 0 ≤ r * rndN c ∧ r * rndN c ≤ 83886000000 := by
  have hr := rnd_in ho
  have a1 : 0 ≤ r * rndN c := Int.mul_nonneg h0 (by omega)
  have a2 : r * rndN c ≤ r * 80000 := Int.mul_le_mul_of_nonneg_left (by omega) h0
  omega
theorem at_in {c : Cf} {r s : Int} (h : cellB c r s = true) : 0 ≤ r * rndN c ∧ r * rndN c ≤ 83886000000 ∧ 0 ≤ s * c.s ∧ s * c.s ≤ 80000 ∧ 0 ≤ atN c r s ∧ atN c r s ≤ 83886080000 ∧ 300 ≤ c.s ∧ c.s ≤ 10000 := by
  obtain ⟨r0, r1, hn⟩ := cell_ok h
  have ho := (node_ok hn).1
  have h1 := rounds_in ho r0 r1
  have h2 := slot_in hn
  have h3 := rnd_in ho
  have h4 := (right_of ho).s0
  have h5 := (right_of ho).s1
  unfold atN
  omega

/-- A time as so many rounds, and what is over. -/
theorem parts (t R : Int) (hR : 0 < R) : t = t / R * R + t % R ∧ 0 ≤ t % R ∧ t % R < R := by
  have h1 := Int.emod_add_mul_ediv t R
  rw [Int.mul_comm] at h1
  exact ⟨by omega, Int.emod_nonneg _ (by omega), Int.emod_lt_of_pos _ hR⟩
theorem quo_of {t q r R : Int} (hR : 0 < R) (h : t = q * R + r) (h0 : 0 ≤ r) (h1 : r < R) : t / R = q ∧ t % R = r := by
  rw [h]
  constructor
  · rw [Int.add_comm, Int.add_mul_ediv_right _ _ (by omega), Int.ediv_eq_zero_of_lt h0 h1]; omega
  · rw [Int.add_comm, Int.add_mul_emod_self_right, Int.emod_eq_of_lt h0 h1]
/-- What is over of a slot, by the round or by the time. -/
theorem over_eq {c : Cf} (ho : okB c = true) (t : Int) : (t % rndN c) % c.s = t % c.s := by
  rw [rnd_right ho]
  exact Int.emod_emod_of_dvd t ⟨c.n, Int.mul_comm _ _⟩
theorem slot_of {c : Cf} (ho : okB c = true) (t : Int) : 0 ≤ t % rndN c / c.s ∧ t % rndN c / c.s < c.n := by
  have hr := rnd_in ho
  have g := right_of ho
  have h3 := g.s0
  have h1 := parts t (rndN c) (by omega)
  refine ⟨Int.ediv_nonneg h1.2.1 (by omega), ?_⟩
  rw [Int.ediv_lt_iff_lt_mul (by omega), ← rnd_right ho]
  exact h1.2.2

/-- The cell in which a slot begins. -/
theorem place_at {c : Cf} {r s : Int} (h : cellB c r s = true) : placeB c (atN c r s) = true ∧ atN c r s / rndN c = r ∧ atN c r s % rndN c / c.s = s ∧ atN c r s % c.s = 0 := by
  obtain ⟨r0, r1, hn⟩ := cell_ok h
  obtain ⟨ho, i0, i1⟩ := node_ok hn
  have h1 := at_in h
  have h2 := slot_in hn
  have h3 := rnd_in ho
  have h4 := (right_of ho).s0
  obtain ⟨q1, q2⟩ := quo_of (t := atN c r s) (q := r) (r := s * c.s) (R := rndN c) (by omega) rfl h2.1 (by omega)
  have q3 : atN c r s % rndN c / c.s = s := by rw [q2]; exact Int.mul_ediv_cancel _ (by omega)
  have q4 : atN c r s % c.s = 0 := by rw [← over_eq ho, q2]; exact Int.mul_emod_left _ _
  refine ⟨?_, q1, q3, q4⟩
  simp only [placeB, Bool.and_eq_true, decide_eq_true_eq, timeB]
  exact ⟨⟨ho, by omega, by omega⟩, by omega⟩
/-- A time is its slot's beginning and what is over of it. -/
theorem at_place {c : Cf} {t : Int} (h : placeB c t = true) : cellB c (t / rndN c) (t % rndN c / c.s) = true ∧ atN c (t / rndN c) (t % rndN c / c.s) + t % c.s = t ∧ 0 ≤ t % c.s ∧ t % c.s < c.s := by
  obtain ⟨ho, t0, t1, hq⟩ := place_ok' h
  have h3 := rnd_in ho
  have h4 := (right_of ho).s0
  have hs := slot_of ho t
  have p1 := parts t (rndN c) (by omega)
  have p2 := parts (t % rndN c) c.s (by omega)
  have p3 := parts t c.s (by omega)
  rw [over_eq ho] at p2
  refine ⟨?_, ?_, p3.2.1, p3.2.2⟩
  · simp only [cellB, nodeB, Bool.and_eq_true, decide_eq_true_eq]
    exact ⟨⟨Int.ediv_nonneg t0 (by omega), hq⟩, ho, hs⟩
  · unfold atN; omega
/-- The first round whose slot does not begin ahead of t. -/
theorem next_in {c : Cf} {i t : Int} (hn : nodeB c i = true) (t0 : 0 ≤ t) : 0 ≤ t - i * c.s + rndN c - 1 ∧ t ≤ atN c (nextN c i t) i ∧ atN c (nextN c i t) i < t + rndN c ∧ 0 ≤ nextN c i t ∧ nextN c i t ≤ t + rndN c := by
  have h2 := slot_in hn
  have h3 := rnd_in (node_ok hn).1
  have h4 := (right_of (node_ok hn).1).s0
  have hu := up_in (a := t - i * c.s) (b := rndN c) (by omega) (by omega)
  unfold nextN atN
  omega
/-- .. as the document finds it: in the round of t, or in the one behind it. -/
theorem next_ref {c : Cf} {i t : Int} (hn : nodeB c i = true) (t0 : 0 ≤ t) : nextN c i t = if atN c (t / rndN c) i < t then t / rndN c + 1 else t / rndN c := by
  have h2 := slot_in hn
  have h3 := rnd_in (node_ok hn).1
  have h4 := (right_of (node_ok hn).1).s0
  have p1 := parts t (rndN c) (by omega)
  unfold nextN upN atN
  rw [Int.tdiv_eq_ediv_of_nonneg (by omega)]
  generalize t / rndN c = q at *
  generalize t % rndN c = m at *
  split
  · exact (quo_of (q := q + 1) (r := m - i * c.s - 1) (by omega) (by rw [Int.add_mul, Int.one_mul]; omega) (by omega) (by omega)).1
  · exact (quo_of (q := q) (r := m - i * c.s + rndN c - 1) (by omega) (by omega) (by omega) (by omega)).1
end Go.Proofs.YtahnbljbhfpldaaGreatDoor

namespace Go.Proofs.YtahnbljbhfpldaaGreatDoor
set_option maxRecDepth 20000

def roundB (n : Int) : Bool := decide (0 ≤ n ∧ n < 1048576)
def keyB (c : Cf) (i : Int) : Bool := decide (1 ≤ i ∧ i ≤ c.k)
def sinB (c : Cf) (st r : Int) : Bool := okB c && roundB st && roundB r
def tolN (c : Cf) (x : Int) : Int := mnN (mxN (x - c.d) 0) c.k
def whB (c : Cf) (sl st i : Int) : Bool := okB c && roundB st && keyB c i && cellB c (st + i + c.d) sl
def whN (c : Cf) (sl st i : Int) : Int := atN c (st + i + c.d) sl
def secN (c : Cf) (sl st r m : Int) : Int :=
  if sinB c st r = true then (if keyB c (r - st) = true then (if timeB m = true then (if whB c sl st (r - st) = true then (if whN c sl st (r - st) ≤ m then 12 else 0) else 1) else 1) else 6) else 1
/-- Is a slot a node's? -/
def sltB (c : Cf) (sl : Int) : Bool := decide (0 ≤ sl ∧ sl < c.n)
/-- .. and a slot that is no node is refused ahead of all else. -/
def rsecN (c : Cf) (sl st r m : Int) : Int := if 0 ≤ sl ∧ sl < c.n then secN c sl st r m else 1
def ovB (c : Cf) (st r : Int) : Bool := sinB c st r && decide (c.k - c.d < r - st)
/-- Has key i been told by now? -/
def good (c : Cf) (sl st now i : Int) : Prop := st + i + c.d < 1048576 ∧ whN c sl st i ≤ now
/-- May Known answer a number at all? -/
def knB (c : Cf) (sl st now : Int) : Bool := placeB c now && roundB st && decide (0 ≤ sl ∧ sl < c.n)
/-- n is the greatest index that has been told by now. -/
structure Kn (c : Cf) (sl st now n : Int) : Prop where
  lo : 0 ≤ n
  hi : n ≤ c.k
  told : ∀ i, 1 ≤ i → i ≤ n → good c sl st now i
  next : n < c.k → ¬ good c sl st now (n + 1)

theorem round_in {n : Int} (h : roundB n = true) : 0 ≤ n ∧ n < 1048576 := of_decide_eq_true h
theorem key_in {c : Cf} {i : Int} (h : keyB c i = true) : 1 ≤ i ∧ i ≤ c.k := of_decide_eq_true h
theorem sin_in {c : Cf} {st r : Int} (h : sinB c st r = true) : okB c = true ∧ (0 ≤ st ∧ st < 1048576) ∧ 0 ≤ r ∧ r < 1048576 := by
  simp only [sinB, Bool.and_eq_true] at h
  exact ⟨h.1.1, round_in h.1.2, round_in h.2⟩
theorem wh_in {c : Cf} {sl st i : Int} (h : whB c sl st i = true) : okB c = true ∧ (0 ≤ st ∧ st < 1048576) ∧ (1 ≤ i ∧ i ≤ c.k) ∧ cellB c (st + i + c.d) sl = true := by
  simp only [whB, Bool.and_eq_true] at h
  exact ⟨h.1.1.1, round_in h.1.1.2, key_in h.1.2, h.2⟩
theorem kn_in {c : Cf} {sl st now : Int} (h : knB c sl st now = true) : placeB c now = true ∧ (0 ≤ st ∧ st < 1048576) ∧ 0 ≤ sl ∧ sl < c.n := by
  simp only [knB, Bool.and_eq_true, decide_eq_true_eq] at h
  exact ⟨h.1.1, round_in h.1.2, h.2⟩
/-- Where the round is one, the key's time is one. -/
theorem wh_of {c : Cf} {sl st i : Int} (ho : okB c = true) (h0 : 0 ≤ st) (h1 : st < 1048576) (s0 : 0 ≤ sl) (s1 : sl < c.n) (k0 : 1 ≤ i) (k1 : i ≤ c.k) : whB c sl st i = decide (st + i + c.d < 1048576) := by
  have g := right_of ho
  have hd := g.d0
  have : 0 ≤ st + i + c.d := by omega
  simp [whB, roundB, keyB, cellB, nodeB, ho, h0, h1, s0, s1, k0, k1, this]
/-- Times rise with the keys. -/
theorem wh_rise {c : Cf} (ho : okB c = true) (sl st : Int) {i j : Int} (h : i ≤ j) : whN c sl st i ≤ whN c sl st j := by
  have hr := rnd_in ho
  unfold whN atN
  have : (st + i + c.d) * rndN c ≤ (st + j + c.d) * rndN c := Int.mul_le_mul_of_nonneg_right (by omega) (by omega)
  omega
theorem wh_next {c : Cf} (ho : okB c = true) (sl st i : Int) : whN c sl st i < whN c sl st (i + 1) := by
  have hr := rnd_in ho
  unfold whN atN
  have : (st + (i + 1) + c.d) * rndN c = (st + i + c.d) * rndN c + rndN c := by
    rw [show st + (i + 1) + c.d = (st + i + c.d) + 1 by omega, Int.add_mul, Int.one_mul]
  omega
theorem good_down {c : Cf} (ho : okB c = true) {sl st now i j : Int} (h : i ≤ j) (hg : good c sl st now j) : good c sl st now i :=
  ⟨by have := hg.1; omega, Int.le_trans (wh_rise ho sl st h) hg.2⟩
/-- A key is told, or it is not. -/
theorem Kn.iff {c : Cf} (ho : okB c = true) {sl st now n i : Int} (h : Kn c sl st now n) (k0 : 1 ≤ i) (k1 : i ≤ c.k) : good c sl st now i ↔ i ≤ n := by
  constructor
  · intro hg
    by_cases hlt : i ≤ n
    · exact hlt
    · have h0 := h.lo
      exact absurd (good_down ho (show n + 1 ≤ i by omega) hg) (h.next (by omega))
  · exact h.told i k0
theorem Kn.one {c : Cf} (ho : okB c = true) {sl st now n m : Int} (h : Kn c sl st now n) (h' : Kn c sl st now m) : n = m := by
  have a1 := h.lo; have a2 := h.hi; have b1 := h'.lo; have b2 := h'.hi
  rcases Int.lt_trichotomy n m with hlt | heq | hgt
  · have := (h.iff ho (i := m) (by omega) b2).1 (h'.told m (by omega) (by omega)); omega
  · exact heq
  · have := (h'.iff ho (i := n) (by omega) a2).1 (h.told n (by omega) (by omega)); omega
end Go.Proofs.YtahnbljbhfpldaaGreatDoor

namespace Go.Proofs.YtahnbljbhfpldaaGreatDoor
set_option maxRecDepth 20000

/-- Bytes that wait in a cell. -/
structure It where
  e : Int
  i : Int
  b : List UInt8
abbrev Key := Int × Int
def It.k (x : It) : Key := (x.e, x.i)
def isK (k : Key) (x : It) : Bool := decide (x.k = k)
def lowK (k : Key) (x : It) : Bool := decide (x.e < k.1) || (decide (x.e = k.1) && decide (x.i ≤ k.2))
/-- How many wait of a cell. -/
def cnt (L : List It) (k : Key) : Nat := L.countP (isK k)

/-- The newest m of those that p names, and the rest. -/
def split {α : Type} (p : α → Bool) (m : Nat) : List α → List α × List α
  | [] => ([], [])
  | x :: r => if (split p m r).1.length = m then ((split p m r).1, x :: (split p m r).2) else if p x = true then (x :: (split p m r).1, (split p m r).2) else ((split p m r).1, x :: (split p m r).2)

theorem split_stop {α : Type} (p : α → Bool) (m : Nat) (x : α) (r : List α) (h : (split p m r).1.length = m) : split p m (x :: r) = ((split p m r).1, x :: (split p m r).2) := by simp [split, h]
theorem split_yes {α : Type} (p : α → Bool) (m : Nat) (x : α) (r : List α) (h : (split p m r).1.length ≠ m) (hp : p x = true) : split p m (x :: r) = (x :: (split p m r).1, (split p m r).2) := by simp [split, h, hp]
theorem split_no {α : Type} (p : α → Bool) (m : Nat) (x : α) (r : List α) (hp : p x = false) : split p m (x :: r) = ((split p m r).1, x :: (split p m r).2) := by simp [split, hp]
theorem split_full {α : Type} (p : α → Bool) (m : Nat) (r : List α) (h : (split p m r).1.length = m) : ∀ pre : List α, split p m (pre ++ r) = ((split p m r).1, pre ++ (split p m r).2)
  | [] => by simp
  | x :: pre => by
    have ih := split_full p m r h pre
    rw [List.cons_append, split_stop _ _ _ _ (by rw [ih]; exact h), ih]; rfl
theorem split_len {α : Type} (p : α → Bool) (m : Nat) : ∀ L : List α, (split p m L).1.length + (split p m L).2.length = L.length ∧ (split p m L).1.length ≤ m
  | [] => by simp [split]
  | x :: r => by
    have ih := split_len p m r
    by_cases h : (split p m r).1.length = m
    · rw [split_stop _ _ _ _ h]; simp; omega
    · cases hp : p x
      · rw [split_no _ _ _ _ hp]; simp; omega
      · rw [split_yes _ _ _ _ h hp]; simp; omega
theorem split_all {α : Type} (p : α → Bool) (m : Nat) : ∀ L : List α, L.length ≤ m → split p m L = (L.filter p, L.filter fun x => !p x)
  | [], _ => by simp [split]
  | x :: r, hl => by
    rw [List.length_cons] at hl
    have ih := split_all p m r (by omega)
    have hf : (split p m r).1.length ≠ m := by have := split_len p m r; omega
    cases hp : p x
    · rw [split_no _ _ _ _ hp, ih]; simp [hp]
    · rw [split_yes _ _ _ _ hf hp, ih]; simp [hp]
theorem split_map {α β : Type} (f : α → β) (p : β → Bool) (m : Nat) : ∀ L : List α, split p m (L.map f) = ((split (fun x => p (f x)) m L).1.map f, (split (fun x => p (f x)) m L).2.map f)
  | [] => by simp [split]
  | x :: r => by
    have ih := split_map f p m r
    by_cases h : (split (fun x => p (f x)) m r).1.length = m
    · rw [List.map_cons, split_stop p m (f x) _ (by rw [ih]; simpa using h), split_stop _ _ _ _ h, ih]; simp
    · cases hp : p (f x)
      · rw [List.map_cons, split_no p m (f x) _ hp, split_no (fun x => p (f x)) _ _ _ hp, ih]; simp
      · rw [List.map_cons, split_yes p m (f x) _ (by rw [ih]; simpa using h) hp, split_yes (fun x => p (f x)) _ _ _ h hp, ih]; simp
theorem split_mem {α : Type} (p : α → Bool) (m : Nat) : ∀ (L : List α) (y : α), (y ∈ (split p m L).1 → y ∈ L ∧ p y = true) ∧ (y ∈ (split p m L).2 → y ∈ L)
  | [], y => by simp [split]
  | x :: r, y => by
    have ih := split_mem p m r y
    by_cases h : (split p m r).1.length = m
    · rw [split_stop _ _ _ _ h]
      refine ⟨fun hy => ⟨List.mem_cons_of_mem _ (ih.1 hy).1, (ih.1 hy).2⟩, fun hy => ?_⟩
      rcases List.mem_cons.1 hy with rfl | hy
      · exact List.mem_cons_self
      · exact List.mem_cons_of_mem _ (ih.2 hy)
    · cases hp : p x
      · rw [split_no _ _ _ _ hp]
        refine ⟨fun hy => ⟨List.mem_cons_of_mem _ (ih.1 hy).1, (ih.1 hy).2⟩, fun hy => ?_⟩
        rcases List.mem_cons.1 hy with rfl | hy
        · exact List.mem_cons_self
        · exact List.mem_cons_of_mem _ (ih.2 hy)
      · rw [split_yes _ _ _ _ h hp]
        refine ⟨fun hy => ?_, fun hy => List.mem_cons_of_mem _ (ih.2 hy)⟩
        rcases List.mem_cons.1 hy with rfl | hy
        · exact ⟨List.mem_cons_self, hp⟩
        · exact ⟨List.mem_cons_of_mem _ (ih.1 hy).1, (ih.1 hy).2⟩
/-- What p does not name stays. -/
theorem split_other {α : Type} (p q : α → Bool) (m : Nat) (hq : ∀ x, p x = true → q x = false) : ∀ L : List α, (split p m L).2.filter q = L.filter q
  | [] => by simp [split]
  | x :: r => by
    have ih := split_other p q m hq r
    by_cases h : (split p m r).1.length = m
    · rw [split_stop _ _ _ _ h, List.filter_cons, List.filter_cons, ih]
    · cases hp : p x
      · rw [split_no _ _ _ _ hp, List.filter_cons, List.filter_cons, ih]
      · rw [split_yes _ _ _ _ h hp, List.filter_cons, hq x hp]; simpa using ih
theorem split_none {α : Type} (p : α → Bool) (m : Nat) : ∀ L : List α, L.any p = false → split p m L = ([], L)
  | [], _ => by simp [split]
  | x :: r, h => by
    rw [List.any_cons, Bool.or_eq_false_iff] at h
    rw [split_no _ _ _ _ h.1, split_none p m r h.2]
theorem split_zero {α : Type} (p : α → Bool) (L : List α) : split p 0 L = ([], L) := by
  have := split_full p 0 [] (by simp [split]) L
  simpa [split] using this
/-- The place of the last one that p names. -/
def lastI {α : Type} (p : α → Bool) : List α → Nat
  | [] => 0
  | _ :: r => if r.any p = true then lastI p r + 1 else 0
theorem lastI_lt {α : Type} (p : α → Bool) : ∀ L : List α, L ≠ [] → lastI p L < L.length
  | [], h => absurd rfl h
  | x :: r, _ => by
    rw [lastI]
    split
    · rename_i h
      have := lastI_lt p r (by rintro rfl; simp at h)
      simp; omega
    · simp
theorem lastI_snoc {α : Type} (p : α → Bool) (x : α) : ∀ L : List α, lastI p (L ++ [x]) = if p x = true then L.length else lastI p L
  | [] => by simp [lastI]
  | y :: r => by
    have ih := lastI_snoc p x r
    rw [List.cons_append, lastI, ih]
    cases hp : p x
    · simp [hp, lastI]
    · simp [hp]
theorem split_one {α : Type} (p : α → Bool) : ∀ L : List α, L.any p = true → (split p 1 L).1.length = 1 ∧ (split p 1 L).2 = L.eraseIdx (lastI p L)
  | [], h => by simp at h
  | x :: r, h => by
    by_cases hr : r.any p = true
    · obtain ⟨h1, h2⟩ := split_one p r hr
      rw [split_stop _ _ _ _ h1, lastI, if_pos hr]
      exact ⟨h1, by simp [h2]⟩
    · rw [Bool.not_eq_true] at hr
      have hx : p x = true := by rw [List.any_cons, hr, Bool.or_false] at h; exact h
      have hs := split_none p 1 r hr
      rw [split_yes _ _ _ _ (by rw [hs]; simp) hx, hs, lastI, if_neg (by simp [hr])]
      simp
theorem filter_last {α : Type} (p : α → Bool) : ∀ L : List α, L.any p = true → (split p 1 L).2.filter p = (L.filter p).dropLast
  | [], h => by simp at h
  | x :: r, h => by
    by_cases hr : r.any p = true
    · obtain ⟨h1, _⟩ := split_one p r hr
      have ih := filter_last p r hr
      rw [split_stop _ _ _ _ h1, List.filter_cons, List.filter_cons, ih]
      have hne : r.filter p ≠ [] := by
        intro e
        obtain ⟨y, hy, hpy⟩ := List.any_eq_true.1 hr
        have : y ∈ r.filter p := List.mem_filter.2 ⟨hy, hpy⟩
        rw [e] at this; cases this
      split
      · rw [List.dropLast_cons_of_ne_nil hne]
      · rfl
    · rw [Bool.not_eq_true] at hr
      have hx : p x = true := by rw [List.any_cons, hr, Bool.or_false] at h; exact h
      have hs := split_none p 1 r hr
      have hf : r.filter p = [] := by
        rw [List.filter_eq_nil_iff]
        intro y hy
        have := List.any_eq_false.1 hr y hy
        simpa using this
      rw [split_yes _ _ _ _ (by rw [hs]; simp) hx, hs, List.filter_cons, if_pos hx]
      simp [hf]

theorem isK_iff {k : Key} {x : It} : isK k x = true ↔ x.k = k := by simp [isK]
theorem cnt_append (L M : List It) (k : Key) : cnt (L ++ M) k = cnt L k + cnt M k := by simp [cnt]
theorem cnt_one (x : It) (k : Key) : cnt [x] k = if x.k = k then 1 else 0 := by simp [cnt, isK, List.countP_cons]
theorem cnt_le (L : List It) (k : Key) : cnt L k ≤ L.length := List.countP_le_length
theorem cnt_pos {L : List It} {x : It} (h : x ∈ L) : 1 ≤ cnt L x.k := List.countP_pos_iff.2 ⟨x, h, by simp [isK]⟩
theorem cnt_filter (L : List It) (k : Key) : cnt L k = (L.filter (isK k)).length := by rw [cnt, List.countP_eq_length_filter]
theorem cnt_any {L : List It} {k : Key} : L.any (isK k) = true ↔ 1 ≤ cnt L k := by
  rw [cnt, Nat.succ_le_iff, List.countP_pos_iff, List.any_eq_true]

/-- The first cell with the most, as the program and the document seek it. -/
def fullF (L : List It) (f : Key) (l : List It) : Key := l.foldl (fun f x => if cnt L f < cnt L x.k then x.k else f) f
def full (L : List It) : Key := match L with
  | [] => (0, 0)
  | x :: _ => fullF L x.k L
theorem fullF_nil (L : List It) (f : Key) : fullF L f [] = f := rfl
theorem fullF_snoc (L : List It) (f : Key) (l : List It) (x : It) : fullF L f (l ++ [x]) = if cnt L (fullF L f l) < cnt L x.k then x.k else fullF L f l := by rw [fullF, List.foldl_append]; rfl
theorem fullF_ge (L : List It) : ∀ (l : List It) (f : Key), cnt L f ≤ cnt L (fullF L f l) ∧ (∀ x ∈ l, cnt L x.k ≤ cnt L (fullF L f l)) ∧ (fullF L f l = f ∨ ∃ x ∈ l, fullF L f l = x.k)
  | [], f => by simp [fullF]
  | y :: l, f => by
    by_cases hlt : cnt L f < cnt L y.k
    · have e : fullF L f (y :: l) = fullF L y.k l := by simp only [fullF, List.foldl_cons, if_pos hlt]
      obtain ⟨h1, h2, h3⟩ := fullF_ge L l y.k
      rw [e]
      refine ⟨by omega, fun x hx => ?_, ?_⟩
      · rcases List.mem_cons.1 hx with rfl | hx
        · exact h1
        · exact h2 x hx
      · rcases h3 with h3 | ⟨x, hx, h3⟩
        · exact .inr ⟨y, List.mem_cons_self, h3⟩
        · exact .inr ⟨x, List.mem_cons_of_mem _ hx, h3⟩
    · have e : fullF L f (y :: l) = fullF L f l := by simp only [fullF, List.foldl_cons, if_neg hlt]
      obtain ⟨h1, h2, h3⟩ := fullF_ge L l f
      rw [e]
      refine ⟨h1, fun x hx => ?_, ?_⟩
      · rcases List.mem_cons.1 hx with rfl | hx
        · omega
        · exact h2 x hx
      · rcases h3 with h3 | ⟨x, hx, h3⟩
        · exact .inl h3
        · exact .inr ⟨x, List.mem_cons_of_mem _ hx, h3⟩
theorem full_max {L : List It} (k : Key) (hne : L ≠ []) : cnt L k ≤ cnt L (full L) ∧ ∃ x ∈ L, full L = x.k := by
  cases L with
  | nil => exact absurd rfl hne
  | cons y r =>
    have e : full (y :: r) = fullF (y :: r) y.k (y :: r) := rfl
    obtain ⟨h1, h2, h3⟩ := fullF_ge (y :: r) (y :: r) y.k
    rw [← e] at h1 h2 h3
    constructor
    · by_cases hk : 1 ≤ cnt (y :: r) k
      · obtain ⟨x, hx, hp⟩ := List.any_eq_true.1 (cnt_any.2 hk)
        have := h2 x hx
        rw [isK_iff.1 hp] at this
        exact this
      · omega
    · rcases h3 with h3 | h3
      · exact ⟨y, List.mem_cons_self, h3⟩
      · exact h3

/-- What a buffer holds. -/
structure Bs where
  most : Nat
  lost : Nat
  L : List It
def argB (e i : Int) (x : List UInt8) : Bool := decide (0 ≤ e) && decide (e ≤ 65535) && decide (1 ≤ i) && decide (i ≤ 256) && decide (x.length ≤ 96)
theorem argB_iff {e i : Int} {x : List UInt8} : argB e i x = true ↔ 0 ≤ e ∧ e ≤ 65535 ∧ 1 ≤ i ∧ i ≤ 256 ∧ x.length ≤ 96 := by
  simp [argB, and_assoc]
structure Bs.ok (s : Bs) : Prop where
  lo : 1 ≤ s.most
  hi : s.most ≤ 64
  len : s.L.length ≤ s.most
  arg : ∀ x ∈ s.L, argB x.e x.i x.b = true
def heldB (L : List It) (x : List UInt8) : Bool := L.any fun y => y.b == x
def bputE (s : Bs) (e i : Int) (x : List UInt8) : Int :=
  if argB e i x = false then 1 else if heldB s.L x = true then 4 else if s.L.length = s.most ∧ cnt s.L (e, i) = cnt s.L (full s.L) then 9 else 0
def putV (s : Bs) (e i : Int) (x : List UInt8) : Bs :=
  if argB e i x = false then s else if heldB s.L x = true then s
  else if s.L.length = s.most then
    if cnt s.L (e, i) = cnt s.L (full s.L) then { s with lost := s.lost + 1 } else { s with lost := s.lost + 1, L := (split (isK (full s.L)) 1 s.L).2 ++ [⟨e, i, x⟩] }
  else { s with L := s.L ++ [⟨e, i, x⟩] }
def takeV (s : Bs) (k : Key) : Bs := { s with L := s.L.filter fun x => !isK k x }
def btakeL (s : Bs) (k : Key) : List (List UInt8) := (s.L.filter (isK k)).map It.b
def dropV (s : Bs) (k : Key) : Bs := { s with L := s.L.filter fun x => !lowK k x }
def dropN (s : Bs) (k : Key) : Nat := (s.L.filter (lowK k)).length
theorem Bs.ok.filter {s : Bs} (h : s.ok) (p : It → Bool) : Bs.ok { s with L := s.L.filter p } :=
  ⟨h.lo, h.hi, Nat.le_trans (List.length_filter_le _ _) h.len, fun x hx => h.arg x (List.mem_filter.1 hx).1⟩
theorem takeV_ok {s : Bs} (h : s.ok) (k : Key) : (takeV s k).ok := h.filter _
theorem dropV_ok {s : Bs} (h : s.ok) (k : Key) : (dropV s k).ok := h.filter _
theorem full_any {L : List It} (hne : L ≠ []) : L.any (isK (full L)) = true := by
  obtain ⟨x, hx, e⟩ := (full_max (full L) hne).2
  exact List.any_eq_true.2 ⟨x, hx, isK_iff.2 e.symm⟩
theorem putV_ok {s : Bs} (h : s.ok) (e i : Int) (x : List UInt8) : (putV s e i x).ok := by
  unfold putV
  cases ha : argB e i x
  · simpa using h
  · rw [if_neg (by simp)]
    split
    · exact h
    · have hone : ∀ M : List It, (∀ y ∈ M, y ∈ s.L) → M.length < s.most → Bs.ok { s with L := M ++ [⟨e, i, x⟩] } := fun M hM hl =>
        ⟨h.lo, h.hi, by simp; omega, fun y hy => by
          rcases List.mem_append.1 hy with hy | hy
          · exact h.arg y (hM y hy)
          · rw [List.mem_singleton] at hy; subst hy; exact ha⟩
      split
      · rename_i hfull
        split
        · exact ⟨h.lo, h.hi, h.len, h.arg⟩
        · have hne : s.L ≠ [] := by rintro e; rw [e] at hfull; have := h.lo; simp at hfull; omega
          obtain ⟨h1, _⟩ := split_one _ _ (full_any hne)
          have h2 := (split_len (isK (full s.L)) 1 s.L).1
          have h3 := hone (split (isK (full s.L)) 1 s.L).2 (fun y hy => (split_mem _ _ _ y).2 hy) (by omega)
          exact ⟨h3.lo, h3.hi, h3.len, h3.arg⟩
      · rename_i hfull
        exact hone s.L (fun _ hy => hy) (by have := h.len; omega)
end Go.Proofs.YtahnbljbhfpldaaGreatDoor

namespace Go.Proofs.YtahnbljbhfpldaaGreatDoor
set_option maxRecDepth 20000

/-- What waits of A is the beginning of what was wanted; all of it, or the buffer is full and A has no less than B. -/
structure Ord (s : Bs) (A B : Key) (want : List (List UInt8)) : Prop where
  most : s.most = 64
  keys : ∀ x ∈ s.L, x.k = A ∨ x.k = B
  pre : (s.L.filter (isK A)).map It.b = want.take (cnt s.L A)
  le : cnt s.L A ≤ want.length
  all : cnt s.L A = want.length ∨ (s.L.length = 64 ∧ cnt s.L B ≤ cnt s.L A)
theorem cnt_two {L : List It} {A B : Key} (hAB : A ≠ B) (h : ∀ x ∈ L, x.k = A ∨ x.k = B) : L.length = cnt L A + cnt L B := by
  induction L with
  | nil => rfl
  | cons y r ih =>
    have ih := ih fun x hx => h x (List.mem_cons_of_mem _ hx)
    have e : cnt (y :: r) A = cnt [y] A + cnt r A ∧ cnt (y :: r) B = cnt [y] B + cnt r B := ⟨cnt_append [y] r A, cnt_append [y] r B⟩
    rw [e.1, e.2, List.length_cons, cnt_one, cnt_one]
    rcases h y List.mem_cons_self with hy | hy
    · rw [hy, if_pos rfl, if_neg hAB]; omega
    · rw [hy, if_pos rfl, if_neg (fun e => hAB e.symm)]; omega
theorem Ord.start (A B : Key) : Ord ⟨64, 0, []⟩ A B [] := ⟨rfl, (fun x hx => by cases hx), rfl, Nat.le_refl _, .inl rfl⟩
theorem isK_ne {A B : Key} (h : A ≠ B) : ∀ x : It, isK A x = true → isK B x = false := fun x hx => by
  rw [isK_iff] at hx
  cases hb : isK B x
  · rfl
  · rw [isK_iff] at hb; exact absurd (hx.symm.trans hb) h
theorem heldB_no {L : List It} {x : List UInt8} (h : heldB L x = false) {y : It} (hy : y ∈ L) : y.b ≠ x := by
  intro e
  rw [heldB, List.any_eq_false] at h
  exact h y hy (by simp [e])
theorem Ord.lost {s : Bs} {A B : Key} {want : List (List UInt8)} (h : Ord s A B want) (l : Nat) : Ord { s with lost := l } A B want := ⟨h.most, h.keys, h.pre, h.le, h.all⟩
/-- A list with one more of the wanted cell. -/
theorem ord_more {L L' : List It} {A B : Key} {want : List (List UInt8)} {x : List UInt8} {l : Nat} (hf : L'.filter (isK A) = L.filter (isK A)) (hk : ∀ y ∈ L', y.k = A ∨ y.k = B) (hp : (L.filter (isK A)).map It.b = want.take (cnt L A)) (hn : cnt L A = want.length) :
    Ord ⟨64, l, L' ++ [⟨A.1, A.2, x⟩]⟩ A B (want ++ [x]) := by
  have hc : cnt L' A = cnt L A := by rw [cnt_filter, cnt_filter, hf]
  have hc2 : cnt (L' ++ [⟨A.1, A.2, x⟩]) A = want.length + 1 := by rw [cnt_append, cnt_one, hc, hn, if_pos (show It.k ⟨A.1, A.2, x⟩ = A from rfl)]
  refine ⟨rfl, fun y hy => ?_, ?_, ?_, .inl ?_⟩
  · rcases List.mem_append.1 hy with hy | hy
    · exact hk y hy
    · rw [List.mem_singleton] at hy; subst hy; exact .inl rfl
  · show ((L' ++ [(⟨A.1, A.2, x⟩ : It)]).filter (isK A)).map It.b = (want ++ [x]).take (cnt (L' ++ [⟨A.1, A.2, x⟩]) A)
    rw [hc2, List.filter_append, hf, List.map_append, hp, hn, List.take_of_length_le (Nat.le_refl _), List.take_of_length_le (by simp)]
    simp [isK, It.k]
  · show cnt (L' ++ [⟨A.1, A.2, x⟩]) A ≤ _
    rw [hc2]; simp
  · show cnt (L' ++ [⟨A.1, A.2, x⟩]) A = _
    rw [hc2]; simp
theorem put_cases (s : Bs) (e i : Int) (x : List UInt8) : (bputE s e i x ≠ 0 ∧ putV s e i x = s) ∨ (bputE s e i x ≠ 0 ∧ putV s e i x = { s with lost := s.lost + 1 }) ∨
    (bputE s e i x = 0 ∧ heldB s.L x = false ∧ s.L.length = s.most ∧ cnt s.L (e, i) ≠ cnt s.L (full s.L) ∧ putV s e i x = { s with lost := s.lost + 1, L := (split (isK (full s.L)) 1 s.L).2 ++ [⟨e, i, x⟩] }) ∨
    (bputE s e i x = 0 ∧ heldB s.L x = false ∧ s.L.length ≠ s.most ∧ putV s e i x = { s with L := s.L ++ [⟨e, i, x⟩] }) := by
  cases ha : argB e i x
  · left; simp [bputE, putV, ha]
  · cases hh : heldB s.L x
    · by_cases hf : s.L.length = s.most
      · by_cases hc : cnt s.L (e, i) = cnt s.L (full s.L)
        · right; left; simp [bputE, putV, ha, hh, hf, hc]
        · right; right; left; simp [bputE, putV, ha, hh, hf, hc]
      · right; right; right; simp [bputE, putV, ha, hh, hf]
    · left; simp [bputE, putV, ha, hh]
theorem Ord.putA {s : Bs} {A B : Key} {want : List (List UInt8)} (h : Ord s A B want) (hok : s.ok) (hAB : A ≠ B) (x : List UInt8) :
    (bputE s A.1 A.2 x = 0 → want.any (fun y => y == x) = false ∧ Ord (putV s A.1 A.2 x) A B (want ++ [x])) ∧ (bputE s A.1 A.2 x ≠ 0 → Ord (putV s A.1 A.2 x) A B want) := by
  have hno : heldB s.L x = false → cnt s.L A = want.length → want.any (fun y => y == x) = false := by
    intro hh hn
    have hp := h.pre
    rw [hn, List.take_of_length_le (Nat.le_refl _)] at hp
    rw [List.any_eq_false]
    intro y hy e
    rw [← hp] at hy
    obtain ⟨z, hz, rfl⟩ := List.mem_map.1 hy
    exact heldB_no hh (List.mem_filter.1 hz).1 (by simpa using e)
  rcases put_cases s A.1 A.2 x with ⟨e1, e2⟩ | ⟨e1, e2⟩ | ⟨e1, hh, hf, hc, e2⟩ | ⟨e1, hh, hf, e2⟩
  · exact ⟨fun e => absurd e e1, fun _ => by rw [e2]; exact h⟩
  · exact ⟨fun e => absurd e e1, fun _ => by rw [e2]; exact h.lost _⟩
  · refine ⟨fun _ => ?_, fun e => absurd e1 e⟩
    have hc : cnt s.L A ≠ cnt s.L (full s.L) := hc
    have hne : s.L ≠ [] := by intro e; rw [e] at hf; have := hok.lo; simp at hf; omega
    obtain ⟨hmax, y, hy, hfy⟩ := full_max (L := s.L) A hne
    have hB : full s.L = B := by
      rcases h.keys y hy with e | e
      · rw [hfy, e] at hc; exact absurd rfl hc
      · rw [hfy, e]
    rw [hB] at hc hmax e2
    have hn : cnt s.L A = want.length := by
      rcases h.all with e | ⟨_, e⟩
      · exact e
      · omega
    have := ord_more (l := s.lost + 1) (x := x) (split_other (isK B) (isK A) 1 (isK_ne fun e => hAB e.symm) s.L) (fun y hy => h.keys y ((split_mem _ _ _ y).2 hy)) h.pre hn
    rw [e2]
    exact ⟨hno hh hn, ⟨h.most, this.keys, this.pre, this.le, this.all⟩⟩
  · refine ⟨fun _ => ?_, fun e => absurd e1 e⟩
    have hn : cnt s.L A = want.length := by
      rcases h.all with e | ⟨e, _⟩
      · exact e
      · rw [h.most] at hf; exact absurd e hf
    have := ord_more (L := s.L) (L' := s.L) (l := s.lost) (x := x) rfl h.keys h.pre hn
    rw [e2]
    exact ⟨hno hh hn, ⟨h.most, this.keys, this.pre, this.le, this.all⟩⟩
theorem Ord.putB {s : Bs} {A B : Key} {want : List (List UInt8)} (h : Ord s A B want) (hok : s.ok) (hAB : A ≠ B) (x : List UInt8) : Ord (putV s B.1 B.2 x) A B want := by
  have hone : (List.filter (isK A) [(⟨B.1, B.2, x⟩ : It)]) = [] := by
    rw [List.filter_eq_nil_iff]
    intro y hy
    rw [List.mem_singleton] at hy
    subst hy
    rw [isK_iff]
    exact fun e => hAB e.symm
  have hcA : ∀ M : List It, cnt (M ++ [⟨B.1, B.2, x⟩]) A = cnt M A := fun M => by rw [cnt_filter, cnt_filter, List.filter_append, hone, List.append_nil]
  have hcB : ∀ M : List It, cnt (M ++ [⟨B.1, B.2, x⟩]) B = cnt M B + 1 := fun M => by rw [cnt_append, cnt_one, if_pos (show It.k ⟨B.1, B.2, x⟩ = B from rfl)]
  have hkeys : ∀ M : List It, (∀ y ∈ M, y.k = A ∨ y.k = B) → ∀ y ∈ M ++ [⟨B.1, B.2, x⟩], y.k = A ∨ y.k = B := fun M hM y hy => by
    rcases List.mem_append.1 hy with hy | hy
    · exact hM y hy
    · rw [List.mem_singleton] at hy; subst hy; exact .inr rfl
  rcases put_cases s B.1 B.2 x with ⟨e1, e2⟩ | ⟨e1, e2⟩ | ⟨e1, hh, hf, hc, e2⟩ | ⟨e1, hh, hf, e2⟩
  · rw [e2]; exact h
  · rw [e2]; exact h.lost _
  · rw [e2]
    · have hc : cnt s.L B ≠ cnt s.L (full s.L) := hc
      have hne : s.L ≠ [] := by intro e; rw [e] at hf; have := hok.lo; simp at hf; omega
      obtain ⟨hmax, y, hy, hfy⟩ := full_max (L := s.L) B hne
      have hA : full s.L = A := by
        rcases h.keys y hy with e | e
        · rw [hfy, e]
        · rw [hfy, e] at hc; exact absurd rfl hc
      rw [hA] at hc hmax ⊢
      have hany : s.L.any (isK A) = true := by rw [cnt_any]; omega
      have hfl := filter_last (isK A) s.L hany
      have hl2 := (split_len (isK A) 1 s.L).1
      have hl1 := (split_one (isK A) s.L hany).1
      have hcA' : cnt (split (isK A) 1 s.L).2 A = cnt s.L A - 1 := by rw [cnt_filter, hfl, List.length_dropLast, ← cnt_filter]
      have hcB' : cnt (split (isK A) 1 s.L).2 B = cnt s.L B := by rw [cnt_filter, split_other (isK A) (isK B) 1 (isK_ne hAB), ← cnt_filter]
      have h2 := cnt_two hAB h.keys
      have hm := h.most
      have hle := h.le
      refine ⟨h.most, hkeys _ fun y hy => h.keys y ((split_mem _ _ _ y).2 hy), ?_, ?_, .inr ⟨?_, ?_⟩⟩
      · show ((((split (isK A) 1 s.L).2) ++ [(⟨B.1, B.2, x⟩ : It)]).filter (isK A)).map It.b = want.take (cnt ((split (isK A) 1 s.L).2 ++ [⟨B.1, B.2, x⟩]) A)
        rw [hcA, hcA', List.filter_append, hone, List.append_nil, hfl, List.map_dropLast, h.pre, List.dropLast_eq_take, List.take_take, List.length_take, Nat.min_eq_left hle, Nat.min_eq_left (by omega)]
      · show cnt ((split (isK A) 1 s.L).2 ++ [⟨B.1, B.2, x⟩]) A ≤ _
        rw [hcA, hcA']; omega
      · show ((split (isK A) 1 s.L).2 ++ [(⟨B.1, B.2, x⟩ : It)]).length = 64
        simp; omega
      · show cnt ((split (isK A) 1 s.L).2 ++ [⟨B.1, B.2, x⟩]) B ≤ cnt ((split (isK A) 1 s.L).2 ++ [⟨B.1, B.2, x⟩]) A
        rw [hcA, hcB, hcA', hcB']; omega
  · rw [e2]
    refine ⟨h.most, hkeys _ h.keys, ?_, ?_, .inl ?_⟩
    · show ((s.L ++ [(⟨B.1, B.2, x⟩ : It)]).filter (isK A)).map It.b = want.take (cnt (s.L ++ [⟨B.1, B.2, x⟩]) A)
      rw [hcA, List.filter_append, hone, List.append_nil, h.pre]
    · show cnt (s.L ++ [⟨B.1, B.2, x⟩]) A ≤ _
      rw [hcA]; exact h.le
    · show cnt (s.L ++ [⟨B.1, B.2, x⟩]) A = _
      rw [hcA]
      rcases h.all with e | ⟨e, _⟩
      · exact e
      · rw [h.most] at hf; exact absurd e hf
theorem putV_lost (s : Bs) (e i : Int) (x : List UInt8) : (putV s e i x).lost ≤ s.lost + 1 := by
  unfold putV
  split
  · exact Nat.le_succ _
  · split
    · exact Nat.le_succ _
    · split
      · split <;> exact Nat.le_refl _
      · exact Nat.le_succ _
end Go.Proofs.YtahnbljbhfpldaaGreatDoor
