/-
  Configs, rounds, cells and times over plain numbers. No program here.
  Cells and times over plain numbers: where a slot begins, in which cell a time lies, the next round of a node. No program here.
  Keys, and the rounds in which they are told, over plain numbers. No program here.
-/
import Derived.Test.YtgncdnejmobjbaaGreatDoorGround
namespace Go.Proofs.YtgncdnejmobjbaaGreatDoor
set_option maxRecDepth 20000

/-- What a config holds. -/
structure Cf where
  n : Int
  f : Int
  s : Int
  d : Int
  k : Int
  e : Int
  v : Int
  r : Int
  l : Int
  p : Int
def Cf.zero : Cf := ⟨0, 0, 0, 0, 0, 0, 0, 0, 0, 0⟩
/-- Its numbers are the language's. -/
def inI (x : Int) : Prop := -9223372036854775808 ≤ x ∧ x ≤ 9223372036854775807
/-- The number from l to m that is nearest to n, as the language's max and min have it. -/
def mxN (a c : Int) : Int := if a < c then c else a
def mnN (b d : Int) : Int := if d < b then d else b
def wiN (n l m : Int) : Int := mnN (mxN n l) m
theorem wi_in {n l m : Int} (h : l ≤ m) : l ≤ wiN n l m ∧ wiN n l m ≤ m := by
  unfold wiN mnN mxN
  split <;> split <;> omega
theorem wi_eq {n l m : Int} (h : l ≤ m) : n = wiN n l m ↔ l ≤ n ∧ n ≤ m := by
  unfold wiN mnN mxN
  split <;> split <;> omega
/-- Is it right, group by group? -/
def nodesB (c : Cf) : Bool := decide (1 ≤ c.n ∧ c.n ≤ 8 ∧ 0 ≤ c.f ∧ 3 * c.f < c.n)
def slotsB (c : Cf) : Bool := decide (300 ≤ c.s ∧ c.s ≤ 10000 ∧ 1 ≤ c.e ∧ c.e ≤ 4 * c.s ∧ 100 ≤ c.v ∧ c.v ≤ 4 * c.s)
def keysB (c : Cf) : Bool := decide (1 ≤ c.d ∧ c.d ≤ 4 ∧ c.d + 4 ≤ c.k ∧ c.k ≤ 256 ∧ 1 ≤ c.p ∧ c.p ≤ 64)
def clocksB (c : Cf) : Bool := decide (0 ≤ c.r ∧ c.r ≤ 5 ∧ 0 ≤ c.l ∧ c.l ≤ 5)
def okB (c : Cf) : Bool := nodesB c && slotsB c && keysB c && clocksB c
/-- Brought within the bounds. -/
def bNodes (c : Cf) : Cf := { c with n := wiN c.n 1 8, f := wiN c.f 0 ((wiN c.n 1 8 - 1).tdiv 3) }
def bSlots (c : Cf) : Cf := { c with s := wiN c.s 300 10000, e := wiN c.e 1 (4 * wiN c.s 300 10000), v := wiN c.v 100 (4 * wiN c.s 300 10000) }
def bKeys (c : Cf) : Cf := { c with d := wiN c.d 1 4, k := wiN c.k (wiN c.d 1 4 + 4) 256, p := wiN c.p 1 64 }
def bClocks (c : Cf) : Cf := { c with r := wiN c.r 0 5, l := wiN c.l 0 5 }
/-- Two configs alike, field by field. -/
def ssameB (a b : Cf) : Bool := a.n == b.n && a.f == b.f && a.s == b.s && a.d == b.d && a.k == b.k && a.e == b.e && a.v == b.v && a.r == b.r && a.l == b.l && a.p == b.p
theorem same_nodes (c : Cf) : ssameB c (bNodes c) = nodesB c := by
  rw [Bool.eq_iff_iff]
  simp only [ssameB, bNodes, nodesB, Bool.and_eq_true, beq_iff_eq, decide_eq_true_eq, and_true]
  have h1 := wi_in (n := c.n) (l := 1) (m := 8) (by omega)
  have h2 := wi_eq (n := c.n) (l := 1) (m := 8) (by omega)
  generalize wiN c.n 1 8 = q at *
  have h3 : (q - 1).tdiv 3 = (q - 1) / 3 := Int.tdiv_eq_ediv_of_nonneg (by omega)
  have h4 := wi_eq (n := c.f) (l := 0) (m := (q - 1).tdiv 3) (by rw [h3]; omega)
  rw [h3] at *
  generalize wiN c.f 0 ((q - 1) / 3) = u at *
  constructor
  · rintro ⟨a, b⟩; have := h2.1 a; have := h4.1 b; omega
  · rintro ⟨a, b, d, e⟩; have := h2.2 ⟨a, b⟩; exact ⟨this, h4.2 (by omega)⟩
theorem same_slots (c : Cf) : ssameB c (bSlots c) = slotsB c := by
  rw [Bool.eq_iff_iff]
  simp only [ssameB, bSlots, slotsB, Bool.and_eq_true, beq_iff_eq, decide_eq_true_eq, and_true, true_and]
  have h1 := wi_in (n := c.s) (l := 300) (m := 10000) (by omega)
  have h2 := wi_eq (n := c.s) (l := 300) (m := 10000) (by omega)
  generalize wiN c.s 300 10000 = q at *
  have h3 := wi_eq (n := c.e) (l := 1) (m := 4 * q) (by omega)
  have h4 := wi_eq (n := c.v) (l := 100) (m := 4 * q) (by omega)
  generalize wiN c.e 1 (4 * q) = u at *
  generalize wiN c.v 100 (4 * q) = t at *
  constructor
  · rintro ⟨⟨a, b⟩, d⟩; have := h2.1 a; have := h3.1 b; have := h4.1 d; omega
  · rintro ⟨a, b, d, e, f, g⟩; have := h2.2 ⟨a, b⟩; exact ⟨⟨this, h3.2 (by omega)⟩, h4.2 (by omega)⟩
theorem same_keys (c : Cf) : ssameB c (bKeys c) = keysB c := by
  rw [Bool.eq_iff_iff]
  simp only [ssameB, bKeys, keysB, Bool.and_eq_true, beq_iff_eq, decide_eq_true_eq, and_true, true_and]
  have h1 := wi_in (n := c.d) (l := 1) (m := 4) (by omega)
  have h2 := wi_eq (n := c.d) (l := 1) (m := 4) (by omega)
  generalize wiN c.d 1 4 = q at *
  have h3 := wi_eq (n := c.k) (l := q + 4) (m := 256) (by omega)
  have h4 := wi_eq (n := c.p) (l := 1) (m := 64) (by omega)
  generalize wiN c.k (q + 4) 256 = u at *
  generalize wiN c.p 1 64 = t at *
  constructor
  · rintro ⟨⟨a, b⟩, d⟩; have := h2.1 a; have := h3.1 b; have := h4.1 d; omega
  · rintro ⟨a, b, d, e, f, g⟩; have := h2.2 ⟨a, b⟩; exact ⟨⟨this, h3.2 (by omega)⟩, h4.2 (by omega)⟩
theorem same_clocks (c : Cf) : ssameB c (bClocks c) = clocksB c := by
  rw [Bool.eq_iff_iff]
  simp only [ssameB, bClocks, clocksB, Bool.and_eq_true, beq_iff_eq, decide_eq_true_eq, and_true, true_and]
  have h2 := wi_eq (n := c.r) (l := 0) (m := 5) (by omega)
  have h3 := wi_eq (n := c.l) (l := 0) (m := 5) (by omega)
  generalize wiN c.r 0 5 = q at *
  generalize wiN c.l 0 5 = u at *
  constructor
  · rintro ⟨a, b⟩; have := h2.1 a; have := h3.1 b; omega
  · rintro ⟨a, b, d, e⟩; exact ⟨h2.2 ⟨a, b⟩, h3.2 ⟨d, e⟩⟩

/-- What a right config keeps to. -/
structure Right (c : Cf) : Prop where
  n0 : 1 ≤ c.n
  n1 : c.n ≤ 8
  f0 : 0 ≤ c.f
  f1 : 3 * c.f < c.n
  s0 : 300 ≤ c.s
  s1 : c.s ≤ 10000
  e0 : 1 ≤ c.e
  e1 : c.e ≤ 4 * c.s
  v0 : 100 ≤ c.v
  v1 : c.v ≤ 4 * c.s
  d0 : 1 ≤ c.d
  d1 : c.d ≤ 4
  k0 : c.d + 4 ≤ c.k
  k1 : c.k ≤ 256
  p0 : 1 ≤ c.p
  p1 : c.p ≤ 64
  r0 : 0 ≤ c.r
  r1 : c.r ≤ 5
  l0 : 0 ≤ c.l
  l1 : c.l ≤ 5
theorem right_of {c : Cf} (h : okB c = true) : Right c := by
  simp only [okB, nodesB, slotsB, keysB, clocksB, Bool.and_eq_true, decide_eq_true_eq] at h
  obtain ⟨⟨⟨⟨a1, a2, a3, a4⟩, b1, b2, b3, b4, b5, b6⟩, c1, c2, c3, c4, c5, c6⟩, d1, d2, d3, d4⟩ := h
  exact ⟨a1, a2, a3, a4, b1, b2, b3, b4, b5, b6, c1, c2, c3, c4, c5, c6, d1, d2, d3, d4⟩

/-- The microticks of a round; how long what is known stays fresh; how long a node listens. -/
def rndN (c : Cf) : Int := if okB c = true then c.n * c.s else 0
def quiN (c : Cf) : Int := if okB c = true then ((2 * rndN c + c.v) * (100 + (c.r + c.l))).tdiv (100 - (c.r + c.l)) + 200 else 0
def upN (a b : Int) : Int := (a + b - 1).tdiv b
def nodeB (c : Cf) (i : Int) : Bool := okB c && decide (0 ≤ i ∧ i < c.n)
def timeB (t : Int) : Bool := decide (0 ≤ t ∧ t ≤ 1099511627776)
def patN (c : Cf) (i : Int) : Int := if nodeB c i = true then 2 * (c.d + 1) + 8 + (c.n - 1 - i) * (6 + upN (quiN c) (rndN c)) else 0

theorem node_ok {c : Cf} {i : Int} (h : nodeB c i = true) : okB c = true ∧ 0 ≤ i ∧ i < c.n := by
  simp only [nodeB, Bool.and_eq_true, decide_eq_true_eq] at h
  exact h
theorem rnd_right {c : Cf} (h : okB c = true) : rndN c = c.n * c.s := by rw [rndN, if_pos h]
theorem rnd_in {c : Cf} (h : okB c = true) : 300 ≤ rndN c ∧ rndN c ≤ 80000 ∧ c.s ≤ rndN c := by
  rw [rnd_right h]
  have g := right_of h
  have h1 := g.n0; have h2 := g.n1; have h3 := g.s0; have h4 := g.s1
  have a1 : 1 * c.s ≤ c.n * c.s := Int.mul_le_mul_of_nonneg_right h1 (by omega)
  have a2 : c.n * c.s ≤ 8 * c.s := Int.mul_le_mul_of_nonneg_right h2 (by omega)
  omega
theorem qui_in {c : Cf} (h : okB c = true) : 2 * rndN c + 300 ≤ quiN c ∧ quiN c ≤ 250000 := by
  have hr := rnd_in h
  have g := right_of h
  have h1 := g.v0; have h2 := g.v1; have h3 := g.s1; have h4 := g.r0; have h5 := g.r1; have h6 := g.l0; have h7 := g.l1
  rw [quiN, if_pos h]
  generalize rndN c = R at *
  generalize hd : c.r + c.l = q at *
  have q0 : 0 ≤ q := by omega
  have q1 : q ≤ 10 := by omega
  have a1 : (2 * R + c.v) * 100 ≤ (2 * R + c.v) * (100 + q) := Int.mul_le_mul_of_nonneg_left (by omega) (by omega)
  have a2 : (2 * R + c.v) * (100 + q) ≤ (2 * R + c.v) * 110 := Int.mul_le_mul_of_nonneg_left (by omega) (by omega)
  generalize (2 * R + c.v) * (100 + q) = X at *
  rw [Int.tdiv_eq_ediv_of_nonneg (by omega)]
  have b1 : 2 * R + c.v ≤ X / (100 - q) := by
    rw [Int.le_ediv_iff_mul_le (by omega)]
    have : (2 * R + c.v) * (100 - q) ≤ (2 * R + c.v) * 100 := Int.mul_le_mul_of_nonneg_left (by omega) (by omega)
    omega
  have b2 : X / (100 - q) ≤ X / 90 := by
    have := Int.ediv_mul_le X (show (100 - q) ≠ 0 by omega)
    have e1 : 0 ≤ X / (100 - q) := Int.ediv_nonneg (by omega) (by omega)
    have e2 : X / (100 - q) * 90 ≤ X / (100 - q) * (100 - q) := Int.mul_le_mul_of_nonneg_left (by omega) e1
    omega
  omega
theorem up_in {a b : Int} (ha : 0 ≤ a + b - 1) (hb : 0 < b) : a ≤ upN a b * b ∧ upN a b * b < a + b ∧ 0 ≤ upN a b ∧ upN a b ≤ a + b - 1 := by
  unfold upN
  rw [Int.tdiv_eq_ediv_of_nonneg ha]
  have h1 := Int.emod_add_mul_ediv (a + b - 1) b
  have h2 := Int.emod_nonneg (a + b - 1) (show b ≠ 0 by omega)
  have h3 := Int.emod_lt_of_pos (a + b - 1) hb
  rw [Int.mul_comm] at h1
  have h4 : 0 ≤ (a + b - 1) / b := Int.ediv_nonneg ha (by omega)
  have h5 : (a + b - 1) / b ≤ a + b - 1 := Int.ediv_le_self _ ha
  omega
end Go.Proofs.YtgncdnejmobjbaaGreatDoor

namespace Go.Proofs.YtgncdnejmobjbaaGreatDoor
set_option maxRecDepth 20000

def cellB (c : Cf) (r s : Int) : Bool := decide (0 ≤ r ∧ r < 1048576) && nodeB c s
def atN (c : Cf) (r s : Int) : Int := r * rndN c + s * c.s
def placeB (c : Cf) (t : Int) : Bool := okB c && timeB t && decide (t / rndN c < 1048576)
def nextN (c : Cf) (i t : Int) : Int := upN (t - i * c.s) (rndN c)
def snextB (c : Cf) (i t : Int) : Bool := nodeB c i && timeB t && decide (nextN c i t < 1048576)

theorem time_in {t : Int} (h : timeB t = true) : 0 ≤ t ∧ t ≤ 1099511627776 := of_decide_eq_true h
theorem cell_ok {c : Cf} {r s : Int} (h : cellB c r s = true) : 0 ≤ r ∧ r < 1048576 ∧ nodeB c s = true := by
  simp only [cellB, Bool.and_eq_true, decide_eq_true_eq] at h
  exact ⟨h.1.1, h.1.2, h.2⟩
theorem place_ok' {c : Cf} {t : Int} (h : placeB c t = true) : okB c = true ∧ 0 ≤ t ∧ t ≤ 1099511627776 ∧ t / rndN c < 1048576 := by
  simp only [placeB, Bool.and_eq_true, decide_eq_true_eq] at h
  have := time_in h.1.2
  exact ⟨h.1.1, this.1, this.2, h.2⟩
theorem next_ok' {c : Cf} {i t : Int} (h : snextB c i t = true) : nodeB c i = true ∧ 0 ≤ t ∧ t ≤ 1099511627776 ∧ nextN c i t < 1048576 := by
  simp only [snextB, Bool.and_eq_true, decide_eq_true_eq] at h
  have := time_in h.1.2
  exact ⟨h.1.1, this.1, this.2, h.2⟩
/-- How far from a round's beginning a slot begins. -/
theorem slot_in {c : Cf} {s : Int} (h : nodeB c s = true) : 0 ≤ s * c.s ∧ s * c.s + c.s ≤ rndN c := by
  obtain ⟨ho, i0, i1⟩ := node_ok h
  have g := right_of ho
  have h3 := g.s0
  rw [rnd_right ho]
  have a1 : 0 ≤ s * c.s := Int.mul_nonneg i0 (by omega)
  have a2 : (s + 1) * c.s ≤ c.n * c.s := Int.mul_le_mul_of_nonneg_right (by omega) (by omega)
  rw [Int.add_mul, Int.one_mul] at a2
  exact ⟨a1, a2⟩
theorem rounds_in {c : Cf} {r : Int} (ho : okB c = true) (h0 : 0 ≤ r) (h1 : r < 1048576) : 0 ≤ r * rndN c ∧ r * rndN c ≤ 83886000000 := by
  have hr := rnd_in ho
  have a1 : 0 ≤ r * rndN c := Int.mul_nonneg h0 (by omega)
  have a2 : r * rndN c ≤ r * 80000 := Int.mul_le_mul_of_nonneg_left (by omega) h0
  omega
theorem at_in {c : Cf} {r s : Int} (h : cellB c r s = true) : 0 ≤ r * rndN c ∧ r * rndN c ≤ 83886000000 ∧ 0 ≤ s * c.s ∧ s * c.s ≤ 80000 ∧ 0 ≤ atN c r s ∧ atN c r s ≤ 83886080000 ∧ 300 ≤ c.s ∧ c.s ≤ 10000 := by
  obtain ⟨r0, r1, hn⟩ := cell_ok h
  have ho := (node_ok hn).1
  have h1 := rounds_in ho r0 r1
  have h2 := slot_in hn
  have h3 := rnd_in ho
  have h4 := (right_of ho).s0
  have h5 := (right_of ho).s1
  unfold atN
  omega

/-- A time as so many rounds, and what is over. -/
theorem parts (t R : Int) (hR : 0 < R) : t = t / R * R + t % R ∧ 0 ≤ t % R ∧ t % R < R := by
  have h1 := Int.emod_add_mul_ediv t R
  rw [Int.mul_comm] at h1
  exact ⟨by omega, Int.emod_nonneg _ (by omega), Int.emod_lt_of_pos _ hR⟩
theorem quo_of {t q r R : Int} (hR : 0 < R) (h : t = q * R + r) (h0 : 0 ≤ r) (h1 : r < R) : t / R = q ∧ t % R = r := by
  rw [h]
  constructor
  · rw [Int.add_comm, Int.add_mul_ediv_right _ _ (by omega), Int.ediv_eq_zero_of_lt h0 h1]; omega
  · rw [Int.add_comm, Int.add_mul_emod_self_right, Int.emod_eq_of_lt h0 h1]
/-- What is over of a slot, by the round or by the time. -/
theorem over_eq {c : Cf} (ho : okB c = true) (t : Int) : (t % rndN c) % c.s = t % c.s := by
  rw [rnd_right ho]
  exact Int.emod_emod_of_dvd t ⟨c.n, Int.mul_comm _ _⟩
theorem slot_of {c : Cf} (ho : okB c = true) (t : Int) : 0 ≤ t % rndN c / c.s ∧ t % rndN c / c.s < c.n := by
  have hr := rnd_in ho
  have g := right_of ho
  have h3 := g.s0
  have h1 := parts t (rndN c) (by omega)
  refine ⟨Int.ediv_nonneg h1.2.1 (by omega), ?_⟩
  rw [Int.ediv_lt_iff_lt_mul (by omega), ← rnd_right ho]
  exact h1.2.2

/-- The cell in which a slot begins. -/
theorem place_at {c : Cf} {r s : Int} (h : cellB c r s = true) : placeB c (atN c r s) = true ∧ atN c r s / rndN c = r ∧ atN c r s % rndN c / c.s = s ∧ atN c r s % c.s = 0 := by
  obtain ⟨r0, r1, hn⟩ := cell_ok h
  obtain ⟨ho, i0, i1⟩ := node_ok hn
  have h1 := at_in h
  have h2 := slot_in hn
  have h3 := rnd_in ho
  have h4 := (right_of ho).s0
  obtain ⟨q1, q2⟩ := quo_of (t := atN c r s) (q := r) (r := s * c.s) (R := rndN c) (by omega) rfl h2.1 (by omega)
  have q3 : atN c r s % rndN c / c.s = s := by rw [q2]; exact Int.mul_ediv_cancel _ (by omega)
  have q4 : atN c r s % c.s = 0 := by rw [← over_eq ho, q2]; exact Int.mul_emod_left _ _
  refine ⟨?_, q1, q3, q4⟩
  simp only [placeB, Bool.and_eq_true, decide_eq_true_eq, timeB]
  exact ⟨⟨ho, by omega, by omega⟩, by omega⟩
/-- A time is its slot's beginning and what is over of it. -/
theorem at_place {c : Cf} {t : Int} (h : placeB c t = true) : cellB c (t / rndN c) (t % rndN c / c.s) = true ∧ atN c (t / rndN c) (t % rndN c / c.s) + t % c.s = t ∧ 0 ≤ t % c.s ∧ t % c.s < c.s := by
  obtain ⟨ho, t0, t1, hq⟩ := place_ok' h
  have h3 := rnd_in ho
  have h4 := (right_of ho).s0
  have hs := slot_of ho t
  have p1 := parts t (rndN c) (by omega)
  have p2 := parts (t % rndN c) c.s (by omega)
  have p3 := parts t c.s (by omega)
  rw [over_eq ho] at p2
  refine ⟨?_, ?_, p3.2.1, p3.2.2⟩
  · simp only [cellB, nodeB, Bool.and_eq_true, decide_eq_true_eq]
    exact ⟨⟨Int.ediv_nonneg t0 (by omega), hq⟩, ho, hs⟩
  · unfold atN; omega
/-- The first round whose slot does not begin ahead of t. -/
theorem next_in {c : Cf} {i t : Int} (hn : nodeB c i = true) (t0 : 0 ≤ t) : 0 ≤ t - i * c.s + rndN c - 1 ∧ t ≤ atN c (nextN c i t) i ∧ atN c (nextN c i t) i < t + rndN c ∧ 0 ≤ nextN c i t ∧ nextN c i t ≤ t + rndN c := by
  have h2 := slot_in hn
  have h3 := rnd_in (node_ok hn).1
  have h4 := (right_of (node_ok hn).1).s0
  have hu := up_in (a := t - i * c.s) (b := rndN c) (by omega) (by omega)
  unfold nextN atN
  omega
/-- .. as the document finds it: in the round of t, or in the one behind it. -/
theorem next_ref {c : Cf} {i t : Int} (hn : nodeB c i = true) (t0 : 0 ≤ t) : nextN c i t = if atN c (t / rndN c) i < t then t / rndN c + 1 else t / rndN c := by
  have h2 := slot_in hn
  have h3 := rnd_in (node_ok hn).1
  have h4 := (right_of (node_ok hn).1).s0
  have p1 := parts t (rndN c) (by omega)
  unfold nextN upN atN
  rw [Int.tdiv_eq_ediv_of_nonneg (by omega)]
  generalize t / rndN c = q at *
  generalize t % rndN c = m at *
  split
  · exact (quo_of (q := q + 1) (r := m - i * c.s - 1) (by omega) (by rw [Int.add_mul, Int.one_mul]; omega) (by omega) (by omega)).1
  · exact (quo_of (q := q) (r := m - i * c.s + rndN c - 1) (by omega) (by omega) (by omega) (by omega)).1
end Go.Proofs.YtgncdnejmobjbaaGreatDoor

namespace Go.Proofs.YtgncdnejmobjbaaGreatDoor
set_option maxRecDepth 20000

def roundB (n : Int) : Bool := decide (0 ≤ n ∧ n < 1048576)
def keyB (c : Cf) (i : Int) : Bool := decide (1 ≤ i ∧ i ≤ c.k)
def sinB (c : Cf) (st r : Int) : Bool := okB c && roundB st && roundB r
def tolN (c : Cf) (x : Int) : Int := mnN (mxN (x - c.d) 0) c.k
def whB (c : Cf) (sl st i : Int) : Bool := okB c && roundB st && keyB c i && cellB c (st + i + c.d) sl
def whN (c : Cf) (sl st i : Int) : Int := atN c (st + i + c.d) sl
def secN (c : Cf) (sl st r m : Int) : Int :=
  if sinB c st r = true then (if keyB c (r - st) = true then (if timeB m = true then (if whB c sl st (r - st) = true then (if whN c sl st (r - st) ≤ m then 12 else 0) else 1) else 1) else 6) else 1
/-- Is a slot a node's? -/
def sltB (c : Cf) (sl : Int) : Bool := decide (0 ≤ sl ∧ sl < c.n)
/-- .. and a slot that is no node is refused ahead of all else. -/
def rsecN (c : Cf) (sl st r m : Int) : Int := if 0 ≤ sl ∧ sl < c.n then secN c sl st r m else 1
def ovB (c : Cf) (st r : Int) : Bool := sinB c st r && decide (c.k - c.d < r - st)
/-- Has key i been told by now? -/
def good (c : Cf) (sl st now i : Int) : Prop := st + i + c.d < 1048576 ∧ whN c sl st i ≤ now
/-- May Known answer a number at all? -/
def knB (c : Cf) (sl st now : Int) : Bool := placeB c now && roundB st && decide (0 ≤ sl ∧ sl < c.n)
/-- n is the greatest index that has been told by now. -/
structure Kn (c : Cf) (sl st now n : Int) : Prop where
  lo : 0 ≤ n
  hi : n ≤ c.k
  told : ∀ i, 1 ≤ i → i ≤ n → good c sl st now i
  next : n < c.k → ¬ good c sl st now (n + 1)

theorem round_in {n : Int} (h : roundB n = true) : 0 ≤ n ∧ n < 1048576 := of_decide_eq_true h
theorem key_in {c : Cf} {i : Int} (h : keyB c i = true) : 1 ≤ i ∧ i ≤ c.k := of_decide_eq_true h
theorem sin_in {c : Cf} {st r : Int} (h : sinB c st r = true) : okB c = true ∧ (0 ≤ st ∧ st < 1048576) ∧ 0 ≤ r ∧ r < 1048576 := by
  simp only [sinB, Bool.and_eq_true] at h
  exact ⟨h.1.1, round_in h.1.2, round_in h.2⟩
theorem wh_in {c : Cf} {sl st i : Int} (h : whB c sl st i = true) : okB c = true ∧ (0 ≤ st ∧ st < 1048576) ∧ (1 ≤ i ∧ i ≤ c.k) ∧ cellB c (st + i + c.d) sl = true := by
  simp only [whB, Bool.and_eq_true] at h
  exact ⟨h.1.1.1, round_in h.1.1.2, key_in h.1.2, h.2⟩
theorem kn_in {c : Cf} {sl st now : Int} (h : knB c sl st now = true) : placeB c now = true ∧ (0 ≤ st ∧ st < 1048576) ∧ 0 ≤ sl ∧ sl < c.n := by
  simp only [knB, Bool.and_eq_true, decide_eq_true_eq] at h
  exact ⟨h.1.1, round_in h.1.2, h.2⟩
/-- Where the round is one, the key's time is one. -/
theorem wh_of {c : Cf} {sl st i : Int} (ho : okB c = true) (h0 : 0 ≤ st) (h1 : st < 1048576) (s0 : 0 ≤ sl) (s1 : sl < c.n) (k0 : 1 ≤ i) (k1 : i ≤ c.k) : whB c sl st i = decide (st + i + c.d < 1048576) := by
  have g := right_of ho
  have hd := g.d0
  have : 0 ≤ st + i + c.d := by omega
  simp [whB, roundB, keyB, cellB, nodeB, ho, h0, h1, s0, s1, k0, k1, this]
/-- Times rise with the keys. -/
theorem wh_rise {c : Cf} (ho : okB c = true) (sl st : Int) {i j : Int} (h : i ≤ j) : whN c sl st i ≤ whN c sl st j := by
  have hr := rnd_in ho
  unfold whN atN
  have : (st + i + c.d) * rndN c ≤ (st + j + c.d) * rndN c := Int.mul_le_mul_of_nonneg_right (by omega) (by omega)
  omega
theorem wh_next {c : Cf} (ho : okB c = true) (sl st i : Int) : whN c sl st i < whN c sl st (i + 1) := by
  have hr := rnd_in ho
  unfold whN atN
  have : (st + (i + 1) + c.d) * rndN c = (st + i + c.d) * rndN c + rndN c := by
    rw [show st + (i + 1) + c.d = (st + i + c.d) + 1 by omega, Int.add_mul, Int.one_mul]
  omega
theorem good_down {c : Cf} (ho : okB c = true) {sl st now i j : Int} (h : i ≤ j) (hg : good c sl st now j) : good c sl st now i :=
  ⟨by have := hg.1; omega, Int.le_trans (wh_rise ho sl st h) hg.2⟩
/-- A key is told, or it is not. -/
theorem Kn.iff {c : Cf} (ho : okB c = true) {sl st now n i : Int} (h : Kn c sl st now n) (k0 : 1 ≤ i) (k1 : i ≤ c.k) : good c sl st now i ↔ i ≤ n := by
  constructor
  · intro hg
    by_cases hlt : i ≤ n
    · exact hlt
    · have h0 := h.lo
      exact absurd (good_down ho (show n + 1 ≤ i by omega) hg) (h.next (by omega))
  · exact h.told i k0
theorem Kn.one {c : Cf} (ho : okB c = true) {sl st now n m : Int} (h : Kn c sl st now n) (h' : Kn c sl st now m) : n = m := by
  have a1 := h.lo; have a2 := h.hi; have b1 := h'.lo; have b2 := h'.hi
  rcases Int.lt_trichotomy n m with hlt | heq | hgt
  · have := (h.iff ho (i := m) (by omega) b2).1 (h'.told m (by omega) (by omega)); omega
  · exact heq
  · have := (h'.iff ho (i := n) (by omega) a2).1 (h.told n (by omega) (by omega)); omega
end Go.Proofs.YtgncdnejmobjbaaGreatDoor
