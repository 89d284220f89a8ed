/-
  Configs, rounds, cells and times over plain numbers. No program here.
-/
import Derived.Test.YtoibndfiolipbaaBase
namespace Go.Proofs.Ytoibndfiolipbaa

/-- What a config holds. -/
structure Cf where
  n : Int
  f : Int
  s : Int
  d : Int
  k : Int
  e : Int
  v : Int
  r : Int
  l : Int
  p : Int
def Cf.zero : Cf := ⟨0, 0, 0, 0, 0, 0, 0, 0, 0, 0⟩
/-- Its numbers are the language's. -/
def inI (x : Int) : Prop := -9223372036854775808 ≤ x ∧ x ≤ 9223372036854775807
/-- The number from l to m that is nearest to n, as the language's max and min have it. -/
def smxN (a c : Int) : Int := if a < c then c else a
def smnN (b d : Int) : Int := if d < b then d else b
def wiN (n l m : Int) : Int := smnN (smxN n l) m
theorem wi_in {n l m : Int} (h : l ≤ m) : l ≤ wiN n l m ∧ wiN n l m ≤ m := by
  unfold wiN smnN smxN
  split <;> split <;> omega
theorem wi_eq {n l m : Int} (h : l ≤ m) : n = wiN n l m ↔ l ≤ n ∧ n ≤ m := by
  unfold wiN smnN smxN
  split <;> split <;> omega
/-- Is it right, group by group? -/
def nodesB (c : Cf) : Bool := decide (1 ≤ c.n ∧ c.n ≤ 8 ∧ 0 ≤ c.f ∧ 3 * c.f < c.n)
def slotsB (c : Cf) : Bool := decide (300 ≤ c.s ∧ c.s ≤ 10000 ∧ 1 ≤ c.e ∧ c.e ≤ 4 * c.s ∧ 100 ≤ c.v ∧ c.v ≤ 4 * c.s)
def keysB (c : Cf) : Bool := decide (1 ≤ c.d ∧ c.d ≤ 4 ∧ c.d + 4 ≤ c.k ∧ c.k ≤ 256 ∧ 1 ≤ c.p ∧ c.p ≤ 64)
def clocksB (c : Cf) : Bool := decide (0 ≤ c.r ∧ c.r ≤ 5 ∧ 0 ≤ c.l ∧ c.l ≤ 5)
def okB (c : Cf) : Bool := nodesB c && slotsB c && keysB c && clocksB c
/-- Brought within the bounds. -/
def bNodes (c : Cf) : Cf := { c with n := wiN c.n 1 8, f := wiN c.f 0 ((wiN c.n 1 8 - 1).tdiv 3) }
def bSlots (c : Cf) : Cf := { c with s := wiN c.s 300 10000, e := wiN c.e 1 (4 * wiN c.s 300 10000), v := wiN c.v 100 (4 * wiN c.s 300 10000) }
def bKeys (c : Cf) : Cf := { c with d := wiN c.d 1 4, k := wiN c.k (wiN c.d 1 4 + 4) 256, p := wiN c.p 1 64 }
def bClocks (c : Cf) : Cf := { c with r := wiN c.r 0 5, l := wiN c.l 0 5 }
/-- Two configs alike, field by field. -/
def sameB (a b : Cf) : Bool := a.n == b.n && a.f == b.f && a.s == b.s && a.d == b.d && a.k == b.k && a.e == b.e && a.v == b.v && a.r == b.r && a.l == b.l && a.p == b.p
theorem same_nodes (c : Cf) : sameB c (bNodes c) = nodesB c := by
  rw [Bool.eq_iff_iff]
  simp only [sameB, bNodes, nodesB, Bool.and_eq_true, beq_iff_eq, decide_eq_true_eq, and_true]
  have h1 := wi_in (n := c.n) (l := 1) (m := 8) (by omega)
  have h2 := wi_eq (n := c.n) (l := 1) (m := 8) (by omega)
  generalize wiN c.n 1 8 = q at *
  have h3 : (q - 1).tdiv 3 = (q - 1) / 3 := Int.tdiv_eq_ediv_of_nonneg (by omega)
  have h4 := wi_eq (n := c.f) (l := 0) (m := (q - 1).tdiv 3) (by rw [h3]; omega)
  rw [h3] at *
  generalize wiN c.f 0 ((q - 1) / 3) = u at *
  constructor
  · rintro ⟨a, b⟩; have := h2.1 a; have := h4.1 b; omega
  · rintro ⟨a, b, d, e⟩; have := h2.2 ⟨a, b⟩; exact ⟨this, h4.2 (by omega)⟩
theorem same_slots (c : Cf) : sameB c (bSlots c) = slotsB c := by
  rw [Bool.eq_iff_iff]
  simp only [sameB, bSlots, slotsB, Bool.and_eq_true, beq_iff_eq, decide_eq_true_eq, and_true, true_and]
  have h1 := wi_in (n := c.s) (l := 300) (m := 10000) (by omega)
  have h2 := wi_eq (n := c.s) (l := 300) (m := 10000) (by omega)
  generalize wiN c.s 300 10000 = q at *
  have h3 := wi_eq (n := c.e) (l := 1) (m := 4 * q) (by omega)
  have h4 := wi_eq (n := c.v) (l := 100) (m := 4 * q) (by omega)
  generalize wiN c.e 1 (4 * q) = u at *
  generalize wiN c.v 100 (4 * q) = t at *
  constructor
  · rintro ⟨⟨a, b⟩, d⟩; have := h2.1 a; have := h3.1 b; have := h4.1 d; omega
  · rintro ⟨a, b, d, e, f, g⟩; have := h2.2 ⟨a, b⟩; exact ⟨⟨this, h3.2 (by omega)⟩, h4.2 (by omega)⟩
theorem same_keys (c : Cf) : sameB c (bKeys c) = keysB c := by
  rw [Bool.eq_iff_iff]
  simp only [sameB, bKeys, keysB, Bool.and_eq_true, beq_iff_eq, decide_eq_true_eq, and_true, true_and]
  have h1 := wi_in (n := c.d) (l := 1) (m := 4) (by omega)
  have h2 := wi_eq (n := c.d) (l := 1) (m := 4) (by omega)
  generalize wiN c.d 1 4 = q at *
  have h3 := wi_eq (n := c.k) (l := q + 4) (m := 256) (by omega)
  have h4 := wi_eq (n := c.p) (l := 1) (m := 64) (by omega)
  generalize wiN c.k (q + 4) 256 = u at *
  generalize wiN c.p 1 64 = t at *
  constructor
  · rintro ⟨⟨a, b⟩, d⟩; have := h2.1 a; have := h3.1 b; have := h4.1 d; omega
  · rintro ⟨a, b, d, e, f, g⟩; have := h2.2 ⟨a, b⟩; exact ⟨⟨this, h3.2 (by omega)⟩, h4.2 (by omega)⟩
theorem same_clocks (c : Cf) : sameB c (bClocks c) = clocksB c := by
  rw [Bool.eq_iff_iff]
  simp only [sameB, bClocks, clocksB, Bool.and_eq_true, beq_iff_eq, decide_eq_true_eq, and_true, true_and]
  have h2 := wi_eq (n := c.r) (l := 0) (m := 5) (by omega)
  have h3 := wi_eq (n := c.l) (l := 0) (m := 5) (by omega)
  generalize wiN c.r 0 5 = q at *
  generalize wiN c.l 0 5 = u at *
  constructor
  · rintro ⟨a, b⟩; have := h2.1 a; have := h3.1 b; omega
  · rintro ⟨a, b, d, e⟩; exact ⟨h2.2 ⟨a, b⟩, h3.2 ⟨d, e⟩⟩

/-- What a right config keeps to. -/
structure Right (c : Cf) : Prop where
  n0 : 1 ≤ c.n
  n1 : c.n ≤ 8
  f0 : 0 ≤ c.f
  f1 : 3 * c.f < c.n
  s0 : 300 ≤ c.s
  s1 : c.s ≤ 10000
  e0 : 1 ≤ c.e
  e1 : c.e ≤ 4 * c.s
  v0 : 100 ≤ c.v
  v1 : c.v ≤ 4 * c.s
  d0 : 1 ≤ c.d
  d1 : c.d ≤ 4
  k0 : c.d + 4 ≤ c.k
  k1 : c.k ≤ 256
  p0 : 1 ≤ c.p
  p1 : c.p ≤ 64
  r0 : 0 ≤ c.r
  r1 : c.r ≤ 5
  l0 : 0 ≤ c.l
  l1 : c.l ≤ 5
theorem right_of {c : Cf} (h : okB c = true) : Right c := by
  simp only [okB, nodesB, slotsB, keysB, clocksB, Bool.and_eq_true, decide_eq_true_eq] at h
  obtain ⟨⟨⟨⟨a1, a2, a3, a4⟩, b1, b2, b3, b4, b5, b6⟩, c1, c2, c3, c4, c5, c6⟩, d1, d2, d3, d4⟩ := h
  exact ⟨a1, a2, a3, a4, b1, b2, b3, b4, b5, b6, c1, c2, c3, c4, c5, c6, d1, d2, d3, d4⟩

/-- The microticks of a round; how long what is known stays fresh; how long a node listens. -/
def rndN (c : Cf) : Int := if okB c = true then c.n * c.s else 0
def quiN (c : Cf) : Int := if okB c = true then ((2 * rndN c + c.v) * (100 + (c.r + c.l))).tdiv (100 - (c.r + c.l)) + 200 else 0
def supN (a b : Int) : Int := (a + b - 1).tdiv b
def nodeB (c : Cf) (i : Int) : Bool := okB c && decide (0 ≤ i ∧ i < c.n)
def timeB (t : Int) : Bool := decide (0 ≤ t ∧ t ≤ 1099511627776)
def patN (c : Cf) (i : Int) : Int := if nodeB c i = true then 2 * (c.d + 1) + 8 + (c.n - 1 - i) * (6 + supN (quiN c) (rndN c)) else 0

theorem node_ok {c : Cf} {i : Int} (h : nodeB c i = true) : okB c = true ∧ 0 ≤ i ∧ i < c.n := by
  simp only [nodeB, Bool.and_eq_true, decide_eq_true_eq] at h
  exact h
theorem rnd_right {c : Cf} (h : okB c = true) : rndN c = c.n * c.s := by rw [rndN, if_pos h]
theorem rnd_in {c : Cf} (h : okB c = true) : 300 ≤ rndN c ∧ rndN c ≤ 80000 ∧ c.s ≤ rndN c := by
  rw [rnd_right h]
  have g := right_of h
  have h1 := g.n0; have h2 := g.n1; have h3 := g.s0; have h4 := g.s1
  have a1 : 1 * c.s ≤ c.n * c.s := Int.mul_le_mul_of_nonneg_right h1 (by omega)
  have a2 : c.n * c.s ≤ 8 * c.s := Int.mul_le_mul_of_nonneg_right h2 (by omega)
  omega
theorem qui_in {c : Cf} (h : okB c = true) : 2 * rndN c + 300 ≤ quiN c ∧ quiN c ≤ 250000 := by
  have hr := rnd_in h
  have g := right_of h
  have h1 := g.v0; have h2 := g.v1; have h3 := g.s1; have h4 := g.r0; have h5 := g.r1; have h6 := g.l0; have h7 := g.l1
  rw [quiN, if_pos h]
  generalize rndN c = R at *
  generalize hd : c.r + c.l = q at *
  have q0 : 0 ≤ q := by omega
  have q1 : q ≤ 10 := by omega
  have a1 : (2 * R + c.v) * 100 ≤ (2 * R + c.v) * (100 + q) := Int.mul_le_mul_of_nonneg_left (by omega) (by omega)
  have a2 : (2 * R + c.v) * (100 + q) ≤ (2 * R + c.v) * 110 := Int.mul_le_mul_of_nonneg_left (by omega) (by omega)
  generalize (2 * R + c.v) * (100 + q) = X at *
  rw [Int.tdiv_eq_ediv_of_nonneg (by omega)]
  have b1 : 2 * R + c.v ≤ X / (100 - q) := by
    rw [Int.le_ediv_iff_mul_le (by omega)]
    have : (2 * R + c.v) * (100 - q) ≤ (2 * R + c.v) * 100 := Int.mul_le_mul_of_nonneg_left (by omega) (by omega)
    omega
  have b2 : X / (100 - q) ≤ X / 90 := by
    have := Int.ediv_mul_le X (show (100 - q) ≠ 0 by omega)
    have e1 : 0 ≤ X / (100 - q) := Int.ediv_nonneg (by omega) (by omega)
    have e2 : X / (100 - q) * 90 ≤ X / (100 - q) * (100 - q) := Int.mul_le_mul_of_nonneg_left (by omega) e1
    omega
  omega
theorem up_in {a b : Int} (ha : 0 ≤ a + b - 1) (hb : 0 < b) : a ≤ supN a b * b ∧ supN a b * b < a + b ∧ 0 ≤ supN a b ∧ supN a b ≤ a + b - 1 := by
  unfold supN
  rw [Int.tdiv_eq_ediv_of_nonneg ha]
  have h1 := Int.emod_add_mul_ediv (a + b - 1) b
  have h2 := Int.emod_nonneg (a + b - 1) (show b ≠ 0 by omega)
  have h3 := Int.emod_lt_of_pos (a + b - 1) hb
  rw [Int.mul_comm] at h1
  have h4 : 0 ≤ (a + b - 1) / b := Int.ediv_nonneg ha (by omega)
  have h5 : (a + b - 1) / b ≤ a + b - 1 := Int.ediv_le_self _ ha
  omega
end Go.Proofs.Ytoibndfiolipbaa
