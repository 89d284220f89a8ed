/-
  The pebbles over plain numbers: which places are kept, how many steps are taken. No program here.
-/
import Derived.Test.YtgncdnejmobjbaaGreatDoorGround
namespace Go.Proofs.YtgncdnejmobjbaaGreatDoor

/-- Places that are kept, the lowest first: they rise from what was told up to the last. -/
def Good (n : Nat) : Nat → List Nat → Prop
  | t, [] => t = n
  | t, p :: l => t < p ∧ Good n p l
theorem Good.le {n : Nat} : ∀ {l : List Nat} {t : Nat}, Good n t l → t ≤ n
  | [], _, h => Nat.le_of_eq h
  | _ :: _, _, h => Nat.le_trans (Nat.le_of_lt h.1) h.2.le
theorem Good.mem {n : Nat} : ∀ {l : List Nat} {t : Nat}, Good n t l → ∀ p ∈ l, t < p ∧ p ≤ n
  | [], _, _, p, hp => by simp at hp
  | q :: l, t, h, p, hp => by
    rcases List.mem_cons.1 hp with rfl | hp
    · exact ⟨h.1, h.2.le⟩
    · have := Good.mem h.2 p hp
      exact ⟨Nat.lt_trans h.1 this.1, this.2⟩
theorem Good.len {n : Nat} : ∀ {l : List Nat} {t : Nat}, Good n t l → t + l.length ≤ n
  | [], _, h => by simp; exact Nat.le_of_eq h
  | _ :: l, t, h => by have h1 := h.1; have := h.2.len; simp; omega
theorem Good.nil_iff {n t : Nat} {l : List Nat} (h : Good n t l) : l = [] ↔ t = n := by
  cases l with
  | nil => exact ⟨fun _ => h, fun _ => rfl⟩
  | cons p l => have h1 := h.1; have := h.2.le; exact ⟨fun e => (by cases e), fun e => absurd e (by omega)⟩

/-- Places are laid till the next one to be told is on top. -/
def layL : Nat → Nat → List Nat → List Nat
  | 0, _, l => l
  | f + 1, t, l => match l with
    | [] => []
    | p :: r => if t + 1 < p then layL f t ((t + (p - t) / 2) :: p :: r) else p :: r
theorem layL_done (f t p : Nat) (r : List Nat) (h : ¬ t + 1 < p) : layL f t (p :: r) = p :: r := by
  cases f with
  | zero => rfl
  | succ f => show (if t + 1 < p then _ else _) = _; rw [if_neg h]
theorem layL_more (f t p : Nat) (r : List Nat) (h : t + 1 < p) : layL (f + 1) t (p :: r) = layL f t ((t + (p - t) / 2) :: p :: r) := by
  show (if t + 1 < p then _ else _) = _; rw [if_pos h]
/-- .. and then it is. -/
theorem layL_top {n : Nat} : ∀ (f t p : Nat) (r : List Nat), Good n t (p :: r) → p ≤ t + f → ∃ r', layL f t (p :: r) = (t + 1) :: r' ∧ Good n (t + 1) r'
  | 0, t, p, r, h, hf => by have := h.1; omega
  | f + 1, t, p, r, h, hf => by
    by_cases hp : t + 1 < p
    · rw [layL_more f t p r hp]
      exact layL_top f t _ _ ⟨by omega, by omega, h.2⟩ (by omega)
    · have h1 := h.1
      have : p = t + 1 := by omega
      subst this
      rw [layL_done _ _ _ _ hp]
      exact ⟨r, rfl, h.2⟩

/-- How many bits a number has. -/
def bitsN (n : Nat) : Nat := if n = 0 then 0 else Nat.log2 n + 1
theorem bitsN_half (n : Nat) (h : 0 < n) : bitsN n = bitsN (n / 2) + 1 := by
  unfold bitsN
  rw [if_neg (by omega), Nat.log2_def]
  by_cases h2 : 2 ≤ n
  · rw [if_pos h2, if_neg (by omega)]
  · rw [if_neg h2, if_pos (by omega)]
theorem bitsN_le : ∀ (n : Nat), bitsN n ≤ n := by
  intro n
  induction n using Nat.strongRecOn with
  | ind n ih =>
    rcases Nat.eq_zero_or_pos n with rfl | h
    · decide
    · rw [bitsN_half n h]; have := ih (n / 2) (by omega); omega

/-- What is told, kept and gone behind a Next. -/
def topN (t : Nat) : List Nat → Nat
  | [] => 0
  | p :: _ => p - t - 1
def nextL (t : Nat) (l : List Nat) : List Nat := (layL 256 t l).tail
def stepN (t k : Nat) (l : List Nat) : Nat := k + topN t l
/-- Few are kept, few steps are taken, at every Next from here on. -/
def few (b : Nat) : Nat → Nat → Nat → List Nat → Bool
  | 0, _, _, _ => true
  | f + 1, t, k, l => decide (stepN t k l ≤ (t + 1) * b) && decide ((nextL t l).length ≤ b + 2) && few b f (t + 1) (stepN t k l) (nextL t l)
def fewAll (n : Nat) : Bool := decide ((layL 256 0 [n]).length ≤ bitsN n + 2) && few (bitsN n) n 0 0 (layL 256 0 [n])
theorem few_all : (List.range 256).all (fun n => fewAll (n + 1)) = true := by decide +kernel
theorem few_at (n : Nat) (h1 : 1 ≤ n) (h2 : n ≤ 256) : (layL 256 0 [n]).length ≤ bitsN n + 2 ∧ few (bitsN n) n 0 0 (layL 256 0 [n]) = true := by
  have h := List.all_eq_true.1 few_all (n - 1) (by simp; omega)
  rw [show n - 1 + 1 = n by omega] at h
  unfold fewAll at h
  rw [Bool.and_eq_true, decide_eq_true_iff] at h
  exact h
theorem few_next (b f t k : Nat) (l : List Nat) (h : few b (f + 1) t k l = true) : stepN t k l ≤ (t + 1) * b ∧ (nextL t l).length ≤ b + 2 ∧ few b f (t + 1) (stepN t k l) (nextL t l) = true := by
  unfold few at h
  rw [Bool.and_eq_true, Bool.and_eq_true, decide_eq_true_iff, decide_eq_true_iff] at h
  exact ⟨h.1.1, h.1.2, h.2⟩
end Go.Proofs.YtgncdnejmobjbaaGreatDoor
