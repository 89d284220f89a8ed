/-
  A flood of one cell, as lists. No program here.
-/
import Derived.Test.YteehkekmaikeiaaBufM
namespace Go.Proofs.Yteehkekmaikeiaa

def itA (j : Nat) : It := ⟨0, 1, [1, UInt8.ofNat j]⟩
def floodA (k : Nat) : List It := (List.range k).map itA
theorem floodA_len (k : Nat) : (floodA k).length = k := by simp [floodA]
theorem floodA_key {k : Nat} {x : It} (h : x ∈ floodA k) : x.k = (0, 1) := by
  obtain ⟨j, _, rfl⟩ := List.mem_map.1 h; rfl
theorem floodA_snoc (k : Nat) : floodA (k + 1) = floodA k ++ [itA k] := by simp [floodA, List.range_succ]
/-- One of the first cell is put. -/
theorem first_put {n k : Nat} (hk : k < n) (hk10 : k ≤ 20) : putE ⟨n, 0, floodA k⟩ 0 1 [1, UInt8.ofNat k] = 0 ∧ putV ⟨n, 0, floodA k⟩ 0 1 [1, UInt8.ofNat k] = ⟨n, 0, floodA (k + 1)⟩ := by
  have ha : argB 0 1 [1, UInt8.ofNat k] = true := argB_iff.2 ⟨by omega, by omega, by omega, by omega, by simp⟩
  have hh : heldB (floodA k) [1, UInt8.ofNat k] = false := by
    rw [heldB, List.any_eq_false]
    intro y hy
    obtain ⟨j, hj, rfl⟩ := List.mem_map.1 hy
    rw [List.mem_range] at hj
    intro e
    have e1 : [1, UInt8.ofNat j] = [1, UInt8.ofNat k] := by simpa [itA] using e
    have e2 : UInt8.ofNat j = UInt8.ofNat k := by simpa using e1
    have e3 := congrArg UInt8.toNat e2
    rw [UInt8.toNat_ofNat', UInt8.toNat_ofNat'] at e3
    omega
  have hl : ¬ (floodA k).length = n := by rw [floodA_len]; omega
  constructor
  · rw [putE, if_neg (by rw [ha]; simp), if_neg (by show ¬ heldB (floodA k) _ = true; rw [hh]; simp), if_neg (fun h => hl h.1)]
  · rw [putV, if_neg (by rw [ha]; simp), if_neg (by show ¬ heldB (floodA k) _ = true; rw [hh]; simp), if_neg hl, floodA_snoc]
    rfl

/-- The first cell's all wait, and others of the second. -/
structure Flood (s : Bs) (n k j : Nat) : Prop where
  most : s.most = n
  lost : s.lost ≤ j
  all : ∃ M, s.L = floodA k ++ M ∧ ∀ x ∈ M, x.k = (0, 2)
theorem cnt_zero {M : List It} {k : Key} (h : ∀ x ∈ M, x.k ≠ k) : cnt M k = 0 := by
  rw [cnt, List.countP_eq_zero]
  intro x hx e
  exact h x hx (isK_iff.1 e)
theorem cnt_all {M : List It} {k : Key} (h : ∀ x ∈ M, x.k = k) : cnt M k = M.length := by
  rw [cnt, List.countP_eq_length]
  intro x hx
  exact isK_iff.2 (h x hx)
theorem Flood.put {s : Bs} {n k j : Nat} (h : Flood s n k j) (hok : s.ok) (hk : 2 * k ≤ n) (x : List UInt8) : Flood (putV s 0 2 x) n k (j + 1) := by
  obtain ⟨h1, h2, M, h3, h4⟩ := h
  unfold putV
  cases ha : argB 0 2 x
  · exact ⟨by simpa using h1, by simp; omega, M, by simpa using h3, h4⟩
  · rw [if_neg (by simp)]
    cases hh : heldB s.L x
    · rw [if_neg (by simp)]
      by_cases hf : s.L.length = s.most
      · rw [if_pos hf]
        have hlen : k + M.length = n := by rw [← h1, ← hf, h3, List.length_append, floodA_len]
        have cB : cnt s.L (0, 2) = M.length := by
          rw [h3, cnt_append, cnt_zero (fun y hy => by rw [floodA_key hy]; decide), cnt_all h4, Nat.zero_add]
        have cA : cnt s.L (0, 1) = k := by
          rw [h3, cnt_append, cnt_all (fun y hy => floodA_key hy), floodA_len, cnt_zero (fun y hy => by rw [h4 y hy]; decide), Nat.add_zero]
        have hne : s.L ≠ [] := by intro e; rw [e] at hf; have := hok.lo; simp at hf; omega
        obtain ⟨hmax, y, hy, hfy⟩ := full_max (L := s.L) (0, 2) hne
        have hle : cnt s.L (full s.L) ≤ cnt s.L (0, 2) := by
          rw [hfy]
          rw [h3] at hy
          rcases List.mem_append.1 hy with hy | hy
          · rw [floodA_key hy, cA, cB]; omega
          · rw [h4 y hy]; exact Nat.le_refl _
        rw [if_pos (by omega)]
        exact ⟨h1, by simp only []; omega, M, h3, h4⟩
      · rw [if_neg hf]
        refine ⟨h1, by simp only []; omega, M ++ [⟨0, 2, x⟩], by simp only []; rw [h3, List.append_assoc], fun y hy => ?_⟩
        rcases List.mem_append.1 hy with hy | hy
        · exact h4 y hy
        · rw [List.mem_singleton] at hy; subst hy; rfl
    · exact ⟨by simpa using h1, by simp; omega, M, by simpa using h3, h4⟩
theorem Flood.take {s : Bs} {n k j : Nat} (h : Flood s n k j) : takeL s (0, 1) = (List.range k).map fun j => [1, UInt8.ofNat j] := by
  obtain ⟨h1, h2, M, h3, h4⟩ := h
  rw [takeL, h3, List.filter_append, List.filter_eq_self.2 (fun y hy => isK_iff.2 (floodA_key hy)), List.filter_eq_nil_iff.2 (fun y hy e => by rw [isK_iff, h4 y hy] at e; revert e; decide), List.append_nil, floodA, List.map_map]
  rfl
end Go.Proofs.Yteehkekmaikeiaa
