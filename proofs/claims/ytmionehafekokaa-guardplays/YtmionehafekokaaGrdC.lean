/-
  The contract of drop: old rounds are let go.
-/
import Derived.Test.YtmionehafekokaaGrdB
namespace Go.Proofs.Ytmionehafekokaa
open Go.ChangeShapes Go.WideShapes Go.ChangeAt Go.RowKit

theorem list_cases (l : List Int) : l = [] ∨ ∃ a y, l = a ++ [y] := by
  rcases List.eq_nil_or_concat l with h | ⟨a, y, h⟩
  · exact .inl h
  · exact .inr ⟨a, y, by simpa using h⟩
/-- What drop goes through: the rounds that are left. -/
structure Dropping (w : World) (g m : Nat) (a : Option Addr) (cap : Nat) (v : Gs) (l : Int) (n : Nat) (rs os : List Int) (W : World) : Prop where
  gd : Gd W g m (.slice a rs.length cap) { v with os := os } rs n
  keep : keepL os l = keepL v.os l
  all : inL os
  apart : Apart (fun k => k = g ∨ k = m) w W

/-- What drop leaves. -/
def Dropped (w : World) (g m : Nat) (s : Value) (v : Gs) (l : Int) (n : Nat) (w' : World) : Prop := ∃ s' rs', Gd w' g m s' { v with os := keepL v.os l } rs' n ∧ s'.ownBlock = s.ownBlock ∧ Apart (fun k => k = g ∨ k = m) w w'
theorem Dropping.done {w : World} {g m : Nat} {a : Option Addr} {cap : Nat} {v : Gs} {l : Int} {n : Nat} {rs os : List Int} {W : World} (h : Dropping w g m a cap v l n rs os W) (hl : ∀ x ∈ rs, l ≤ x) (k c : Nat) : Dropped w g m (.slice a k c) v l n W := by
  have e := h.gd.tie.done hl
  simp only at e
  have e2 : os = keepL v.os l := by rw [← h.keep, e]
  refine ⟨.slice a rs.length cap, rs, ?_, own_same _ _ _ _ _, h.apart⟩
  rw [← e2]; exact h.gd
/-- One round of it. -/
theorem Dropping.step {w : World} {g m : Nat} {a : Option Addr} {cap : Nat} {v : Gs} {l : Int} {n : Nat} {p os : List Int} {y : Int} {W : World} (h : Dropping w g m a cap v l n (p ++ [y]) os W) (hy : y < l) :
    ∃ w', (Builtin.delete_ #[52, 3] 0 #[.map (some m), .int .i64 y]).run Try.prog W.drew = .ok (.tuple #[]) w' ∧ w'.cell? ⟨g, 14, none⟩ = some (.slice a (p.length + 1) cap) ∧ w'.frozen? ⟨g, 14, none⟩ = false ∧
      Dropping w g m a cap v l n p (os.filter fun x => decide (x ≠ y)) (w'.setCell ⟨g, 14, none⟩ (.slice a p.length cap)) := by
  have hin := h.all y ((h.gd.tie.same y).1 (by simp))
  obtain ⟨w', h1, h2, h3, h4⟩ := h.gd.drew.strike (inI_wf (by omega) (by omega)) 0
  have h5 := h2.rounds
  rw [List.length_append] at h5
  refine ⟨w', h1, h5, h2.fz 14, ⟨h3, (keep_strike hy).trans h.keep, fun x hx => h.all x (List.mem_filter.1 hx).1, ?_⟩⟩
  exact h.apart.drew.trans h4 fun i hi => .inl hi

set_option maxHeartbeats 1600000 in
set_option maxRecDepth 20000 in
theorem drop_ok (w : World) (g m : Nat) (s : Value) (v : Gs) (rs : List Int) (n : Nat) (h : Gd w g m s v rs n) (ha : inL v.os) (l : Int) :
    Calls Try.prog 23 #[.pointer (some ⟨g, 0, none⟩), .int .i64 l] w fun e w' => e = .returned (.tuple #[]) ∧ Dropped w g m s v l n w' := by
  obtain ⟨a, cap, rfl, hcap, hmax, hnil, _⟩ := h.row.shape
  have hcm : cap ≤ 9223372036854775807 := by unfold maxLen at hmax; omega
  have HS : Hid (Dropping w g m a cap v l n rs v.os w) := ⟨h, rfl, ha, Apart.refl _ _⟩
  have c14 := h.at'.rounds
  have e1 : IntKind.i64.wrap ((rs.length : Int) - 1) = (rs.length : Int) - 1 := wrap_in (by omega) (by omega)
  clear h ha hmax
  go_enter Try.func23, Try.ntmps23
  go_wp2
  clear c14 e1 hcap hnil
  go_loopw [4] (fun u wr => ∃ (q os : List Int) (z : Int), u = .int .i64 z ∧ z = (q.length : Int) - 1 ∧ Dropping w g m a cap v l n q os wr) (fun u _ => (intOf u + 1).toNat)
  case atStart => exact ⟨rs, v.os, _, rfl, rfl, HS.out⟩
  case round =>
    obtain ⟨q, os, z, rfl, hz, hd⟩ := hrel
    clear HS
    rcases list_cases q with rfl | ⟨p, y, rfl⟩
    · obtain rfl : z = -1 := hz
      have HE : Hid (Dropped w g m (.slice a rs.length cap) v l n wr) := hd.done (fun x hx => by cases hx) _ _
      clear hd
      go_wp2
      go_end0
      exact ⟨rfl, HE.out⟩
    · obtain ⟨j, hj⟩ : ∃ j, j = p.length := ⟨_, rfl⟩
      obtain rfl : z = (j : Int) := by rw [hz, hj]; simp
      clear hz
      have c14 := hd.gd.at'.rounds
      have c13 := hd.gd.at'.others
      obtain ⟨a', c', es, hf, _, _, hcell⟩ := hd.gd.row.shape
      obtain ⟨b, rfl, cy⟩ : ∃ b, a = some ⟨b, 0, none⟩ ∧ wr.cell? ⟨b, p.length, none⟩ = some (.int .i64 y) := by
        cases es
        exact hcell p.length y (by simp)
      cases es
      clear hcell
      rw [List.length_append, ← hj] at c14 hf
      rw [← hj] at cy
      have hjc : (j : Int) < (cap : Int) := by simp at hf; omega
      have j0 : (0 : Int) ≤ (j : Int) := Int.natCast_nonneg _
      have j1 : (j : Int) < (j : Int) + 1 := by omega
      by_cases hy : y < l
      · obtain ⟨w1, hrun, d14, f14, hn⟩ := hd.step hy
        rw [← hj] at d14 hn
        have HR : Hid ((Builtin.delete_ #[52, 3] 0 #[.map (some m), .int .i64 y]).run Try.prog wr.drew = .ok (.tuple #[]) w1) := hrun
        have HN : Hid (Dropping w g m (some ⟨b, 0, none⟩) cap v l n p (os.filter fun x => decide (x ≠ y)) (w1.setCell ⟨g, 14, none⟩ (.slice (some ⟨b, 0, none⟩) j cap))) := hn
        have HJ : Hid (j = p.length) := hj
        clear hd hrun hn hf hj
        go_wp2
        go_region_law (refine step_delete_run (by kernel_rfl) (.tmp 29) (.tmp 36) 52 3 (by kernel_rfl) (.map (some m)) (.int .i64 y) _ (by kernel_rfl) (by kernel_rfl) HR.out ?_)
        all_goals
          go_wp2
          go_roundw
          case rel => exact ⟨p, _, _, rfl, by rw [← HJ.out], HN.out⟩
          case measure => simp [intOf]
      · have HE : Hid (Dropped w g m (.slice (some ⟨b, 0, none⟩) rs.length cap) v l n wr) := hd.done (hd.gd.tie.low hy) _ _
        clear hd hf hj
        go_wp2
        go_end0
        exact ⟨rfl, HE.out⟩
end Go.Proofs.Ytmionehafekokaa
