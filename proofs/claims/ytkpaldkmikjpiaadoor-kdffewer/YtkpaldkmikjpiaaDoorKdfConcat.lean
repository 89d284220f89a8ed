/-
  The contracts of slices.Grow (of a nil slice) and slices.Concat.
-/
import Derived.Test.YtkpaldkmikjpiaaDoorCutsW
import Derived.Lib.AppendZeros
namespace Go.Proofs.YtkpaldkmikjpiaaDoor
open Go.ChangeShapes Go.WideShapes Go.ChangeAt Go.RowKit

set_option maxHeartbeats 800000 in
set_option maxRecDepth 20000 in
theorem grow_nil (w : World) (n : Nat) (h0 : 0 < n) (hn : n ≤ 140737488355328) :
    Calls Tryd.prog 39 #[.slice none 0 0, .int .i64 (n : Int)] w fun e w' => ∃ v, e = .returned v ∧ w'.ownsRow w.heap.size 5 1 v 0 [] ∧ Below w.heap.size w w' := by
  obtain ⟨i5, hi, hz0, hz1, hz2⟩ := info_parts Tryd.info5
  have hrun := Lib.run_append_nil_zeros (P := Tryd.prog) w 22 3 22 5 i5 (.int .u8 0) .i64 .i64 Tryd.underlying22 Tryd.underlying3 hi hz0 n h0 (by rw [hz1]; omega) (by omega) (by rw [hz2]; omega)
  obtain ⟨c, hc⟩ : ∃ c, c = grownCap w n 0 5 := ⟨_, rfl⟩
  rw [← hc] at hrun
  have hcn : n ≤ c := by rw [hc]; exact grownCap_ge w n 0 5
  have hcm : c ≤ maxLen := by rw [hc]; exact grownCap_le_maxLen w n 0 5 (by unfold maxLen; omega)
  obtain ⟨w1, hw1⟩ : ∃ w1, w1 = w.drew.alloc (.cells (Builtin.zeroCells (Value.int .u8 0).cells n ++ Builtin.zeroCells (Value.int .u8 0).cells (c - n)) 5) := ⟨_, rfl⟩
  rw [← hw1] at hrun
  have ho : w1.ownsRow w.heap.size 5 1 (.slice (some ⟨w.heap.size, 0, none⟩) 0 c) 0 [] := by
    rw [hw1]; exact World.ownsRow_made w.drew _ c (Nat.le_refl _) hcm (by simp [Builtin.zeroCells, Value.cells]; omega)
  have hb : Below w.heap.size w w1 := by rw [hw1]; exact (Below.refl _ w).drew.alloc (Nat.le_refl _) _
  have HR : Hid ((Builtin.append_ #[22, 3] 22 #[.slice none 0 0, .int .i64 (n : Int)]).run Tryd.prog w = .ok (.slice (some ⟨w.heap.size, 0, none⟩) n c) w1) := hrun
  clear hrun hw1 hc
  go_enter Tryd.func39, Tryd.ntmps39
  go_wp2_with (at_builtin; refine Lib.wpList_append_run _ rfl _ _ 22 3 rfl _ _ rfl rfl _ _ HR.out ?_)
  go_ret
  exact ⟨_, rfl, ho, hb⟩

/-- A slice of bytes: where it lies, its room, its bytes. -/
abbrev Sl := Option Addr × Nat × List UInt8
/-- All of them, side by side. -/
def flatP (ps : List Sl) : List UInt8 := (ps.map fun p => p.2.2).flatten
theorem flat_take (ps : List Sl) (k : Nat) (p : Sl) (h : ps[k]? = some p) : flatP (ps.take (k + 1)) = flatP (ps.take k) ++ p.2.2 := by
  unfold flatP; rw [List.take_add_one, h]; simp
theorem flat_le (ps : List Sl) (k : Nat) : (flatP (ps.take k)).length ≤ (flatP ps).length := by
  have h : flatP ps = flatP (ps.take k) ++ flatP (ps.drop k) := by
    unfold flatP; rw [← List.flatten_append, ← List.map_append, List.take_append_drop]
  rw [h, List.length_append]; omega

set_option maxHeartbeats 1600000 in
set_option maxRecDepth 20000 in
theorem concat_own (w : World) (g : Nat) (ps : List Sl) (hp : ∀ k p, ps[k]? = some p → w.cell? ⟨g, k, none⟩ = some (.slice p.1 p.2.2.length p.2.1) ∧ Sees w p.1 p.2.1 p.2.2) (hg : g < w.heap.size) (h0 : 0 < (flatP ps).length) (hl : (flatP ps).length ≤ 1000000) (hpl : ps.length ≤ 1000) :
    Calls Tryd.prog 26 #[.slice (some ⟨g, 0, none⟩) ps.length ps.length] w fun e w' => ∃ d cd r, Hid (r = flatP ps) ∧ e = .returned (.slice d r.length cd) ∧ Sees w' d cd r ∧ Below w.heap.size w w' := by
  have HP : Hid (∀ k p, ps[k]? = some p → w.cell? ⟨g, k, none⟩ = some (.slice p.1 p.2.2.length p.2.1) ∧ Sees w p.1 p.2.1 p.2.2) := hp
  have hgr := grow_nil w (flatP ps).length h0 (by omega)
  clear hp
  go_enter Tryd.func26, Tryd.ntmps26
  go_wp2
  go_loop [3, 5, 11] (fun sz _ i => ∃ k m : Nat, k ≤ ps.length ∧ i = .int .i64 (k : Int) ∧ sz = .int .i64 (m : Int) ∧ Hid (m = (flatP (ps.take k)).length) ∧ m ≤ 1000000) (fun _ _ i => ps.length - (intOf i).toNat)
  case atStart => exact ⟨0, 0, Nat.zero_le _, rfl, rfl, by rfl, by omega⟩
  case round =>
    obtain ⟨k, m, hk, rfl, rfl, hm, hm1⟩ := hrel
    by_cases hlt : k < ps.length
    · obtain ⟨p, hpk⟩ : ∃ p, ps[k]? = some p := ⟨ps[k], by simp [hlt]⟩
      obtain ⟨hc, _⟩ := HP.out k p hpk
      have hn : m + p.2.2.length = (flatP (ps.take (k + 1))).length := by rw [flat_take ps k p hpk, List.length_append, ← hm.out]
      have hle : m + p.2.2.length ≤ 1000000 := by rw [hn]; exact Nat.le_trans (flat_le ps (k + 1)) hl
      have HN : Hid (m + p.2.2.length = (flatP (ps.take (k + 1))).length) := hn
      have hneg : ¬ ((m : Int) + (p.2.2.length : Int) < 0) := by omega
      clear hgr hpk hn hm
      go_wp2
      go_round
      case rel => exact ⟨k + 1, m + p.2.2.length, by omega, by go_num, by go_num, HN, hle⟩
      case measure => simp [intOf]; omega
    · obtain rfl : k = ps.length := by omega
      obtain rfl : m = (flatP ps).length := by have := hm.out; rwa [List.take_length] at this
      clear hm hm1
      go_wp2_with fail
      refine hgr.mono ?_
      rintro e w1 ⟨v1, rfl, ho1, hb1⟩
      clear hgr
      go_wp2
      go_loopw [6, 8, 27] (fun u _ i wr => ∃ (k : Nat) (v : Value), k ≤ ps.length ∧ i = .int .i64 (k : Int) ∧ v = u ∧ wr.ownsRow w.heap.size 5 1 v (flatP (ps.take k)).length ((flatP (ps.take k)).map cellOf) ∧ Below w.heap.size w wr) (fun _ _ i _ => ps.length - (intOf i).toNat)
      case atStart => exact ⟨0, _, Nat.zero_le _, rfl, rfl, ho1, hb1⟩
      case round =>
        obtain ⟨k, v, hk, rfl, rfl, own, bel⟩ := hrel
        clear ho1 hb1
        by_cases hlt2 : k < ps.length
        · obtain ⟨p, hpk⟩ : ∃ p, ps[k]? = some p := ⟨ps[k], by simp [hlt2]⟩
          obtain ⟨hc, hs⟩ := HP.out k p hpk
          rw [← bel.cell (p := ⟨g, k, none⟩) hg] at hc
          have hn : flatP (ps.take (k + 1)) = flatP (ps.take k) ++ p.2.2 := flat_take ps k p hpk
          have hle : (flatP (ps.take k)).length + p.2.2.length ≤ 1000000 := by rw [← List.length_append, ← hn]; exact Nat.le_trans (flat_le ps (k + 1)) hl
          obtain ⟨v2, w2, hrun, ho2, hk2⟩ := append_own_any wr w.heap.size v (flatP (ps.take k)) own p.1 p.2.1 p.2.2 (hs.below bel) (by omega) bel.size
          rw [← hn] at ho2
          have hb2 := hk2 _ _ bel (Nat.le_refl _)
          have HR : Hid ((Builtin.append_ #[22, 22] 22 #[v, .slice p.1 p.2.2.length p.2.1]).run Tryd.prog wr = .ok v2 w2) := hrun
          have HO : Hid (w2.ownsRow w.heap.size 5 1 v2 (flatP (ps.take (k + 1))).length ((flatP (ps.take (k + 1))).map cellOf)) := ho2
          clear hrun ho2 hk2 hn hle hs hpk own
          go_wp2_with (at_builtin; refine wpList_append_run rfl _ _ 22 rfl _ _ _ rfl rfl HR.out ?_)
          go_roundw
          case rel => exact ⟨k + 1, v2, by omega, by go_num, rfl, HO.out, hb2⟩
          case measure => simp [intOf]; omega
        · obtain rfl : k = ps.length := by omega
          rw [List.take_length] at own
          obtain ⟨d, cd, rfl, hs⟩ := Sees.of_own own
          obtain ⟨r, hr⟩ : ∃ r, r = flatP ps := ⟨_, rfl⟩
          rw [← hr] at hs ⊢
          have HR : Hid (r = flatP ps) := hr
          clear own hr
          go_wp2
          go_ret
          exact ⟨d, cd, r, HR, rfl, hs, bel⟩
end Go.Proofs.YtkpaldkmikjpiaaDoor
