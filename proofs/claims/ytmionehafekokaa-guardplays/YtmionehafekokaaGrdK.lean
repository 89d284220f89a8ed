/-
  The contract of slices.Insert over numbers: in the midst, without room; and all three together.
-/
import Derived.Test.YtmionehafekokaaGrdJ
namespace Go.Proofs.Ytmionehafekokaa
open Go.ChangeShapes Go.WideShapes Go.ChangeAt Go.RowKit

set_option maxHeartbeats 1600000 in
set_option maxRecDepth 20000 in
theorem insert_grow (w : World) (q : Nat) (rs : List Int) (cur : Array Value) (h1 : w.heap[q]? = some (.cells cur 3 (0, 0))) (hl : rs.length ≤ 1000) (h4 : rs.length ≤ cur.size) (h5 : cur.toList.take rs.length = rs.map (Value.int .i64)) (k : Nat) (hk : k < rs.length) (x : Int) (c : Nat)
    (hx : w.cell? ⟨c, 0, none⟩ = some (.int .i64 x)) :
    Calls Try.prog 33 #[.slice (some ⟨q, 0, none⟩) rs.length rs.length, .int .i64 (k : Int), .slice (some ⟨c, 0, none⟩) 1 1] w fun e w' => Ins w (.slice (some ⟨q, 0, none⟩) rs.length rs.length) rs k x e w' := by
  obtain ⟨i, hi, hz0, hz1, hz2⟩ := info_parts info3
  have hm : (1001 : Nat) < maxLen := by decide
  have hr : RsAt w (.slice (some ⟨q, 0, none⟩) rs.length rs.length) rs := .inr ⟨q, _, cur, rfl, h1, Nat.le_refl _, by omega, h4, h5⟩
  have hq : q < w.heap.size := (Array.getElem?_eq_some_iff.1 h1).1
  have hcl : c < w.heap.size := World.block_lt_of_cell? w _ hx
  -- room for all
  have g0 := run_append_grow_zeros (P := Try.prog) w 42 3 42 3 i (.int .i64 0) .i64 .i64 u42 Try.underlying3 hi hz0 ⟨q, 0, none⟩ k rs.length ((rs.take k).map (Value.int .i64)) (by rw [hz1]; simp; omega) (by
    intro j v hj
    rw [Addr.add_lit, Nat.zero_add]
    refine hr.cells.2 j v ?_
    rw [List.map_take, List.getElem?_take] at hj
    split at hj
    · exact hj
    · cases hj) (rs.length + 1 - k) (by rw [hz1]; omega) (by omega) (by omega) (by omega) (by rw [hz2]; omega) (growslice_fits (by omega) (by rw [hz2]; omega))
  have ekn : k + (rs.length + 1 - k) = rs.length + 1 := by omega
  rw [ekn] at g0
  obtain ⟨cap, hcap⟩ : ∃ cap, cap = grownCap w (rs.length + 1) rs.length 3 := ⟨_, rfl⟩
  rw [← hcap] at g0
  have hge : rs.length + 1 ≤ cap := by rw [hcap]; exact grownCap_ge w _ _ 3
  have hcm : cap ≤ maxLen := by rw [hcap]; exact grownCap_le_maxLen w _ _ 3 (by omega)
  obtain ⟨c0, hc0⟩ : ∃ c0, c0 = ((rs.take k).map (Value.int .i64)).toArray ++ Builtin.zeroCells (Value.int .i64 0).cells (rs.length + 1 - k) ++ Builtin.zeroCells (Value.int .i64 0).cells (cap - (rs.length + 1)) := ⟨_, rfl⟩
  rw [← hc0] at g0
  obtain ⟨w0, hw0⟩ : ∃ w0, w0 = w.drew.alloc (.cells c0 3) := ⟨_, rfl⟩
  rw [← hw0] at g0
  have b0 : w0.heap[w.heap.size]? = some (.cells c0 3 (0, 0)) := by rw [hw0]; exact heap_alloc_new w.drew _
  have z0 : c0.size = cap := by rw [hc0]; simp [Builtin.zeroCells, Value.cells]; omega
  have a0 : Below w.heap.size w w0 := by rw [hw0]; exact (Below.refl _ w).drew.alloc (Nat.le_refl _) _
  have ox : w0.cell? ⟨c, 0, none⟩ = some (.int .i64 x) := by rw [a0.cell (p := ⟨c, 0, none⟩) hcl]; exact hx
  -- the new one
  have g1 := run_copy_row Try.prog w0 42 42 3 3 w.heap.size k (rs.length + 1 - k) (cap - k) ⟨c, 0, none⟩ 1 1 c0 3 [.int .i64 x] u42 i42 b0 (by show 1 = min _ _; omega) (one_cell ox) (by simp; omega) (by simp [Value.oneCell'])
  obtain ⟨c1, hc1⟩ : ∃ c1, c1 = (c0.toList.take k ++ [Value.int .i64 x] ++ c0.toList.drop (k + [Value.int .i64 x].length)).toArray := ⟨_, rfl⟩
  rw [← hc1] at g1
  obtain ⟨w1, hw1⟩ : ∃ w1, w1 = w0.setRow w.heap.size c1 := ⟨_, rfl⟩
  rw [← hw1] at g1
  have b1 : w1.heap[w.heap.size]? = some (.cells c1 3 (0, 0)) := by rw [hw1]; exact setRow_heap w0 _ c0 _ 3 _ b0
  have z1 : c1.size = cap := by rw [hc1]; simp; omega
  have a1 : Below w.heap.size w w1 := by rw [hw1]; exact below_setRow a0 (Nat.le_refl _) _
  -- the tail behind it
  have hr1 : RsAt w1.drew (.slice (some ⟨q, 0, none⟩) rs.length rs.length) rs := hr.keep (w' := w1.drew) fun j hj => by cases hj; exact a1.block q hq
  have g2 := run_copy_row Try.prog w1.drew 42 42 3 3 w.heap.size (k + 1) (rs.length - k) (cap - (k + 1)) ⟨q, k, none⟩ (rs.length - k) (rs.length - k) c1 3 ((rs.drop k).map (Value.int .i64)) u42 i42 b1 (by rw [List.length_map, List.length_drop]; show _ = min _ _; omega) (by
    intro j v hj
    rw [Addr.add_lit]
    refine hr1.cells.2 (k + j) v ?_
    rw [← hj]; simp [List.getElem?_map, List.getElem?_drop]) (by simp; omega) (ints_one _)
  have hlen : ((rs.drop k).map (Value.int .i64)).length = rs.length - k := by simp
  rw [hlen] at g2
  obtain ⟨c2, hc2⟩ : ∃ c2, c2 = (c1.toList.take (k + 1) ++ (rs.drop k).map (Value.int .i64) ++ c1.toList.drop (k + 1 + (rs.length - k))).toArray := ⟨_, rfl⟩
  rw [← hc2] at g2
  obtain ⟨w2, hw2⟩ : ∃ w2, w2 = w1.drew.setRow w.heap.size c2 := ⟨_, rfl⟩
  rw [← hw2] at g2
  have b2 : w2.heap[w.heap.size]? = some (.cells c2 3 (0, 0)) := by rw [hw2]; exact setRow_heap w1.drew _ c1 _ 3 _ b1
  have z2 : c2.size = cap := by rw [hc2]; simp; omega
  have a2 : Below w.heap.size w w2 := by rw [hw2]; exact below_setRow a1.drew (Nat.le_refl _) _
  have e2 : c2.toList.take (rs.length + 1) = (rs.take k ++ x :: rs.drop k).map (Value.int .i64) := by
    have l0 : c0.toList.take k = (rs.take k).map (Value.int .i64) := by
      rw [hc0, Array.toList_append, Array.toList_append, List.append_assoc]
      refine row_mid _ [] ((rs.take k).map (Value.int .i64)) _ (by simp; omega) _ rfl |>.trans (by simp)
    have l1 : c1.toList.take (k + 1) = (rs.take k).map (Value.int .i64) ++ [.int .i64 x] := by
      rw [hc1]
      exact row_mid _ ((rs.take k).map (Value.int .i64)) [.int .i64 x] _ (by simp; omega) _ (by rw [l0])
    rw [hc2]
    refine row_mid _ ((rs.take k).map (Value.int .i64) ++ [.int .i64 x]) ((rs.drop k).map (Value.int .i64)) _ (by simp; omega) (c1.toList.drop (k + 1 + (rs.length - k))) ?_ |>.trans ?_
    · simp only [l1]
    · simp
  have HE : Hid (Ins w (.slice (some ⟨q, 0, none⟩) rs.length rs.length) rs k x (.returned (.slice (some ⟨w.heap.size, 0, none⟩) (rs.length + 1) cap)) w2) :=
    ⟨_, rfl, .inr ⟨w.heap.size, cap, c2, by congr 1; simp; omega, b2, by simp; omega, hcm, by omega, by rw [← e2]; congr 1; simp; omega⟩, Apart.of_below a2, fun b hb => .inr (by cases hb; exact Nat.le_refl _)⟩
  have hcm2 : cap ≤ 9223372036854775807 := by unfold maxLen at hcm; omega
  clear hr h1 hcm h4 h5 hx hlen hc0 hw0 b0 a0 z0 hc1 hw1 b1 a1 ox z1 hc2 hw2 b2 z2 a2 e2 hr1 hcap hi hz0 hz1 hz2 hm hcl
  have G0 : Hid ((Builtin.append_ #[42, 3] 42 #[.slice (some ⟨q, 0, none⟩) k rs.length, .int .i64 ((rs.length + 1 - k : Nat) : Int)]).run Try.prog w = .ok (.slice (some ⟨w.heap.size, 0, none⟩) (rs.length + 1) cap) w0) := g0
  have G1 : Hid ((Builtin.copy_ #[42, 42] 3 #[.slice (some ⟨w.heap.size, k, none⟩) (rs.length + 1 - k) (cap - k), .slice (some ⟨c, 0, none⟩) 1 1]).run Try.prog w0 = .ok (goInt 1) w1) := g1
  have G2 : Hid ((Builtin.copy_ #[42, 42] 3 #[.slice (some ⟨w.heap.size, k + 1, none⟩) (rs.length - k) (cap - (k + 1)), .slice (some ⟨q, k, none⟩) (rs.length - k) (rs.length - k)]).run Try.prog w1.drew = .ok (goInt (rs.length - k : Nat)) w2) := g2
  clear g0 g1 g2 ekn c0 c1 c2
  generalize hn : rs.length = n at *
  have HN : Hid (rs.length = n) := hn
  clear hn
  generalize hG : w.heap.size = g at *
  have HG : Hid (w.heap.size = g) := hG
  clear hG
  go_enter Try.func33, Try.ntmps33
  go_upto_region 9 with fail
  have m1 : IntKind.i64.wrap ((n : Int) + 1) = (n : Int) + 1 := wrap_in (by omega) (by omega)
  obtain ⟨m, hm⟩ : ∃ m, m = n + 1 - k := ⟨_, rfl⟩
  have m2 : (n : Int) + 1 - (k : Int) = (m : Int) := by omega
  have m3 : IntKind.i64.wrap (m : Int) = (m : Int) := wrap_in (by omega) (by omega)
  rw [← hm] at G0
  clear hm
  go_wp2_with (first | (at_builtin; refine Lib.wpList_append_run _ rfl (.tmp 34) (.tmp 39) 42 3 rfl _ _ rfl rfl _ _ G0.out ?_) | refine wpList_copy_run rfl (.tmp 43) (.tmp 44) 42 rfl (.slice (some ⟨g, k, none⟩) (n + 1 - k) (cap - k)) (.slice (some ⟨c, 0, none⟩) 1 1) _ rfl rfl G1.out ?_)
  clear G0 m2 m3
  have k1 : IntKind.i64.wrap ((k : Int) + 1) = (k : Int) + 1 := wrap_in (by omega) (by omega)
  have k2 : (0 : Int) ≤ (k : Int) + 1 := by omega
  have k3 : (k : Int) + 1 ≤ (n : Int) + 1 := by omega
  have k4 : ((k : Int) + 1).toNat = k + 1 := by omega
  have k5 : ¬ cap = k + 1 := by omega
  have k6 : ¬ n = k := by omega
  have k7 : (k : Int) ≤ (n : Int) := by omega
  have k8 : n + 1 - (k + 1) = n - k := by omega
  go_region_law (refine step_copy_run (by kernel_rfl) (.tmp 50) (.tmp 53) 42 (by kernel_rfl) (.slice (some ⟨g, k + 1, none⟩) (n - k) (cap - (k + 1))) (.slice (some ⟨q, k, none⟩) (n - k) (n - k)) _ (by kernel_rfl) (by kernel_rfl) G2.out ?_)
  go_wp2
  go_ret
  exact HE.out

/-- Insert, one number at a place. -/
theorem insert_ok (w : World) (s : Value) (rs : List Int) (h : RsAt w s rs) (hl : rs.length ≤ 1000) (k : Nat) (hk : k ≤ rs.length) (x : Int) (c : Nat) (cs : Array Value) (t : TypeId) (hc : w.heap[c]? = some (.cells cs t (0, 0))) (hx : w.cell? ⟨c, 0, none⟩ = some (.int .i64 x)) (hne : s.ownBlock ≠ some c) :
    Calls Try.prog 33 #[s, .int .i64 (k : Int), .slice (some ⟨c, 0, none⟩) 1 1] w fun e w' => Ins w s rs k x e w' := by
  by_cases e : k = rs.length
  · subst e; exact insert_end w s rs h hl x c hx
  · rcases h with ⟨rfl, rfl⟩ | ⟨q, cap, cur, rfl, h1, h2, h3, h4, h5⟩
    · exact absurd hk (by simp at e ⊢; omega)
    · by_cases hr : rs.length < cap
      · exact insert_room w q cap rs cur h1 hr h3 h4 h5 k (by omega) x c cs t hc hx (fun e2 => hne (by subst e2; rfl))
      · obtain rfl : cap = rs.length := by omega
        exact insert_grow w q rs cur h1 hl h4 h5 k (by omega) x c hx
end Go.Proofs.Ytmionehafekokaa
