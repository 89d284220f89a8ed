/-
  The contract of slices.Insert over numbers: in the midst, with room and without.
-/
import Derived.Test.YtmionehafekokaaGrdI
namespace Go.Proofs.Ytmionehafekokaa
open Go.ChangeShapes Go.WideShapes Go.ChangeAt Go.RowKit

theorem i42 : (Try.prog.info? 3).map (·.size) = some 1 := by kernel_rfl
theorem one_cell {w : World} {c : Nat} {x : Int} (hc : w.cell? ⟨c, 0, none⟩ = some (.int .i64 x)) : ∀ j u, [Value.int .i64 x][j]? = some u → w.cell? ((⟨c, 0, none⟩ : Addr).add j) = some u := by
  intro j u hj
  rw [Addr.add_lit, Nat.zero_add]
  match j, hj with
  | 0, hj => simp at hj; rw [hc, hj]
  | k + 1, hj => simp at hj
/-- A 'copy' in a region that draws its order, its run known. -/
theorem step_copy_run {P : Program} {w w' : World} {ops : Array Oper} {o : Oper} {a : Act} {K : Act → World → Prop} {Q : Exit → Act → World → Prop} {E : Prop} (hgd : o.guard = none) (s x : Operand) (t : TypeId)
    (ho : o.op = .call { callee := .builtin .copy, args := #[s, x], argTypes := #[t, t] }) (v u r : Value) (hs : a.eval s = v) (hx : a.eval x = u)
    (hrun : (Builtin.copy_ #[t, t] o.type #[v, u]).run P w = .ok r w') (h : K (a.put o.dst r) w') : if Region.wanted o (yielded ops a.tmps) = true then Oper.wp P o a w K Q else E := by
  have hw : Region.wanted o (yielded ops a.tmps) = true := by simp [Region.wanted, hgd]
  rw [if_pos hw]
  unfold Oper.wp execOp
  simp only [ho, resolve, invoke, builtin, Sem.run_bind, Sem.run_pure, Result.andThen_ok, List.map_toArray, List.map_cons, List.map_nil, hs, hx, hrun]
  exact h
/-- Three rows of a list. -/
theorem row_mid {α : Type} (l a b : List α) (n : Nat) (h : n = (a ++ b).length) (r : List α) (he : l = a ++ b ++ r) : l.take n = a ++ b := by
  rw [he, h]; exact List.take_left

set_option maxHeartbeats 1600000 in
set_option maxRecDepth 20000 in
theorem insert_room (w : World) (q cap : Nat) (rs : List Int) (cur : Array Value) (h1 : w.heap[q]? = some (.cells cur 3 (0, 0))) (h2 : rs.length < cap) (h3 : cap ≤ maxLen) (h4 : cap ≤ cur.size) (h5 : cur.toList.take rs.length = rs.map (Value.int .i64)) (k : Nat) (hk : k < rs.length) (x : Int) (c : Nat)
    (cs : Array Value) (t : TypeId) (hc : w.heap[c]? = some (.cells cs t (0, 0))) (hx : w.cell? ⟨c, 0, none⟩ = some (.int .i64 x)) (hne : c ≠ q) :
    Calls Try.prog 33 #[.slice (some ⟨q, 0, none⟩) rs.length cap, .int .i64 (k : Int), .slice (some ⟨c, 0, none⟩) 1 1] w fun e w' => Ins w (.slice (some ⟨q, 0, none⟩) rs.length cap) rs k x e w' := by
  have hr : RsAt w (.slice (some ⟨q, 0, none⟩) rs.length cap) rs := .inr ⟨q, cap, cur, rfl, h1, by omega, h3, h4, h5⟩
  -- the tail one place on
  have g1 := run_copy_row Try.prog w.drew 42 42 3 3 q (k + 1) (rs.length - k) (cap - (k + 1)) ⟨q, k, none⟩ (rs.length + 1 - k) (cap - k) cur 3 ((rs.drop k).map (Value.int .i64)) u42 i42 h1 (by rw [List.length_map, List.length_drop]; show _ = min _ _; omega) (by
    intro j v hj
    rw [Addr.add_lit]
    refine hr.cells.2 (k + j) v ?_
    rw [← hj]; simp [List.getElem?_map, List.getElem?_drop]) (by simp; omega) (ints_one _)
  have hlen : ((rs.drop k).map (Value.int .i64)).length = rs.length - k := by simp
  rw [hlen] at g1
  obtain ⟨c1, hc1⟩ : ∃ c1, c1 = (cur.toList.take (k + 1) ++ (rs.drop k).map (Value.int .i64) ++ cur.toList.drop (k + 1 + (rs.length - k))).toArray := ⟨_, rfl⟩
  rw [← hc1] at g1
  obtain ⟨w1, hw1⟩ : ∃ w1, w1 = w.drew.setRow q c1 := ⟨_, rfl⟩
  rw [← hw1] at g1
  have b1 : w1.heap[q]? = some (.cells c1 3 (0, 0)) := by rw [hw1]; exact setRow_heap w.drew q cur _ 3 _ h1
  have ox : w1.cell? ⟨c, 0, none⟩ = some (.int .i64 x) := by
    rw [hw1, World.cell?_of_block (w := w) (setRow_other w.drew q c _ hne)]; exact hx
  have z1 : c1.size = cur.size := by rw [hc1]; simp; omega
  -- the new one
  have g2 := run_copy_row Try.prog w1 42 42 3 3 q k (rs.length + 1 - k) (cap - k) ⟨c, 0, none⟩ 1 1 c1 3 [.int .i64 x] u42 i42 b1 (by show 1 = min _ _; omega) (one_cell ox) (by simp; omega) (by simp [Value.oneCell'])
  obtain ⟨c2, hc2⟩ : ∃ c2, c2 = (c1.toList.take k ++ [Value.int .i64 x] ++ c1.toList.drop (k + [Value.int .i64 x].length)).toArray := ⟨_, rfl⟩
  rw [← hc2] at g2
  obtain ⟨w2, hw2⟩ : ∃ w2, w2 = w1.setRow q c2 := ⟨_, rfl⟩
  rw [← hw2] at g2
  have b2 : w2.heap[q]? = some (.cells c2 3 (0, 0)) := by rw [hw2]; exact setRow_heap w1 q c1 _ 3 _ b1
  have z2 : c2.size = cur.size := by rw [hc2]; simp; omega
  have a2 : Apart (fun b => (Value.slice (some ⟨q, 0, none⟩) rs.length cap).ownBlock = some b) w w2 := by
    rw [hw2, hw1]
    exact ⟨rfl, rfl, rfl, by simp, fun j _ hj => by rw [setRow_other _ _ _ _ (fun e => hj (by subst e; rfl)), setRow_other _ _ _ _ (fun e => hj (by subst e; rfl))]; rfl⟩
  have tk : cur.toList.take k = (rs.take k).map (Value.int .i64) := by
    have := congrArg (List.take k) h5
    rw [List.take_take, show min k rs.length = k by omega, ← List.map_take] at this
    exact this
  have e2 : c2.toList.take (rs.length + 1) = (rs.take k ++ x :: rs.drop k).map (Value.int .i64) := by
    have l1 : c1.toList.take k = cur.toList.take k := by
      rw [hc1]
      simp only [List.append_assoc]
      rw [List.take_append_of_le_length (by simp; omega), List.take_take]
      congr 1; omega
    have l2 : c1.toList.drop (k + 1) = (rs.drop k).map (Value.int .i64) ++ cur.toList.drop (k + 1 + (rs.length - k)) := by
      rw [hc1]
      simp only [List.append_assoc]
      have hz : (cur.toList.take (k + 1)).length = k + 1 := by simp; omega
      have := List.drop_left (l₁ := cur.toList.take (k + 1)) (l₂ := (rs.drop k).map (Value.int .i64) ++ cur.toList.drop (k + 1 + (rs.length - k)))
      rw [hz] at this
      exact this
    rw [hc2]
    refine row_mid _ ((rs.take k).map (Value.int .i64) ++ [.int .i64 x]) ((rs.drop k).map (Value.int .i64)) _ (by simp; omega) (cur.toList.drop (k + 1 + (rs.length - k))) ?_ |>.trans ?_
    · simp only [l1, tk, List.length_cons, List.length_nil, Nat.zero_add, l2, List.append_assoc]
    · simp
  have HE : Hid (Ins w (.slice (some ⟨q, 0, none⟩) rs.length cap) rs k x (.returned (.slice (some ⟨q, 0, none⟩) (rs.length + 1) cap)) w2) :=
    ⟨_, rfl, .inr ⟨q, cap, c2, by congr 1; simp; omega, b2, by simp; omega, h3, by omega, by rw [← e2]; congr 1; simp; omega⟩, a2, fun b hb => .inl hb⟩
  have HO : Hid ((callFunc 35 #[.slice (some ⟨c, 0, none⟩) 1 1, .slice (some ⟨q, k + 1, none⟩) (rs.length - k) (cap - (k + 1))]).run Try.prog w = .ok (.value (.bool false)) w) := over_no w c q (k + 1) _ _ cs cur t hc h1 hne
  have hcm : cap ≤ 9223372036854775807 := by unfold maxLen at h3; omega
  clear hr h1 h3 h4 h5 hc hx hlen hc1 hw1 b1 ox z1 hc2 hw2 b2 z2 a2 tk e2
  have G1 : Hid ((Builtin.copy_ #[42, 42] 3 #[.slice (some ⟨q, k + 1, none⟩) (rs.length - k) (cap - (k + 1)), .slice (some ⟨q, k, none⟩) (rs.length + 1 - k) (cap - k)]).run Try.prog w.drew = .ok (goInt (rs.length - k : Nat)) w1) := g1
  have G2 : Hid ((Builtin.copy_ #[42, 42] 3 #[.slice (some ⟨q, k, none⟩) (rs.length + 1 - k) (cap - k), .slice (some ⟨c, 0, none⟩) 1 1]).run Try.prog w1 = .ok (goInt 1) w2) := g2
  clear g1 g2 c1 c2
  generalize hn : rs.length = n at *
  have HN : Hid (rs.length = n) := hn
  clear hn
  go_enter Try.func33, Try.ntmps33
  go_upto_region 14 with fail
  have ho := HO.out
  go_wp2_with fail
  clear ho HO
  have k1 : IntKind.i64.wrap ((k : Int) + 1) = (k : Int) + 1 := wrap_in (by omega) (by omega)
  have k2 : (0 : Int) ≤ (k : Int) + 1 := by omega
  have k3 : (k : Int) + 1 ≤ (n : Int) + 1 := by omega
  have k4 : ((k : Int) + 1).toNat = k + 1 := by omega
  have k5 : ¬ cap = k + 1 := by omega
  have k6 : ¬ cap = k := by omega
  have k7 : (k : Int) ≤ (n : Int) + 1 := by omega
  have k8 : n + 1 - (k + 1) = n - k := by omega
  go_region_law (refine step_copy_run (by kernel_rfl) (.tmp 73) (.tmp 76) 42 (by kernel_rfl) (.slice (some ⟨q, k + 1, none⟩) (n - k) (cap - (k + 1))) (.slice (some ⟨q, k, none⟩) (n + 1 - k) (cap - k)) _ (by kernel_rfl) (by kernel_rfl) G1.out ?_)
  go_wp2_with (refine wpList_copy_run rfl (.tmp 80) (.tmp 81) 42 rfl (.slice (some ⟨q, k, none⟩) (n + 1 - k) (cap - k)) (.slice (some ⟨c, 0, none⟩) 1 1) _ rfl rfl G2.out ?_)
  go_ret
  exact HE.out
end Go.Proofs.Ytmionehafekokaa
