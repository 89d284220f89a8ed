/-
  The contract of merged: two lists in order, as one.
-/
import Derived.Test.YtfifcfdlmpgohaaFtmD
import Derived.WalkMore
namespace Go.Proofs.Ytfifcfdlmpgohaa
open Go.ChangeShapes Go.WideShapes Go.ChangeAt Go.RowKit
set_option maxRecDepth 20000

/-- Half way: L is done, A and B are left of X and Y. -/
structure Mg (X Y L A B : List Int) : Prop where
  s1 : Srt (L ++ A)
  s2 : Srt (L ++ B)
  pm : (L ++ A ++ B).Perm (X ++ Y)
theorem Mg.start {X Y : List Int} (hx : Srt X) (hy : Srt Y) : Mg X Y [] X Y := ⟨hx, hy, List.Perm.refl _⟩
theorem srt_in {L A : List Int} {x y : Int} (h1 : Srt (L ++ x :: A)) (h2 : ∀ a ∈ L, a ≤ y) (h3 : y ≤ x) : Srt (L ++ [y] ++ x :: A) := by
  have h4 := List.pairwise_append.1 h1
  have h5 := List.pairwise_cons.1 h4.2.1
  rw [List.append_assoc]
  refine List.pairwise_append.2 ⟨h4.1, List.pairwise_cons.2 ⟨fun z hz => ?_, h4.2.1⟩, fun a ha b hb => ?_⟩
  · rcases List.mem_cons.1 hz with rfl | hz
    · exact h3
    · have := h5.1 z hz; omega
  · have h6 := h2 a ha
    rcases List.mem_cons.1 hb with rfl | hb
    · exact h6
    · rcases List.mem_cons.1 hb with rfl | hb
      · omega
      · have := h5.1 b hb; omega
theorem srt_le {L A : List Int} {x : Int} (h : Srt (L ++ x :: A)) : ∀ a ∈ L, a ≤ x := fun a ha => (List.pairwise_append.1 h).2.2 a ha x (by simp)
theorem Mg.left {X Y L A B : List Int} {x y : Int} (h : Mg X Y L (x :: A) (y :: B)) (hc : x ≤ y) : Mg X Y (L ++ [x]) A (y :: B) := by
  refine ⟨?_, srt_in h.s2 (srt_le h.s1) hc, ?_⟩
  · have := h.s1; rw [List.append_assoc]; exact this
  · have := h.pm
    have e : L ++ [x] ++ A = L ++ x :: A := by rw [List.append_assoc]; rfl
    rw [e]; exact this
theorem Mg.right {X Y L A B : List Int} {x y : Int} (h : Mg X Y L (x :: A) (y :: B)) (hc : y ≤ x) : Mg X Y (L ++ [y]) (x :: A) B := by
  refine ⟨srt_in h.s1 (srt_le h.s2) hc, ?_, ?_⟩
  · have := h.s2; rw [List.append_assoc]; exact this
  · refine List.Perm.trans ?_ h.pm
    have e1 : L ++ [y] ++ x :: A ++ B = L ++ (y :: (x :: A ++ B)) := by simp
    have e2 : L ++ x :: A ++ y :: B = L ++ (x :: A ++ y :: B) := by rw [List.append_assoc]
    rw [e1, e2]
    exact List.Perm.append_left L List.perm_middle.symm
theorem Mg.endA {X Y L B : List Int} (h : Mg X Y L [] B) : Srt (L ++ B) ∧ (L ++ B).Perm (X ++ Y) := ⟨h.s2, by have := h.pm; rwa [List.append_nil] at this⟩
theorem Mg.endB {X Y L A : List Int} (h : Mg X Y L A []) : Srt (L ++ A) ∧ (L ++ A).Perm (X ++ Y) := ⟨h.s1, by have := h.pm; rwa [List.append_nil] at this⟩
theorem Mg.len {X Y L A B : List Int} (h : Mg X Y L A B) : L.length + A.length + B.length = X.length + Y.length := by
  have := h.pm.length_eq; simp only [List.length_append] at this; exact this

def slen : Value → Nat
  | .slice _ n _ => n
  | _ => 0

/-- An empty list with room. -/
theorem made_list (w : World) (n : Nat) (hn : n ≤ 900) : ∃ W, (Instr.makeSlice 22 (.int .i64 0) (.int .i64 (n : Int))).run Try.prog w = .ok (.slice (some ⟨w.heap.size, 0, none⟩) 0 n) W ∧ Row EL W (.slice (some ⟨w.heap.size, 0, none⟩) 0 n) [] ∧ Below w.heap.size w W := by
  obtain ⟨i, hi, hz0, hz1, hz2⟩ := info_parts EL.hi
  have hr := run_make (P := Try.prog) w 22 2 i (.int .i64 0) EL.hu hi hz0 .i64 .i64 0 (n : Int) (Int.le_refl _) (by omega) (by rw [hz2]; show (8 : Int) * _ ≤ _; omega) (by omega)
  simp only [Int.toNat_zero, Int.toNat_natCast] at hr
  refine ⟨_, hr, .inr ⟨w.heap.size, n, _, rfl, heap_alloc_new w _, Nat.zero_le _, by unfold maxLen; omega, ?_, rfl, ?_⟩, Go.Joins.below_alloc1 w _⟩
  · rw [size_madeCells, hz1]; exact Nat.le_refl _
  · rw [hz1]; exact nob_zeros (Value.int .i64 0).cells EL.znob n
theorem wpList_mks_run {P : Program} {ops : Array Oper} {rest : List Oper} {o : Oper} {a : Act} {w w' : World} {Q : Exit → Act → World → Prop} (hgd : o.guard = none) (t : TypeId) (x y : Operand) (ho : o.op = .makeSlice t x y)
    (v u r : Value) (hx : a.eval x = v) (hy : a.eval y = u) (hrun : (Instr.makeSlice t v u).run P w = .ok r w') (h : wpList P ops Q rest (a.put o.dst r) w') : wpList P ops Q (o :: rest) a w := by
  refine wpList_plain hgd fun K hK => ?_
  unfold Oper.wp execOp
  simp only [ho, hx, hy, Sem.run_bind, hrun, Result.andThen_ok, Sem.run_pure]
  exact hK _ _ h
theorem op_mk_run {P : Program} {o : Oper} {a : Act} {w w' : World} {K : Act → World → Prop} {Q : Exit → Act → World → Prop} (t : TypeId) (len : Nat) (parts : Array (Nat × Operand)) (ho : o.op = .buildSlice t len parts)
    (vs : List (Nat × Value)) (r : Value) (hp : parts.toList.map (fun p => (p.1, a.eval p.2)) = vs) (hrun : (Instr.buildSlice t len vs.toArray).run P w = .ok r w') (h : K (a.put o.dst r) w') : Oper.wp P o a w K Q := by
  have hq : parts.map (fun p => (p.1, a.eval p.2)) = vs.toArray := by rw [← hp, ← Array.toList_map, Array.toArray_toList]
  unfold Oper.wp execOp
  simp only [ho, hq, Sem.run_bind, hrun, Result.andThen_ok, Sem.run_pure]
  exact h
theorem op_append_run {P : Program} {w w' : World} {o : Oper} {a : Act} {K : Act → World → Prop} {Q : Exit → Act → World → Prop} (s x : Operand) (t : TypeId)
    (ho : o.op = .call { callee := .builtin .append, args := #[s, x], argTypes := #[t, t] }) (v u r : Value) (hs : a.eval s = v) (hx : a.eval x = u)
    (hrun : (Builtin.append_ #[t, t] o.type #[v, u]).run P w = .ok r w') (h : K (a.put o.dst r) w') : Oper.wp P o a w K Q := by
  unfold Oper.wp execOp
  simp only [ho, resolve, invoke, builtin, Sem.run_bind, Sem.run_pure, Result.andThen_ok, List.map_toArray, List.map_cons, List.map_nil, hs, hx, hrun]
  exact h
theorem exec_slop {P : Program} {o : Oper} {a : Act} {w : World} (t : TypeId) (x : Operand) (lo hi mx : Option Operand) (ho : o.op = .slice t x lo hi mx)
    (v r : Value) (vl vh vm : Option Value) (hx : a.eval x = v) (h1 : lo.map a.eval = vl) (h2 : hi.map a.eval = vh) (h3 : mx.map a.eval = vm) (hrun : (Instr.sliceAt t v vl vh vm).run P w = .ok r w) : (execOp a.eval o).run P w = .ok (.value r) w := by
  unfold execOp
  simp only [ho, hx, h1, h2, h3, Sem.run_bind, hrun, Result.andThen_ok, Sem.run_pure]
theorem mk_one (x : Int) (W : World) : (Instr.buildSlice 22 1 #[(0, .int .i64 x)]).run Try.prog W = .ok (.slice (some ⟨W.heap.size, 0, none⟩) 1 1) (W.alloc (.cells #[.int .i64 x] 2)) := by kernel_rfl

/-- A part of a list that is read, cut out. -/
theorem cut_ls {W : World} {q : Option Addr} {n k : Nat} {s : List Int} (h : LsO W q s) (hn : n = s.length) (hk : n ≤ k) (l m : Nat) (h1 : l ≤ m) (h2 : m ≤ n) :
    ∃ a c, sliced q l m k 1 = .slice a (m - l) c ∧ LsO W a ((s.drop l).take (m - l)) ∧ m - l ≤ c := by
  unfold sliced
  by_cases hkl : k = l
  · rw [if_pos hkl]
    refine ⟨_, _, rfl, ?_, by omega⟩
    have : m - l = 0 := by omega
    rw [this]; exact LsO.nil _ _
  · rw [if_neg hkl]
    refine ⟨_, _, rfl, ?_, by omega⟩
    intro j x hx
    have hx0 := hx
    rw [List.getElem?_take] at hx
    split at hx
    · rw [List.getElem?_drop] at hx
      obtain ⟨b, o, rfl, hc⟩ := h _ x hx
      refine ⟨b, o + l, ?_, by rw [Nat.add_assoc]; exact hc⟩
      rw [Option.map_some]
      congr 1
      rw [Addr.add_lit, Nat.mul_one]
    · cases hx
theorem cut_tail {W : World} {q : Option Addr} {n k : Nat} {s : List Int} (h : LsO W q s) (hn : n = s.length) (hk : n ≤ k) (l : Nat) (h1 : l ≤ n) :
    ∃ a c, LsO W a (s.drop l) ∧ n - l ≤ c ∧ ∀ V, (Instr.sliceAt 22 (.slice q n k) (some (.int .i64 (l : Int))) none none).run Try.prog V = .ok (.slice a (n - l) c) V := by
  obtain ⟨a, c, e, hl, hc⟩ := cut_ls h hn hk l n h1 (Nat.le_refl _)
  refine ⟨a, c, by rw [List.take_of_length_le (by rw [List.length_drop]; omega)] at hl; exact hl, hc, fun V => ?_⟩
  rw [slice_run V q n k _ _ l n (by simp [Instr.sliceBounds, run_sliceBound, Result.andThen, show (l : Int) ≤ (n : Int) by omega]), e]
theorem cut_head {W : World} {q : Option Addr} {n k : Nat} {s : List Int} (h : LsO W q s) (hn : n = s.length) (hk : n ≤ k) (l : Nat) (h1 : l ≤ n) :
    ∃ a c, LsO W a (s.take l) ∧ l ≤ c ∧ ∀ V, (Instr.sliceAt 22 (.slice q n k) none (some (.int .i64 (l : Int))) none).run Try.prog V = .ok (.slice a l c) V := by
  obtain ⟨a, c, e, hl, hc⟩ := cut_ls h hn hk 0 l (Nat.zero_le _) h1
  refine ⟨a, c, by simpa using hl, by simpa using hc, fun V => ?_⟩
  rw [slice_run V q n k _ _ 0 l (by simp [Instr.sliceBounds, run_sliceBound, Result.andThen, show (l : Int) ≤ (k : Int) by omega]), e]
  rfl

set_option maxHeartbeats 16000000 in
theorem merged_ok (w : World) (a b : Option Addr) (c d : Nat) (X Y : List Int) (hl : X.length + Y.length ≤ 900) (hx : LsO w a X) (hy : LsO w b Y) (cx : X.length ≤ c) (cy : Y.length ≤ d) (sx : Srt X) (sy : Srt Y) :
    Calls Try.prog 28 #[.slice a X.length c, .slice b Y.length d] w (OwnP w (fun M => Srt M ∧ M.Perm (X ++ Y))) := by
  have HX : Hid (LsO w a X ∧ LsO w b Y ∧ X.length ≤ c ∧ Y.length ≤ d ∧ Mg X Y [] X Y ∧ X.length + Y.length ≤ 900) := ⟨hx, hy, cx, cy, Mg.start sx sy, hl⟩
  obtain ⟨n1, hn1⟩ : ∃ n, n = X.length := ⟨_, rfl⟩
  obtain ⟨n2, hn2⟩ : ∃ n, n = Y.length := ⟨_, rfl⟩
  rw [← hn1, ← hn2] at hl ⊢
  have HN : Hid (n1 = X.length ∧ n2 = Y.length) := ⟨hn1, hn2⟩
  have e0 : IntKind.i64.wrap ((n1 : Int) + (n2 : Int)) = ((n1 + n2 : Nat) : Int) := by rw [wrap_in (by omega) (by omega)]; omega
  obtain ⟨W0, run0, r0, b0⟩ := made_list w (n1 + n2) hl
  have R0 : Hid ((Instr.makeSlice 22 (.int .i64 0) (.int .i64 ((n1 + n2 : Nat) : Int))).run Try.prog w = .ok (.slice (some ⟨w.heap.size, 0, none⟩) 0 (n1 + n2)) W0) := run0
  have H0 : Hid (Row EL W0 (.slice (some ⟨w.heap.size, 0, none⟩) 0 (n1 + n2)) [] ∧ Below w.heap.size w W0) := ⟨r0, b0⟩
  clear hx hy cx cy sx sy hl hn1 hn2 run0 r0 b0
  go_enter Try.func28, Try.ntmps28
  go_wp2
  go_step3
  go_wp2_with (first | (refine wpList_mks_run rfl 22 _ _ rfl _ _ _ rfl rfl R0.out ?_) | fail)
  go_step3
  go_wp2
  go_loopw [0, 1, 5] (fun u v z wr => ∃ (A B L : List Int) (a' b' q : Option Addr) (c' d' k m1 m2 m3 : Nat), u = .slice a' m1 c' ∧ v = .slice b' m2 d' ∧ z = .slice q m3 k ∧ m1 = A.length ∧ m2 = B.length ∧ m3 = L.length ∧ m1 ≤ c' ∧ m2 ≤ d' ∧ Mg X Y L A B ∧ LsO w a' A ∧ LsO w b' B ∧ Row EL wr (.slice q m3 k) L ∧ (∀ p, (Value.slice q m3 k).ownBlock = some p → w.heap.size ≤ p) ∧ Below w.heap.size w wr) (fun u v _ _ => slen u + slen v)
  case atStart => exact ⟨X, Y, [], a, b, _, c, d, _, n1, n2, 0, rfl, rfl, rfl, HN.out.1, HN.out.2, rfl, by rw [HN.out.1]; exact HX.out.2.2.1, by rw [HN.out.2]; exact HX.out.2.2.2.1, HX.out.2.2.2.2.1, HX.out.1, HX.out.2.1, H0.out.1, (fun p hp => by cases hp; exact Nat.le_refl _), H0.out.2⟩
  case round =>
    obtain ⟨A, B, L, a', b', q, c', d', k, m1, m2, m3, rfl, rfl, rfl, h1, h2, h3, hc1, hc2, hm, ha, hb', hr, ho, hb⟩ := hrel
    have hlen := hm.len
    have hX := HX.out.2.2.2.2.2
    cases A with
    | nil =>
      have g1 : m1 = 0 := h1
      subst g1
      obtain ⟨M, hM⟩ : ∃ M, M = L ++ B := ⟨_, rfl⟩
      obtain ⟨a4, c4, w4, run, r4, b4, o4, _⟩ := row_tailL (w := w) hr (ts := B) (by simp at hlen; omega) hb ho b' d' (hb'.below hb)
      rw [← h2, ← hM] at run
      rw [← hM] at r4 o4
      have HR : Hid ((Builtin.append_ #[22, 22] 22 #[.slice q m3 k, .slice b' m2 d']).run Try.prog wr = .ok (.slice a4 M.length c4) w4) := run
      have HE : Hid (OwnP w (fun M => Srt M ∧ M.Perm (X ++ Y)) (.returned (.slice a4 M.length c4)) w4) := ⟨a4, c4, M, by rw [hM]; exact hm.endA, rfl, r4, o4, b4⟩
      clear hr ho hb ha hb' hm run r4 b4 o4 hM h1 h2 h3 hc1 hc2 hlen
      go_wp2_with (first | (at_builtin; refine wpList_append_run rfl (.tmp 24) (.tmp 25) 22 rfl _ _ _ rfl rfl HR.out ?_) | fail)
      (try rw [Exit.noGoto_ret])
      go_ret
      exact HE.out
    | cons x A' =>
      have g1 : ¬ (m1 : Int) = 0 := by simp at h1; omega
      have g1n : ¬ m1 = 0 := by simp at h1; omega
      cases B with
      | nil =>
        have g2 : m2 = 0 := h2
        subst g2
        obtain ⟨M, hM⟩ : ∃ M, M = L ++ (x :: A') := ⟨_, rfl⟩
        obtain ⟨a4, c4, w4, run, r4, b4, o4, _⟩ := row_tailL (w := w) hr (ts := (x :: A')) (by simp at hlen ⊢; omega) hb ho a' c' (ha.below hb)
        rw [← h1, ← hM] at run
        rw [← hM] at r4 o4
        have HR : Hid ((Builtin.append_ #[22, 22] 22 #[.slice q m3 k, .slice a' m1 c']).run Try.prog wr = .ok (.slice a4 M.length c4) w4) := run
        have HE : Hid (OwnP w (fun M => Srt M ∧ M.Perm (X ++ Y)) (.returned (.slice a4 M.length c4)) w4) := ⟨a4, c4, M, by rw [hM]; exact hm.endB, rfl, r4, o4, b4⟩
        clear hr ho hb ha hb' hm run r4 b4 o4 hM h1 h2 h3 hc1 hc2 hlen
        go_wp2_with (first | (at_builtin; refine wpList_append_run rfl (.tmp 31) (.tmp 32) 22 rfl _ _ _ rfl rfl HR.out ?_) | fail)
        (try rw [Exit.noGoto_ret])
        go_ret
        exact HE.out
      | cons y B' =>
        have g2 : ¬ (m2 : Int) = 0 := by simp at h2; omega
        have g2n : ¬ m2 = 0 := by simp at h2; omega
        have g3 : 0 < m1 := by omega
        have g4 : 0 < m2 := by omega
        obtain ⟨ba, oa, rfl, ca⟩ := ha 0 x rfl
        obtain ⟨bb, ob, rfl, cb⟩ := hb' 0 y rfl
        rw [Nat.add_zero] at ca cb
        have HA : Hid (m1 = (x :: A').length ∧ m2 = (y :: B').length ∧ m1 ≤ c' ∧ m2 ≤ d' ∧ Mg X Y L (x :: A') (y :: B') ∧ LsO w (some ⟨ba, oa, none⟩) (x :: A') ∧ LsO w (some ⟨bb, ob, none⟩) (y :: B')) := ⟨h1, h2, hc1, hc2, hm, ha, hb'⟩
        have HC : Hid ((∀ W, Below w.heap.size w W → W.cell? ⟨ba, oa, none⟩ = some (.int .i64 x)) ∧ (∀ W, Below w.heap.size w W → W.cell? ⟨bb, ob, none⟩ = some (.int .i64 y))) := ⟨fun W hW => by rw [hW.cell (World.block_lt_of_cell? w _ ca)]; exact ca, fun W hW => by rw [hW.cell (World.block_lt_of_cell? w _ cb)]; exact cb⟩
        have hS0 : wr.drew.cell? ⟨ba, oa, none⟩ = some (.int .i64 x) ∧ wr.drew.cell? ⟨bb, ob, none⟩ = some (.int .i64 y) := ⟨HC.out.1 _ hb.drew, HC.out.2 _ hb.drew⟩
        clear h1 h2 h3 hc1 hc2 hm ha hb' hlen hX ca cb
        by_cases hc : y < x
        · go_upto_region 7 with fail
          refine wp_region_noPanic ?_
          refine wp_region_held (S := fun V => V.cell? ⟨ba, oa, none⟩ = some (.int .i64 x) ∧ V.cell? ⟨bb, ob, none⟩ = some (.int .i64 y)) (by kernel_rfl) ?_
          have hS := hS0
          refine any_take 0 ?vrq1n1 rfl (by kernel_rfl) (by kernel_rfl) (by kernel_rfl) (fun _ _ _ h => h) (by rfl) ?hrq1n1 hS ?_
          case hrq1n1 => (intro w hSw; (try dsimp only at hSw); go_split_ands; go_simp; (try with_reducible rfl))
          (try simp only [Act.put, List.setIfInBounds_toArray, List.set_cons_zero, List.set_cons_succ])
          refine any_take 1 ?vrq1n2 rfl (by kernel_rfl) (by kernel_rfl) (by kernel_rfl) (fun _ _ _ h => h) (by rfl) ?hrq1n2 hS ?_
          case hrq1n2 => (intro w hSw; (try dsimp only at hSw); go_split_ands; go_simp; (try with_reducible rfl))
          (try simp only [Act.put, List.setIfInBounds_toArray, List.set_cons_zero, List.set_cons_succ])
          refine any_take 2 ?vrq1n3 rfl (by kernel_rfl) (by kernel_rfl) (by kernel_rfl) (fun _ _ _ h => h) (by rfl) ?hrq1n3 hS ?_
          case hrq1n3 => (intro w hSw; (try dsimp only at hSw); go_split_ands; go_simp; (try with_reducible rfl))
          (try simp only [Act.put, List.setIfInBounds_toArray, List.set_cons_zero, List.set_cons_succ])
          refine any_take 3 ?vrq1n4 rfl (by kernel_rfl) (by kernel_rfl) (by kernel_rfl) (fun _ _ _ h => h) (by rfl) ?hrq1n4 hS ?_
          case hrq1n4 => (intro w hSw; (try dsimp only at hSw); go_split_ands; go_simp; (try with_reducible rfl))
          (try simp only [Act.put, List.setIfInBounds_toArray, List.set_cons_zero, List.set_cons_succ])
          refine any_take 4 ?vrq1n5 rfl (by kernel_rfl) (by kernel_rfl) (by kernel_rfl) (fun _ _ _ h => h) (by rfl) ?hrq1n5 hS ?_
          case hrq1n5 => (intro w hSw; (try dsimp only at hSw); go_split_ands; go_simp; (try with_reducible rfl))
          (try simp only [Act.put, List.setIfInBounds_toArray, List.set_cons_zero, List.set_cons_succ])
          refine any_take 5 ?vrq1n6 rfl (by kernel_rfl) (by kernel_rfl) (by kernel_rfl) (fun _ _ _ h => h) (by rfl) ?hrq1n6 hS ?_
          case hrq1n6 => (intro w hSw; (try dsimp only at hSw); go_split_ands; go_simp; (try with_reducible rfl))
          (try simp only [Act.put, List.setIfInBounds_toArray, List.set_cons_zero, List.set_cons_succ])
          refine any_take 6 (Value.bool true) rfl (by kernel_rfl) (by kernel_rfl) (by kernel_rfl) (fun _ _ _ h => h) (by rfl) (by intro w hSw; (try dsimp only at hSw); go_split_ands; go_simp; (try omega)) hS ?_
          (try simp only [Act.put, List.setIfInBounds_toArray, List.set_cons_zero, List.set_cons_succ])
          refine any_take 7 ?vrq1n7 rfl (by kernel_rfl) (by kernel_rfl) (by kernel_rfl) (fun _ _ _ h => h) (by rfl) ?hrq1n7 hS ?_
          case hrq1n7 => (intro w hSw; (try dsimp only at hSw); go_split_ands; go_simp; (try with_reducible rfl))
          (try simp only [Act.put, List.setIfInBounds_toArray, List.set_cons_zero, List.set_cons_succ])
          refine wpAnyH_done (by kernel_rfl) ?_ _
          refine NoPanic.normal ?_
          clear hS hS0
          change Exit.then _ _ Exit.normal _ wr.drew
          have HI2 : Hid (Row EL wr.drew (.slice q m3 k) L ∧ (∀ p, (Value.slice q m3 k).ownBlock = some p → w.heap.size ≤ p) ∧ Below w.heap.size w wr.drew) := ⟨hr.below (Below.refl _ _).drew, ho, hb.drew⟩
          clear hr ho hb
          generalize wr.drew = W2 at *
          clear wr
          obtain ⟨a5, c5, hcut1, hcut2, hs⟩ := cut_tail HA.out.2.2.2.2.2.2 HA.out.2.1 HA.out.2.2.2.1 1 (by have := HA.out.2.1; simp at this; omega)
          rw [show ((1 : Nat) : Int) = 1 from rfl] at hs
          simp only [List.drop_succ_cons, List.drop_zero] at hcut1
          have S1 : Hid (∀ V, (Instr.sliceAt 22 (.slice (some ⟨bb, ob, none⟩) m2 d') (some (.int .i64 1)) none none).run Try.prog V = .ok (.slice a5 (m2 - 1) c5) V) := hs
          obtain ⟨L2, hL2⟩ : ∃ L2, L2 = L ++ [y] := ⟨_, rfl⟩
          have cw3 : W2.drew.cell? ⟨bb, ob, none⟩ = some (.int .i64 y) := HC.out.2 W2.drew HI2.out.2.2.drew
          obtain ⟨q5, k5, W5, run1, r5, b5, o5, _⟩ := row_moreL (w := w) (HI2.out.1.below (Below.refl _ _).drew) (by have := HA.out.2.2.2.2.1.len; have := HX.out.2.2.2.2.2; omega) HI2.out.2.2.drew HI2.out.2.1 y
          rw [← hL2] at run1 r5 o5
          obtain ⟨m4, hm4⟩ : ∃ m4, m4 = L2.length := ⟨_, rfl⟩
          rw [← hm4] at run1 r5 o5
          have cw4 : (W2.drew.alloc (.cells #[.int .i64 y] 2)).cell? ⟨bb, ob, none⟩ = some (.int .i64 y) := HC.out.2 _ (HI2.out.2.2.drew.alloc HI2.out.2.2.drew.size _)
          have cw5 : W5.cell? ⟨bb, ob, none⟩ = some (.int .i64 y) := HC.out.2 W5 b5
          have R1 : Hid ((Builtin.append_ #[22, 22] 22 #[.slice q m3 k, .slice (some ⟨W2.drew.heap.size, 0, none⟩) 1 1]).run Try.prog (W2.drew.alloc (.cells #[.int .i64 y] 2)) = .ok (.slice q5 m4 k5) W5) := run1
          have HE : Hid (m1 = (x :: A').length ∧ m2 - 1 = B'.length ∧ m4 = L2.length ∧ m1 ≤ c' ∧ m2 - 1 ≤ c5 ∧ Mg X Y L2 (x :: A') B' ∧ LsO w (some ⟨ba, oa, none⟩) (x :: A') ∧ LsO w a5 B' ∧ Row EL W5 (.slice q5 m4 k5) L2 ∧ (∀ p, (Value.slice q5 m4 k5).ownBlock = some p → w.heap.size ≤ p) ∧ Below w.heap.size w W5) := ⟨HA.out.1, by have := HA.out.2.1; simp at this; omega, hm4, HA.out.2.2.1, hcut2, by rw [hL2]; exact HA.out.2.2.2.2.1.right (by omega), HA.out.2.2.2.2.2.1, hcut1, r5, o5, b5⟩
          have HM : Hid (0 < m2) := by show 0 < m2; have := HA.out.2.1; simp at this; omega
          clear hcut1 hcut2 hs run1 r5 b5 o5 hL2 hm4
          go_upto_region 8 with fail
          refine wp_region_noPanic ?_
          refine wp_region_held (S := fun V => V.cell? ⟨bb, ob, none⟩ = some (.int .i64 y)) (by kernel_rfl) ?_
          have hS := cw3
          refine any_take 0 ?vrr8n1 rfl (by kernel_rfl) (by kernel_rfl) (by kernel_rfl) (fun _ _ _ h => h) (by rfl) ?hrr8n1 hS ?_
          case hrr8n1 => (intro w hSw; (try dsimp only at hSw); go_split_ands; go_simp; (try with_reducible rfl))
          (try simp only [Act.put, List.setIfInBounds_toArray, List.set_cons_zero, List.set_cons_succ])
          refine any_take 1 ?vrr8n2 rfl (by kernel_rfl) (by kernel_rfl) (by kernel_rfl) (fun _ _ _ h => h) (by rfl) ?hrr8n2 hS ?_
          case hrr8n2 => (intro w hSw; (try dsimp only at hSw); go_split_ands; go_simp; (try with_reducible rfl))
          (try simp only [Act.put, List.setIfInBounds_toArray, List.set_cons_zero, List.set_cons_succ])
          refine any_take 2 ?vrr8n3 rfl (by kernel_rfl) (by kernel_rfl) (by kernel_rfl) (fun _ _ _ h => h) (by rfl) ?hrr8n3 hS ?_
          case hrr8n3 => (intro w hSw; (try dsimp only at hSw); go_split_ands; go_simp; (try with_reducible rfl))
          (try simp only [Act.put, List.setIfInBounds_toArray, List.set_cons_zero, List.set_cons_succ])
          refine any_take 3 ?vrr8n4 rfl (by kernel_rfl) (by kernel_rfl) (by kernel_rfl) (fun _ _ _ h => h) (by rfl) ?hrr8n4 hS ?_
          case hrr8n4 => (intro w hSw; (try dsimp only at hSw); go_split_ands; go_simp; (try with_reducible rfl))
          (try simp only [Act.put, List.setIfInBounds_toArray, List.set_cons_zero, List.set_cons_succ])
          refine any_take 6 ?vrr8n5 rfl (by kernel_rfl) (by kernel_rfl) (by kernel_rfl) (fun _ _ _ h => h) (by rfl) ?hrr8n5 hS ?_
          case hrr8n5 => (intro w hSw; (try dsimp only at hSw); go_split_ands; go_simp; (try with_reducible rfl))
          (try simp only [Act.put, List.setIfInBounds_toArray, List.set_cons_zero, List.set_cons_succ])
          refine any_take 7 (Value.slice a5 (m2 - 1) c5) rfl (by kernel_rfl) (by kernel_rfl) (by kernel_rfl) (fun _ _ _ h => h) (by rfl) (by intro w _; exact exec_slop 22 (.tmp 48) (some (.const (.int .i64 1))) none none rfl (.slice (some ⟨bb, ob, none⟩) m2 d') _ (some (.int .i64 1)) none none rfl rfl rfl rfl (S1.out w)) hS ?_
          (try simp only [Act.put, List.setIfInBounds_toArray, List.set_cons_zero, List.set_cons_succ])
          refine any_one 4 rfl (by kernel_rfl) (by rfl) (fun K hK => ?_)
          clear hS
          refine op_mk_run 22 1 _ rfl [(0, .int .i64 y)] _ rfl (mk_one y _) ?_
          refine hK.out _ _ (cw4) (fun hS => ?_)
          clear hK
          (try simp only [Act.put, List.setIfInBounds_toArray, List.set_cons_zero, List.set_cons_succ])
          refine any_one 5 rfl (by kernel_rfl) (by rfl) (fun K hK => ?_)
          clear hS
          refine op_append_run (.tmp 42) (.tmp 46) 22 rfl _ _ _ rfl rfl R1.out ?_
          refine hK.out _ _ (cw5) (fun hS => ?_)
          clear hK
          (try simp only [Act.put, List.setIfInBounds_toArray, List.set_cons_zero, List.set_cons_succ])
          refine any_take 8 ?vrr8n6 rfl (by kernel_rfl) (by kernel_rfl) (by kernel_rfl) (fun _ _ _ h => h) (by rfl) ?hrr8n6 hS ?_
          case hrr8n6 => (intro w hSw; (try dsimp only at hSw); go_split_ands; go_simp; (try with_reducible rfl))
          (try simp only [Act.put, List.setIfInBounds_toArray, List.set_cons_zero, List.set_cons_succ])
          refine any_take 9 ?vrr8n7 rfl (by kernel_rfl) (by kernel_rfl) (by kernel_rfl) (fun _ _ _ h => h) (by rfl) ?hrr8n7 hS ?_
          case hrr8n7 => (intro w hSw; (try dsimp only at hSw); go_split_ands; go_simp; (try with_reducible rfl))
          (try simp only [Act.put, List.setIfInBounds_toArray, List.set_cons_zero, List.set_cons_succ])
          refine wpAnyH_done (by kernel_rfl) ?_ _
          refine NoPanic.normal ?_
          clear hS
          go_wp2
          go_roundw
          case rel => exact ⟨x :: A', B', L2, some ⟨ba, oa, none⟩, a5, q5, c', c5, k5, m1, m2 - 1, m4, rfl, rfl, rfl, HE.out.1, HE.out.2.1, HE.out.2.2.1, HE.out.2.2.2.1, HE.out.2.2.2.2.1, HE.out.2.2.2.2.2.1, HE.out.2.2.2.2.2.2.1, HE.out.2.2.2.2.2.2.2.1, HE.out.2.2.2.2.2.2.2.2.1, HE.out.2.2.2.2.2.2.2.2.2.1, HE.out.2.2.2.2.2.2.2.2.2.2⟩
          case measure => have := HM.out; simp [slen]; omega
        · go_upto_region 7 with fail
          refine wp_region_noPanic ?_
          refine wp_region_held (S := fun V => V.cell? ⟨ba, oa, none⟩ = some (.int .i64 x) ∧ V.cell? ⟨bb, ob, none⟩ = some (.int .i64 y)) (by kernel_rfl) ?_
          have hS := hS0
          refine any_take 0 ?vrq0n1 rfl (by kernel_rfl) (by kernel_rfl) (by kernel_rfl) (fun _ _ _ h => h) (by rfl) ?hrq0n1 hS ?_
          case hrq0n1 => (intro w hSw; (try dsimp only at hSw); go_split_ands; go_simp; (try with_reducible rfl))
          (try simp only [Act.put, List.setIfInBounds_toArray, List.set_cons_zero, List.set_cons_succ])
          refine any_take 1 ?vrq0n2 rfl (by kernel_rfl) (by kernel_rfl) (by kernel_rfl) (fun _ _ _ h => h) (by rfl) ?hrq0n2 hS ?_
          case hrq0n2 => (intro w hSw; (try dsimp only at hSw); go_split_ands; go_simp; (try with_reducible rfl))
          (try simp only [Act.put, List.setIfInBounds_toArray, List.set_cons_zero, List.set_cons_succ])
          refine any_take 2 ?vrq0n3 rfl (by kernel_rfl) (by kernel_rfl) (by kernel_rfl) (fun _ _ _ h => h) (by rfl) ?hrq0n3 hS ?_
          case hrq0n3 => (intro w hSw; (try dsimp only at hSw); go_split_ands; go_simp; (try with_reducible rfl))
          (try simp only [Act.put, List.setIfInBounds_toArray, List.set_cons_zero, List.set_cons_succ])
          refine any_take 3 ?vrq0n4 rfl (by kernel_rfl) (by kernel_rfl) (by kernel_rfl) (fun _ _ _ h => h) (by rfl) ?hrq0n4 hS ?_
          case hrq0n4 => (intro w hSw; (try dsimp only at hSw); go_split_ands; go_simp; (try with_reducible rfl))
          (try simp only [Act.put, List.setIfInBounds_toArray, List.set_cons_zero, List.set_cons_succ])
          refine any_take 4 ?vrq0n5 rfl (by kernel_rfl) (by kernel_rfl) (by kernel_rfl) (fun _ _ _ h => h) (by rfl) ?hrq0n5 hS ?_
          case hrq0n5 => (intro w hSw; (try dsimp only at hSw); go_split_ands; go_simp; (try with_reducible rfl))
          (try simp only [Act.put, List.setIfInBounds_toArray, List.set_cons_zero, List.set_cons_succ])
          refine any_take 5 ?vrq0n6 rfl (by kernel_rfl) (by kernel_rfl) (by kernel_rfl) (fun _ _ _ h => h) (by rfl) ?hrq0n6 hS ?_
          case hrq0n6 => (intro w hSw; (try dsimp only at hSw); go_split_ands; go_simp; (try with_reducible rfl))
          (try simp only [Act.put, List.setIfInBounds_toArray, List.set_cons_zero, List.set_cons_succ])
          refine any_take 6 (Value.bool false) rfl (by kernel_rfl) (by kernel_rfl) (by kernel_rfl) (fun _ _ _ h => h) (by rfl) (by intro w hSw; (try dsimp only at hSw); go_split_ands; go_simp; (try omega)) hS ?_
          (try simp only [Act.put, List.setIfInBounds_toArray, List.set_cons_zero, List.set_cons_succ])
          refine any_take 7 ?vrq0n7 rfl (by kernel_rfl) (by kernel_rfl) (by kernel_rfl) (fun _ _ _ h => h) (by rfl) ?hrq0n7 hS ?_
          case hrq0n7 => (intro w hSw; (try dsimp only at hSw); go_split_ands; go_simp; (try with_reducible rfl))
          (try simp only [Act.put, List.setIfInBounds_toArray, List.set_cons_zero, List.set_cons_succ])
          refine wpAnyH_done (by kernel_rfl) ?_ _
          refine NoPanic.normal ?_
          clear hS hS0
          change Exit.then _ _ Exit.normal _ wr.drew
          have HI2 : Hid (Row EL wr.drew (.slice q m3 k) L ∧ (∀ p, (Value.slice q m3 k).ownBlock = some p → w.heap.size ≤ p) ∧ Below w.heap.size w wr.drew) := ⟨hr.below (Below.refl _ _).drew, ho, hb.drew⟩
          clear hr ho hb
          generalize wr.drew = W2 at *
          clear wr
          obtain ⟨a5, c5, hcut1, hcut2, hs⟩ := cut_tail HA.out.2.2.2.2.2.1 HA.out.1 HA.out.2.2.1 1 (by have := HA.out.1; simp at this; omega)
          rw [show ((1 : Nat) : Int) = 1 from rfl] at hs
          simp only [List.drop_succ_cons, List.drop_zero] at hcut1
          have S1 : Hid (∀ V, (Instr.sliceAt 22 (.slice (some ⟨ba, oa, none⟩) m1 c') (some (.int .i64 1)) none none).run Try.prog V = .ok (.slice a5 (m1 - 1) c5) V) := hs
          obtain ⟨L2, hL2⟩ : ∃ L2, L2 = L ++ [x] := ⟨_, rfl⟩
          have cw3 : W2.drew.cell? ⟨ba, oa, none⟩ = some (.int .i64 x) := HC.out.1 W2.drew HI2.out.2.2.drew
          obtain ⟨q5, k5, W5, run1, r5, b5, o5, _⟩ := row_moreL (w := w) (HI2.out.1.below (Below.refl _ _).drew) (by have := HA.out.2.2.2.2.1.len; have := HX.out.2.2.2.2.2; omega) HI2.out.2.2.drew HI2.out.2.1 x
          rw [← hL2] at run1 r5 o5
          obtain ⟨m4, hm4⟩ : ∃ m4, m4 = L2.length := ⟨_, rfl⟩
          rw [← hm4] at run1 r5 o5
          have cw4 : (W2.drew.alloc (.cells #[.int .i64 x] 2)).cell? ⟨ba, oa, none⟩ = some (.int .i64 x) := HC.out.1 _ (HI2.out.2.2.drew.alloc HI2.out.2.2.drew.size _)
          have cw5 : W5.cell? ⟨ba, oa, none⟩ = some (.int .i64 x) := HC.out.1 W5 b5
          have R1 : Hid ((Builtin.append_ #[22, 22] 22 #[.slice q m3 k, .slice (some ⟨W2.drew.heap.size, 0, none⟩) 1 1]).run Try.prog (W2.drew.alloc (.cells #[.int .i64 x] 2)) = .ok (.slice q5 m4 k5) W5) := run1
          have HE : Hid (m1 - 1 = A'.length ∧ m2 = (y :: B').length ∧ m4 = L2.length ∧ m1 - 1 ≤ c5 ∧ m2 ≤ d' ∧ Mg X Y L2 A' (y :: B') ∧ LsO w a5 A' ∧ LsO w (some ⟨bb, ob, none⟩) (y :: B') ∧ Row EL W5 (.slice q5 m4 k5) L2 ∧ (∀ p, (Value.slice q5 m4 k5).ownBlock = some p → w.heap.size ≤ p) ∧ Below w.heap.size w W5) := ⟨by have := HA.out.1; simp at this; omega, HA.out.2.1, hm4, hcut2, HA.out.2.2.2.1, by rw [hL2]; exact HA.out.2.2.2.2.1.left (by omega), hcut1, HA.out.2.2.2.2.2.2, r5, o5, b5⟩
          have HM : Hid (0 < m1) := by show 0 < m1; have := HA.out.1; simp at this; omega
          clear hcut1 hcut2 hs run1 r5 b5 o5 hL2 hm4
          go_upto_region 2 with fail
          refine wp_region_noPanic ?_
          refine wp_region_held (S := fun V => V.cell? ⟨ba, oa, none⟩ = some (.int .i64 x)) (by kernel_rfl) ?_
          have hS := cw3
          refine any_take 0 ?vrr2n1 rfl (by kernel_rfl) (by kernel_rfl) (by kernel_rfl) (fun _ _ _ h => h) (by rfl) ?hrr2n1 hS ?_
          case hrr2n1 => (intro w hSw; (try dsimp only at hSw); go_split_ands; go_simp; (try with_reducible rfl))
          (try simp only [Act.put, List.setIfInBounds_toArray, List.set_cons_zero, List.set_cons_succ])
          refine any_take 1 ?vrr2n2 rfl (by kernel_rfl) (by kernel_rfl) (by kernel_rfl) (fun _ _ _ h => h) (by rfl) ?hrr2n2 hS ?_
          case hrr2n2 => (intro w hSw; (try dsimp only at hSw); go_split_ands; go_simp; (try with_reducible rfl))
          (try simp only [Act.put, List.setIfInBounds_toArray, List.set_cons_zero, List.set_cons_succ])
          refine any_take 2 ?vrr2n3 rfl (by kernel_rfl) (by kernel_rfl) (by kernel_rfl) (fun _ _ _ h => h) (by rfl) ?hrr2n3 hS ?_
          case hrr2n3 => (intro w hSw; (try dsimp only at hSw); go_split_ands; go_simp; (try with_reducible rfl))
          (try simp only [Act.put, List.setIfInBounds_toArray, List.set_cons_zero, List.set_cons_succ])
          refine any_take 3 ?vrr2n4 rfl (by kernel_rfl) (by kernel_rfl) (by kernel_rfl) (fun _ _ _ h => h) (by rfl) ?hrr2n4 hS ?_
          case hrr2n4 => (intro w hSw; (try dsimp only at hSw); go_split_ands; go_simp; (try with_reducible rfl))
          (try simp only [Act.put, List.setIfInBounds_toArray, List.set_cons_zero, List.set_cons_succ])
          refine any_take 6 ?vrr2n5 rfl (by kernel_rfl) (by kernel_rfl) (by kernel_rfl) (fun _ _ _ h => h) (by rfl) ?hrr2n5 hS ?_
          case hrr2n5 => (intro w hSw; (try dsimp only at hSw); go_split_ands; go_simp; (try with_reducible rfl))
          (try simp only [Act.put, List.setIfInBounds_toArray, List.set_cons_zero, List.set_cons_succ])
          refine any_take 7 (Value.slice a5 (m1 - 1) c5) rfl (by kernel_rfl) (by kernel_rfl) (by kernel_rfl) (fun _ _ _ h => h) (by rfl) (by intro w _; exact exec_slop 22 (.tmp 18) (some (.const (.int .i64 1))) none none rfl (.slice (some ⟨ba, oa, none⟩) m1 c') _ (some (.int .i64 1)) none none rfl rfl rfl rfl (S1.out w)) hS ?_
          (try simp only [Act.put, List.setIfInBounds_toArray, List.set_cons_zero, List.set_cons_succ])
          refine any_one 4 rfl (by kernel_rfl) (by rfl) (fun K hK => ?_)
          clear hS
          refine op_mk_run 22 1 _ rfl [(0, .int .i64 x)] _ rfl (mk_one x _) ?_
          refine hK.out _ _ (cw4) (fun hS => ?_)
          clear hK
          (try simp only [Act.put, List.setIfInBounds_toArray, List.set_cons_zero, List.set_cons_succ])
          refine any_one 5 rfl (by kernel_rfl) (by rfl) (fun K hK => ?_)
          clear hS
          refine op_append_run (.tmp 12) (.tmp 16) 22 rfl _ _ _ rfl rfl R1.out ?_
          refine hK.out _ _ (cw5) (fun hS => ?_)
          clear hK
          (try simp only [Act.put, List.setIfInBounds_toArray, List.set_cons_zero, List.set_cons_succ])
          refine any_take 8 ?vrr2n6 rfl (by kernel_rfl) (by kernel_rfl) (by kernel_rfl) (fun _ _ _ h => h) (by rfl) ?hrr2n6 hS ?_
          case hrr2n6 => (intro w hSw; (try dsimp only at hSw); go_split_ands; go_simp; (try with_reducible rfl))
          (try simp only [Act.put, List.setIfInBounds_toArray, List.set_cons_zero, List.set_cons_succ])
          refine any_take 9 ?vrr2n7 rfl (by kernel_rfl) (by kernel_rfl) (by kernel_rfl) (fun _ _ _ h => h) (by rfl) ?hrr2n7 hS ?_
          case hrr2n7 => (intro w hSw; (try dsimp only at hSw); go_split_ands; go_simp; (try with_reducible rfl))
          (try simp only [Act.put, List.setIfInBounds_toArray, List.set_cons_zero])
          refine wpAnyH_done (by kernel_rfl) ?_ _
          refine NoPanic.normal ?_
          clear hS
          go_wp2
          go_roundw
          case rel => exact ⟨A', y :: B', L2, a5, some ⟨bb, ob, none⟩, q5, c5, d', k5, m1 - 1, m2, m4, rfl, rfl, rfl, HE.out.1, HE.out.2.1, HE.out.2.2.1, HE.out.2.2.2.1, HE.out.2.2.2.2.1, HE.out.2.2.2.2.2.1, HE.out.2.2.2.2.2.2.1, HE.out.2.2.2.2.2.2.2.1, HE.out.2.2.2.2.2.2.2.2.1, HE.out.2.2.2.2.2.2.2.2.2.1, HE.out.2.2.2.2.2.2.2.2.2.2⟩
          case measure => have := HM.out; simp [slen]; omega
end Go.Proofs.Ytfifcfdlmpgohaa
