/-
  The contract of slices.Insert over numbers, one at a time.
-/
import Derived.Test.YtmionehafekokaaGrdA
import Derived.Deep.Cut
import Derived.BigRegion
namespace Go.Proofs.Ytmionehafekokaa
open Go.ChangeShapes Go.WideShapes Go.ChangeAt Go.RowKit
theorem over_find : Extern.find Try.f35 = some (Extern.SlicesOverlaps.overlaps #[42, 42] #[4]) := by kernel_rfl
theorem over_next : (Extern.findNext Try.f35).isNone = true := by kernel_rfl
theorem over_call (args : Array Value) (w : World) : (callFunc 35 args).run Try.prog w = ((Extern.SlicesOverlaps.overlaps #[42, 42] #[4] args).run Try.prog w).andThen (fun v w' => .ok (.value v) w') := by
  have h1 := over_find
  have h2 : Extern.findNext Try.f35 = none := by simpa using over_next
  have h3 : ¬ Try.f35.name = "runtime.NumGoroutine" := by decide
  have h4 : Try.f35.body = none := by rfl
  have h5 : Try.prog.funcs[35]? = some Try.f35 := by kernel_rfl
  simp [callFunc, h5, h4, h3, h2, h1, go_sem]
theorem over_no (w : World) (c q o n cap : Nat) (cs cur : Array Value) (t : TypeId) (hc : w.heap[c]? = some (.cells cs t (0, 0))) (hq : w.heap[q]? = some (.cells cur 3 (0, 0))) (hne : c ≠ q) :
    (callFunc 35 #[.slice (some ⟨c, 0, none⟩) 1 1, .slice (some ⟨q, o, none⟩) n cap]).run Try.prog w = .ok (.value (.bool false)) w := by
  rw [over_call]
  have hz : (sizeOf 3).run Try.prog w = .ok 1 w := by kernel_rfl
  have f1 : w.frozen? ⟨c, 0, none⟩ = false := by simp [World.frozen?, hc]
  have f2 : w.frozen? ⟨q, o, none⟩ = false := by simp [World.frozen?, hq]
  delta Extern.SlicesOverlaps.overlaps
  delta Extern.SlicesOverlaps.overlaps.match_4
  dsimp only
  simp only [List.size_toArray, List.length_cons, List.length_nil, Nat.zero_add, Nat.reduceAdd, dite_true]
  simp only [Array.getLit, List.getElem_toArray, List.getElem_cons_zero, List.getElem_cons_succ]
  delta Extern.SlicesOverlaps.overlaps._sparseCasesOn_4
  dsimp only
  have s1 : w.shape? c = some (t, cs.size) := by simp [World.shape?, hc]
  have s2 : w.shape? q = some (3, cur.size) := by simp [World.shape?, hq]
  have f3 : w.frozen? ⟨c, cs.size, none⟩ = false := by simp [World.frozen?, hc]
  have f4 : w.frozen? ⟨q, cur.size, none⟩ = false := by simp [World.frozen?, hq]
  simp [run_underlying u42, hz, f1, f2, f3, f4, s1, s2, hne, noView, viewAt, mayBeOne, stringish, go_sem]
/-- A 'copy' whose run is known. -/
theorem wpList_copy_run {P : Program} {w w' : World} {ops : Array Oper} {rest : List Oper} {o : Oper} {a : Act} {Q : Exit → Act → World → Prop} (hgd : o.guard = none) (s x : Operand) (t : TypeId)
    (ho : o.op = .call { callee := .builtin .copy, args := #[s, x], argTypes := #[t, t] }) (v u r : Value) (hs : a.eval s = v) (hx : a.eval x = u)
    (hrun : (Builtin.copy_ #[t, t] o.type #[v, u]).run P w = .ok r w') (h : wpList P ops Q rest (a.put o.dst r) w') : wpList P ops Q (o :: rest) a w := by
  refine wpList_plain hgd fun K hK => ?_
  unfold Oper.wp
  simp [execOp, ho, resolve, invoke, builtin, hs, hx, hrun, Result.andThen]
  exact hK _ _ h
/-- append(s, make([]T, n)...), past the room of s. -/
theorem run_append_grow_zeros {P : Program} (w : World) (t tn ty e : TypeId) (i : TypeInfo) (z : Value) (k kn : IntKind) (ht : P.underlying t = some (.slice e)) (htn : P.underlying tn = some (.int kn)) (hi : P.info? e = some i) (hz : i.zero = some z)
    (b : Addr) (sLen sCap : Nat) (olds : List Value) (hlo : olds.length = sLen * i.size) (holds : ∀ j v, olds[j]? = some v → w.cell? (b.add j) = some v) (n : Nat) (hs : 0 < i.size)
    (hg : sCap < sLen + n) (h0 : 0 < n) (h63 : ((sLen + n : Nat) : Int) ≤ 9223372036854775807) (h48 : n * i.bytes ≤ 281474976710656) (hfit : Builtin.nextslicecap (sLen + n) sCap * i.bytes ≤ 281474976710656) :
    (Builtin.append_ #[t, tn] ty #[.slice (some b) sLen sCap, .int k n]).run P w =
      .ok (.slice (some ⟨w.heap.size, 0, none⟩) (sLen + n) (grownCap w (sLen + n) sCap e))
        (w.drew.alloc (.cells (olds.toArray ++ Builtin.zeroCells z.cells n ++ Builtin.zeroCells z.cells (grownCap w (sLen + n) sCap e - (sLen + n))) e)) := by
  have hn : ¬ (sLen + n ≤ sCap) := by omega
  have hw : IntKind.i64.wrap (n : Int) = n := by rw [IntKind.wrap_i64]; omega
  have h63' : ¬ (9223372036854775807 < ((sLen : Int) + (n : Int))) := by omega
  have h48' : ¬ (281474976710656 < Builtin.nextslicecap (sLen + n) sCap * i.bytes) := by omega
  have h48i : ¬ (281474976710656 < (n : Int) * (i.bytes : Int)) := by rw [← Int.natCast_mul]; omega
  have hneg : ¬ ((n : Int) < 0) := by omega
  have hns : ¬ (n * i.size = 0) := Nat.mul_ne_zero (by omega) (by omega)
  have hfo := run_firstCells_some (P := P) w.drew i.size sLen b sLen sCap olds hlo (by simpa using holds)
  simp [Builtin.append_, run_underlying ht, run_underlying htn, sizeOf, typeInfo, zeroValue, hi, hz, asInt, asIntOf, hw, hneg, hns, hn, h63', h48', h48i, Question.forced, hfo, newRow, grownCap]

/-- What Insert leaves. -/
def Ins (w : World) (s : Value) (rs : List Int) (k : Nat) (x : Int) (e : Ending) (w' : World) : Prop :=
  ∃ s', e = .returned s' ∧ RsAt w' s' (rs.take k ++ x :: rs.drop k) ∧ Apart (fun b => s.ownBlock = some b) w w' ∧ ∀ b, s'.ownBlock = some b → s.ownBlock = some b ∨ w.heap.size ≤ b

set_option maxHeartbeats 1600000 in
set_option maxRecDepth 20000 in
theorem insert_end (w : World) (s : Value) (rs : List Int) (h : RsAt w s rs) (hl : rs.length ≤ 1000) (x : Int) (c : Nat) (hc : w.cell? ⟨c, 0, none⟩ = some (.int .i64 x)) :
    Calls Try.prog 33 #[s, .int .i64 (rs.length : Int), .slice (some ⟨c, 0, none⟩) 1 1] w fun e w' => Ins w s rs rs.length x e w' := by
  obtain ⟨s', w', hrun, h1, h2, h3⟩ := h.push hl x c hc
  have HE : Hid (RsAt w' s' (rs.take rs.length ++ x :: rs.drop rs.length) ∧ Apart (fun b => s.ownBlock = some b) w w' ∧ ∀ b, s'.ownBlock = some b → s.ownBlock = some b ∨ w.heap.size ≤ b) := ⟨by simpa using h1, h2, h3⟩
  have HR : Hid ((Builtin.append_ #[42, 42] 42 #[s, .slice (some ⟨c, 0, none⟩) 1 1]).run Try.prog w = .ok s' w') := hrun
  obtain ⟨a, cap, rfl, hcap, hmax, _, _⟩ := h.shape
  have hcm : cap ≤ 9223372036854775807 := by unfold maxLen at hmax; omega
  clear h hrun h1 h2 h3 hc hmax
  generalize hn : rs.length = n at *
  have HN : Hid (rs.length = n) := hn
  clear hn
  rw [← HN.out]
  rw [HN.out]
  go_enter Try.func33, Try.ntmps33
  by_cases e : n = cap
  all_goals
    go_wp2_with (at_builtin; refine wpList_append_run rfl _ _ 42 rfl _ _ _ rfl rfl HR.out ?_)
    go_ret
    exact ⟨_, rfl, HE.out⟩
end Go.Proofs.Ytmionehafekokaa
