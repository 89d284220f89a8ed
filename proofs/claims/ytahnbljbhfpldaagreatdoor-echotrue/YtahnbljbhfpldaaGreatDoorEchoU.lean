/-
  The key of two nodes: as long as a key. No contract here.
-/
import Derived.Test.YtahnbljbhfpldaaGreatDoorEchoM
import Derived.Test.YtahnbljbhfpldaaGreatDoorKdfA
namespace Go.Proofs.YtahnbljbhfpldaaGreatDoor
open Go.ChangeShapes Go.WideShapes Go.ChangeAt Go.RowKit
set_option maxRecDepth 20000
theorem pairK_len {ms : List UInt8} {i j : Int} (hm : ms.length = 16) (hi : 0 ≤ i ∧ i < 8) (hj : 0 ≤ j ∧ j < 8) (hne : i ≠ j) : (pairP ms i j).2 = 0 ∧ (pairK ms i j).length = 16 := by
  have h : pairP ms i j = keyP ms pairN [(min i j).toNat, (max i j).toNat] := by
    unfold pairP
    rw [if_pos ⟨by simp [nodeP, hi], by simp [nodeP, hj], hne⟩]
  have h2 : keyP ms pairN [(min i j).toNat, (max i j).toNat] = (keyOf ms pairN [(min i j).toNat, (max i j).toNat], 0) := keyP_ok _ _ _ labels.1 (by simp) (by omega)
  unfold pairK
  rw [h, h2]
  exact ⟨rfl, keyOf_length _ _ _⟩
theorem pairK_comm (ms : List UInt8) (i j : Int) : pairK ms i j = pairK ms j i := by
  unfold pairK pairP
  rw [show min i j = min j i by omega, show max i j = max j i by omega]
  by_cases h : nodeP i = true ∧ nodeP j = true ∧ i ≠ j
  · rw [if_pos h, if_pos ⟨h.2.1, h.1, fun e => h.2.2 e.symm⟩]
  · rw [if_neg h, if_neg (fun hh => h ⟨hh.2.1, hh.1, fun e => hh.2.2 e.symm⟩)]
def anL (x : An) (a : Option Addr) (c : Nat) : List Value := [.int .i64 x.f, .int .i64 x.lo, .int .i64 x.hi, .int .i64 x.e, .int .i64 x.s, .int .i64 x.i, .slice a x.key.length c]
def anC (x : An) (a : Option Addr) (c : Nat) : Array Value := (anL x a c).toArray
theorem anC_size (x : An) (a : Option Addr) (c : Nat) : (anC x a c).size = 7 := rfl
theorem anC_one (x : An) (a : Option Addr) (c : Nat) : (anC x a c).all (·.oneCell') = true := all_oneCell_toArray (by
  intro v hv
  simp only [anL, List.mem_cons, List.not_mem_nil, or_false] at hv
  rcases hv with rfl | rfl | rfl | rfl | rfl | rfl | rfl <;> rfl)
def HeardN (w w' : World) (e : Ending) (x : An) (n : Int) : Prop := ∃ a c, e = .returned (.tuple #[.agg (anC x a c), .int .i64 n]) ∧ Sees w' a c x.key ∧ Below w.heap.size w w'
theorem op_store_run {w w' : World} {o : Oper} {a : Act} {K : Act → World → Prop} {Q : Exit → Act → World → Prop} (ty : TypeId) (x y : Operand) (ho : o.op = .store ty x y) (v u : Value) (hx : a.eval x = v) (hy : a.eval y = u) (hrun : (Instr.storeAt ty v u).run Tryz.prog w = .ok () w') (h : K (a.put o.dst undef) w') : Oper.wp Tryz.prog o a w K Q := by
  unfold Oper.wp execOp
  simp only [ho, hx, hy, Sem.run_bind, hrun, Result.andThen_ok, Sem.run_pure]
  exact h
theorem Ec.heB_iff {s : Ec} {F : Fr} {now : Int} (h : s.heB F now = true) : F.k = 3 ∧ F.t = s.i ∧ rightB F = true ∧ (0 ≤ F.f ∧ F.f < s.c.n) ∧ timeB now = true ∧ F.key.length = 16 ∧ 0 ≤ F.m ∧ F.m ≤ 1099511627776 := by
  simp only [Ec.heB, Bool.and_eq_true, decide_eq_true_eq] at h
  obtain ⟨⟨⟨⟨h1, h2⟩, h3⟩, h4⟩, h5⟩ := h
  refine ⟨h1, h2, h3, ?_, h5, ?_⟩
  · have := h3
    simp [rightB, coreB, numsB, inB] at this
    omega
  · have := h3
    simp [rightB, coreB, numsB, inB, h1] at this
    omega
end Go.Proofs.YtahnbljbhfpldaaGreatDoor
