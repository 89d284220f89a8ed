/-
  What both sides of a speaker's chain share: bounds, and what Known tells.
-/
import Derived.Test.YtgncdnejmobjbaaGreatDoorRenM
import Derived.Test.YtgncdnejmobjbaaGreatDoorDisC
namespace Go.Proofs.YtgncdnejmobjbaaGreatDoor
open Go.ChangeShapes Go.WideShapes Go.ChangeAt Go.RowKit
set_option maxRecDepth 20000

theorem nkeys {c : Cf} (h : okB c = true) : 1 ≤ c.k ∧ c.k ≤ 256 := by
  have hr := right_of h
  have h0 := hr.k0
  have h1 := hr.d0
  exact ⟨by omega, hr.k1⟩
theorem exec_load {P : Program} {o : Oper} {a : Act} {w : World} (ty : TypeId) (x : Operand) (ho : o.op = .load ty x) (v r : Value) (hx : a.eval x = v) (hrun : (Instr.loadAt ty v).run P w = .ok r w) : (execOp a.eval o).run P w = .ok (.value r) w := by
  unfold execOp
  simp only [ho, hx, Sem.run_bind, hrun, Result.andThen_ok, Sem.run_pure]
theorem tolN_in {c : Cf} (h : okB c = true) (x : Int) : 0 ≤ tolN c x ∧ tolN c x ≤ c.k := by
  have := nkeys h
  unfold tolN mnN mxN
  split <;> split <;> omega
/-- What Known tells: the greatest index that is told by now. -/
def KnIs (s : Rn) (now : Int) (p : Int × Int) : Prop := (knB s.c s.sl s.st now = false ∧ p = (0, 1)) ∨ (knB s.c s.sl s.st now = true ∧ p.2 = 0 ∧ Kn s.c s.sl s.st now p.1)
theorem KnIs.one {s : Rn} (ho : okB s.c = true) {now : Int} {p q : Int × Int} (h : KnIs s now p) (h' : KnIs s now q) : p = q := by
  rcases h with ⟨a, rfl⟩ | ⟨a, b, c⟩
  · rcases h' with ⟨a', rfl⟩ | ⟨a', b', c'⟩
    · rfl
    · rw [a] at a'; cases a'
  · rcases h' with ⟨a', rfl⟩ | ⟨a', b', c'⟩
    · rw [a] at a'; cases a'
    · exact Prod.ext (Kn.one ho c c') (b.trans b'.symm)
theorem nstore_int (w : World) (a : Addr) (old : Value) (x : Int) (hc : w.cell? a = some old) (hf : w.frozen? a = false) : (Instr.storeAt 3 (.pointer (some a)) (.int .i64 x)).run Tryz.prog w = .ok () (w.setCell a (.int .i64 x)) := by
  go_simp
theorem nstore_rows (w : World) (a : Addr) (old : Value) (x : Option Addr) (n c : Nat) (hc : w.cell? a = some old) (hf : w.frozen? a = false) : (Instr.storeAt 50 (.pointer (some a)) (.slice x n c)).run Tryz.prog w = .ok () (w.setCell a (.slice x n c)) := by
  go_simp
end Go.Proofs.YtgncdnejmobjbaaGreatDoor
