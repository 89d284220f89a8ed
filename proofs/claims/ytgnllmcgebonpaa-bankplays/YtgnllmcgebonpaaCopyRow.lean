/-
  'copy' into a row of bytes; a slice's tail. No law of the program's own here.
-/
import Derived.Test.YtgnllmcgebonpaaBytes
import Derived.Test.YtgnllmcgebonpaaFoot
import Derived.Laws.CopyRow
namespace Go.Proofs.Ytgnllmcgebonpaa
open Go.ChangeShapes Go.WideShapes Go.ChangeAt Go.RowKit

/-- A 'copy' whose run is known. -/
theorem wpList_copy_run {P : Program} {w w' : World} {ops : Array Oper} {rest : List Oper} {o : Oper} {a : Act} {Q : Exit → Act → World → Prop} (hgd : o.guard = none) (s x : Operand) (t : TypeId)
    (ho : o.op = .call { callee := .builtin .copy, args := #[s, x], argTypes := #[t, t] }) (v u r : Value) (hs : a.eval s = v) (hx : a.eval x = u)
    (hrun : (Builtin.copy_ #[t, t] o.type #[v, u]).run P w = .ok r w') (h : wpList P ops Q rest (a.put o.dst r) w') : wpList P ops Q (o :: rest) a w := by
  refine wpList_plain hgd fun K hK => ?_
  unfold Oper.wp
  simp [execOp, ho, resolve, invoke, builtin, hs, hx, hrun, Result.andThen]
  exact hK _ _ h

/-- A slice's tail. -/
theorem Sees.tail {w : World} {b o cap : Nat} {l : List UInt8} (h : Sees w (some ⟨b, o, none⟩) cap l) (q : Nat) (hq : q ≤ l.length) : Sees w (some ⟨b, o + q, none⟩) (cap - q) (l.drop q) := by
  refine ⟨by rw [List.length_drop]; have := h.fits; omega, by have := h.room; omega, (fun h0 => by cases h0), fun hne => ⟨b, o + q, rfl, fun i x hx => ?_⟩⟩
  rw [List.getElem?_drop] at hx
  obtain ⟨b1, o1, he, hc⟩ := h.get hx
  simp only [Option.some.injEq, Addr.mk.injEq, and_true] at he
  obtain ⟨rfl, rfl⟩ := he
  rw [Nat.add_assoc]; exact hc

/-- 'copy' of bytes into a row, from the place o on. -/
theorem copy_row (w : World) (g o m dc : Nat) (cur : Array Value) (hg : w.heap[g]? = some (.cells cur 5 (0, 0))) (hm : o + m ≤ cur.size) (a : Option Addr) (ca : Nat) (l : List UInt8) (ha : Sees w a ca l) (k : Nat) (hk : k = min l.length m) :
    ∃ w', (Builtin.copy_ #[22, 22] 3 #[.slice (some ⟨g, o, none⟩) m dc, .slice a l.length ca]).run Try.prog w = .ok (.int .i64 (k : Int)) w' ∧
      w'.heap[g]? = some (.cells (cur.toList.take o ++ (l.take k).map cellOf ++ cur.toList.drop (o + k)).toArray 5 (0, 0)) ∧ Apart (fun i => i = g) w w' ∧ w'.heap.size = w.heap.size := by
  by_cases h0 : k = 0
  · subst h0
    refine ⟨w, run_copy_none (P := Try.prog) w 22 22 3 5 _ _ m dc l.length ca Try.underlying22 (by kernel_rfl) hk.symm, ?_, Apart.refl _ _, rfl⟩
    rw [hg]; simp
  · obtain ⟨b, off, rfl, _⟩ := ha.at' (by rintro rfl; simp at hk; omega)
    have hlen : ((l.take k).map cellOf).length = k := by simp; omega
    have h1 := run_copy_row Try.prog w 22 22 3 5 g o m dc ⟨b, off, none⟩ l.length ca cur 5 ((l.take k).map cellOf) Try.underlying22 (by kernel_rfl) hg (by rw [hlen]; exact hk) ((ha.take k).news _ rfl) (by rw [hlen]; omega) (bytes_oneCell _)
    rw [hlen] at h1
    exact ⟨_, h1, setRow_heap w g _ _ 5 _ hg, ⟨rfl, rfl, rfl, by simp [World.setRow], fun i hi hn => by simp [World.setRow, Array.getElem?_modify, Ne.symm hn]⟩, by simp [World.setRow]⟩
/-- .. into nothing. -/
theorem copy_nil (w : World) (d : Option Addr) (dc : Nat) (a : Option Addr) (ca n : Nat) : (Builtin.copy_ #[22, 22] 3 #[.slice d 0 dc, .slice a n ca]).run Try.prog w = .ok (.int .i64 0) w :=
  run_copy_none (P := Try.prog) w 22 22 3 5 _ _ 0 dc n ca Try.underlying22 (by kernel_rfl) (by simp)
end Go.Proofs.Ytgnllmcgebonpaa
