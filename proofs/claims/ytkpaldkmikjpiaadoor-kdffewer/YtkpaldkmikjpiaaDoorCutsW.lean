/-
  Appending to a slice of the call's own; the walk of ShaCuts.
-/
import Derived.Test.YtkpaldkmikjpiaaDoorTabs
namespace Go.Proofs.YtkpaldkmikjpiaaDoor
open Go.ChangeShapes Go.WideShapes Go.ChangeAt Go.RowKit

/-- An append to a slice of the call's own, of whatever bytes. -/
theorem append_own_any (w : World) (base : Nat) (v : Value) (xs : List UInt8) (ho : w.ownsRow base 5 1 v xs.length (xs.map cellOf)) (x : Option Addr) (cx : Nat) (cs : List UInt8) (hx : Sees w x cx cs)
    (hb : xs.length + cs.length ≤ 140737488355328) (hbase : base ≤ w.heap.size) :
    ∃ v' w', (Builtin.append_ #[22, 22] 22 #[v, .slice x cs.length cx]).run Tryd.prog w = .ok v' w' ∧ w'.ownsRow base 5 1 v' (xs ++ cs).length ((xs ++ cs).map cellOf) ∧
      (∀ B a0, Below B a0 w → B ≤ base → Below B a0 w') := by
  obtain ⟨i5, hi, hz0, hz1, hz2⟩ := info_parts Tryd.info5
  by_cases h0 : cs = []
  · subst h0
    obtain ⟨d, cd, rfl, hs⟩ := Sees.of_own ho
    have := run_append_nothing (P := Tryd.prog) w 22 22 22 5 i5 Tryd.underlying22 hi d xs.length cd hs.fits (.slice x 0 cx) (by rw [hz1]; exact hx.src)
    exact ⟨_, w, this, by simpa using ho, fun _ _ h _ => h⟩
  · obtain ⟨ad, rfl⟩ : ∃ ad, x = some ad := by obtain ⟨b, off, h, _⟩ := hx.at' h0; exact ⟨_, h⟩
    obtain ⟨v', w', hrun, ho', hg, _⟩ := run_append_own (P := Tryd.prog) w base 22 22 5 i5 (.int .u8 0) 1 1 Tryd.underlying22 hi hz0 hz1 hz2 rfl (by omega) v xs.length (xs.map cellOf) ho ad cs.length cx (cs.map cellOf) (by simp) (hx.news ad rfl) (bytes_oneCell cs) (by unfold maxLen; omega) (by omega) hbase
    exact ⟨v', w', hrun, by simpa using ho', fun B a0 h hB => h.grown hg (Nat.le_trans hB hbase) (fun k hk => Nat.le_trans hB (ho.lt _ hk).1)⟩

theorem own_empty (w : World) : (w.alloc (.cells #[] 5)).ownsRow w.heap.size 5 1 (.slice (some ⟨w.heap.size, 0, none⟩) 0 0) ([] : List UInt8).length (([] : List UInt8).map cellOf) :=
  World.ownsRow_made w #[] 0 (Nat.le_refl _) (by simp) (by simp)

end Go.Proofs.YtkpaldkmikjpiaaDoor
