/-
  Bytes in memory, made, appended to and cut: what the walks over any program with bytes want.
-/
import Derived.Test.YteehkekmaikeiaaRows
import Derived.Test.YteehkekmaikeiaaBase
import Derived.Deep.QuietTactic
import Derived.BigQuiet
import Derived.Deep.RegionHeld3
import Derived.Deep.AppendLies
import Derived.Deep.AppendSrc
import Derived.Deep.Upon
import Derived.Deep.Onto
namespace Go.Proofs.Yteehkekmaikeiaa
open Go.ChangeShapes Go.WideShapes Go.ChangeAt Go.RowKit

theorem Try.info5 : (Try.prog.info? 5).map (fun i => (i.zero, i.size, i.bytes)) = some (some (.int .u8 0), 1, 1) := by kernel_rfl
theorem below_drewN {B : Nat} {a w : World} (h : Below B a w) (n : Nat) : Below B a (w.drewN n) := ⟨h.os, h.tape, h.output, h.size, h.block⟩

theorem Sees.src {w : World} {x : Option Addr} {cx : Nat} {cs : List UInt8} (h : Sees w x cx cs) : Src Try.prog 1 22 (.slice x cs.length cx) cs.length (cs.map cellOf) w := by
  cases x with
  | none =>
    have h0 := h.bare rfl
    have h1 := h.fits
    have : cs = [] := List.eq_nil_of_length_eq_zero (by omega)
    subst this
    exact Src.ofNil w Try.underlying22 cx
  | some ad => exact Src.ofSlice w Try.underlying22 ad _ cx _ (by simp) (h.news ad rfl) (bytes_oneCell cs)

/-- An append to a slice of the call's own, of whatever bytes. -/
theorem append_own_any (w : World) (base : Nat) (v : Value) (xs : List UInt8) (ho : w.ownsRow base 5 1 v xs.length (xs.map cellOf)) (x : Option Addr) (cx : Nat) (cs : List UInt8) (hx : Sees w x cx cs)
    (hb : xs.length + cs.length ≤ 140737488355328) (hbase : base ≤ w.heap.size) :
    ∃ v' w', (Builtin.append_ #[22, 22] 22 #[v, .slice x cs.length cx]).run Try.prog w = .ok v' w' ∧ w'.ownsRow base 5 1 v' (xs ++ cs).length ((xs ++ cs).map cellOf) ∧
      (∀ B a0, Below B a0 w → B ≤ base → Below B a0 w') := by
  obtain ⟨i5, hi, hz0, hz1, hz2⟩ := info_parts Try.info5
  by_cases h0 : cs = []
  · subst h0
    obtain ⟨d, cd, rfl, hs⟩ := Sees.of_own ho
    have := run_append_nothing (P := Try.prog) w 22 22 22 5 i5 Try.underlying22 hi d xs.length cd hs.fits (.slice x 0 cx) (by rw [hz1]; exact hx.src)
    exact ⟨_, w, this, by simpa using ho, fun _ _ h _ => h⟩
  · obtain ⟨ad, rfl⟩ : ∃ ad, x = some ad := by obtain ⟨b, off, h, _⟩ := hx.at' h0; exact ⟨_, h⟩
    obtain ⟨v', w', hrun, ho', hg, _⟩ := run_append_own (P := Try.prog) w base 22 22 5 i5 (.int .u8 0) 1 1 Try.underlying22 hi hz0 hz1 hz2 rfl (by omega) v xs.length (xs.map cellOf) ho ad cs.length cx (cs.map cellOf) (by simp) (hx.news ad rfl) (bytes_oneCell cs) (by unfold maxLen; omega) (by omega) hbase
    exact ⟨v', w', hrun, by simpa using ho', fun B a0 h hB => h.grown hg (Nat.le_trans hB hbase) (fun k hk => Nat.le_trans hB (ho.lt _ hk).1)⟩

theorem own_empty (w : World) : (w.alloc (.cells #[] 5)).ownsRow w.heap.size 5 1 (.slice (some ⟨w.heap.size, 0, none⟩) 0 0) ([] : List UInt8).length (([] : List UInt8).map cellOf) :=
  World.ownsRow_made w #[] 0 (Nat.le_refl _) (by simp) (by simp)

theorem sees_lit (w : World) (l : List UInt8) (t : TypeId) (fr : Nat × Nat) (hl : l.length ≤ 1000) : Sees (w.alloc (.cells (l.map cellOf).toArray t fr)) (some ⟨w.heap.size, 0, none⟩) l.length l :=
  ⟨Nat.le_refl _, by unfold maxLen; omega, by simp, fun _ => ⟨w.heap.size, 0, rfl, fun i x hx => by
    rw [cell_of_row _ _ (0 + i) _ _ _ (heap_alloc_new w _), Nat.zero_add]
    simp [hx, cellOf]⟩⟩

theorem own_keepB {w w' : World} {B n B' : Nat} {v : Value} {xs : List Value} (h : w.ownsRow B 5 1 v n xs) (hb : Below B' w w') (hB : B' = w.heap.size := by rfl) : w'.ownsRow B 5 1 v n xs := by
  subst hB
  refine ⟨h.1, ?_⟩
  rcases h.2 with h0 | ⟨g, cap, cur, rfl, hlow, hg, h4, h5, h6, h7⟩
  · exact .inl h0
  · exact .inr ⟨g, cap, cur, rfl, hlow, by rw [hb.block g (Array.getElem?_eq_some_iff.1 hg).1]; exact hg, h4, h5, h6, h7⟩
end Go.Proofs.Yteehkekmaikeiaa
