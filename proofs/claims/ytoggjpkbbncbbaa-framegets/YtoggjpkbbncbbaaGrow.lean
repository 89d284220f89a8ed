/-
  The contract of slices.Grow over bytes.
-/
import Derived.Test.YtoggjpkbbncbbaaCopyRow
import Derived.Lib.AppendZeros
namespace Go.Proofs.Ytoggjpkbbncbbaa
open Go.ChangeShapes Go.WideShapes Go.ChangeAt Go.RowKit

/-- append(s, make([]T, n)...), past the room of s. -/
theorem run_append_grow_zeros {P : Program} (w : World) (t tn ty e : TypeId) (i : TypeInfo) (z : Value) (k kn : IntKind) (ht : P.underlying t = some (.slice e)) (htn : P.underlying tn = some (.int kn)) (hi : P.info? e = some i) (hz : i.zero = some z)
    (b : Addr) (sLen sCap : Nat) (olds : List Value) (hlo : olds.length = sLen * i.size) (holds : ∀ j v, olds[j]? = some v → w.cell? (b.add j) = some v) (n : Nat) (hs : 0 < i.size)
    (hg : sCap < sLen + n) (h0 : 0 < n) (h63 : ((sLen + n : Nat) : Int) ≤ 9223372036854775807) (h48 : n * i.bytes ≤ 281474976710656) (hfit : Builtin.nextslicecap (sLen + n) sCap * i.bytes ≤ 281474976710656) :
    (Builtin.append_ #[t, tn] ty #[.slice (some b) sLen sCap, .int k n]).run P w =
      .ok (.slice (some ⟨w.heap.size, 0, none⟩) (sLen + n) (grownCap w (sLen + n) sCap e))
        (w.drew.alloc (.cells (olds.toArray ++ Builtin.zeroCells z.cells n ++ Builtin.zeroCells z.cells (grownCap w (sLen + n) sCap e - (sLen + n))) e)) := by
  have hn : ¬ (sLen + n ≤ sCap) := by omega
  have hw : IntKind.i64.wrap (n : Int) = n := by rw [IntKind.wrap_i64]; omega
  have h63' : ¬ (9223372036854775807 < ((sLen : Int) + (n : Int))) := by omega
  have h48' : ¬ (281474976710656 < Builtin.nextslicecap (sLen + n) sCap * i.bytes) := by omega
  have h48i : ¬ (281474976710656 < (n : Int) * (i.bytes : Int)) := by rw [← Int.natCast_mul]; omega
  have hneg : ¬ ((n : Int) < 0) := by omega
  have hns : ¬ (n * i.size = 0) := Nat.mul_ne_zero (by omega) (by omega)
  have hfo := run_firstCells_some (P := P) w.drew i.size sLen b sLen sCap olds hlo (by simpa using holds)
  simp [Builtin.append_, run_underlying ht, run_underlying htn, sizeOf, typeInfo, zeroValue, hi, hz, asInt, asIntOf, hw, hneg, hns, hn, h63', h48', h48i, Question.forced, hfo, newRow, grownCap]

/-- The slice v of l's bytes has room for m more. -/
def Roomy (w : World) (v : Value) (l : List UInt8) (m : Nat) : Prop :=
  (v = .slice none 0 0 ∧ l = [] ∧ m = 0) ∨ ∃ g cap cur, v = .slice (some ⟨g, 0, none⟩) l.length cap ∧ w.heap[g]? = some (.cells cur 5 (0, 0)) ∧ l.length + m ≤ cap ∧ cap ≤ maxLen ∧ cur.size = cap ∧ cur.toList.take l.length = l.map cellOf

set_option maxHeartbeats 1600000 in
set_option maxRecDepth 20000 in
theorem grow_ok (w : World) (base : Nat) (v : Value) (l : List UInt8) (ho : w.ownsRow base 5 1 v l.length (l.map cellOf)) (n : Nat) (hn : l.length + n ≤ 140737488355328) :
    Calls Try.prog 78 #[v, .int .i64 (n : Int)] w fun e w' => ∃ v', e = .returned v' ∧ Roomy w' v' l n ∧ (v' = v ∨ v'.ownBlock = some w.heap.size) ∧ Below w.heap.size w w' := by
  obtain ⟨i5, hi, hz0, hz1, hz2⟩ := info_parts Try.info5
  rcases ho.2 with ⟨rfl, h0⟩ | ⟨g, cap, cur, rfl, hlow, hg, hlc, hcm, hcs, htk⟩
  · obtain rfl : l = [] := List.eq_nil_of_length_eq_zero h0
    by_cases hn0 : n = 0
    · subst hn0
      clear ho hi hz0 hz1 hz2 h0
      go_enter Try.func78, Try.ntmps78
      go_wp2
      go_ret
      exact ⟨_, rfl, .inl ⟨rfl, rfl, rfl⟩, .inl rfl, Below.refl _ _⟩
    · have hrun := Lib.run_append_nil_zeros (P := Try.prog) w 23 3 23 5 i5 (.int .u8 0) .i64 .i64 Try.underlying23 Try.underlying3 hi hz0 n (by omega) (by rw [hz1]; omega) (by simp at hn; omega) (by rw [hz2]; simp at hn; omega)
      obtain ⟨c, hc⟩ : ∃ c, c = grownCap w n 0 5 := ⟨_, rfl⟩
      rw [← hc] at hrun
      have hcn : n ≤ c := by rw [hc]; exact grownCap_ge w n 0 5
      have hcm : c ≤ maxLen := by rw [hc]; exact grownCap_le_maxLen w n 0 5 (by unfold maxLen; simp at hn; omega)
      obtain ⟨cur, hcur⟩ : ∃ cur, cur = Builtin.zeroCells (Value.int .u8 0).cells n ++ Builtin.zeroCells (Value.int .u8 0).cells (c - n) := ⟨_, rfl⟩
      rw [← hcur] at hrun
      have hsz : cur.size = c := by rw [hcur]; simp [Builtin.zeroCells, Value.cells]; omega
      obtain ⟨w1, hw1⟩ : ∃ w1, w1 = w.drew.alloc (.cells cur 5) := ⟨_, rfl⟩
      rw [← hw1] at hrun
      have HE : Hid (Roomy w1 (.slice (some ⟨w.heap.size, 0, none⟩) 0 c) [] n ∧ Below w.heap.size w w1) :=
        ⟨.inr ⟨w.heap.size, c, cur, rfl, by rw [hw1]; exact heap_alloc_new w.drew _, by simpa using hcn, hcm, hsz, rfl⟩, by rw [hw1]; exact (Below.refl _ w).drew.alloc (Nat.le_refl _) _⟩
      have HR : Hid ((Builtin.append_ #[23, 3] 23 #[.slice none 0 0, .int .i64 (n : Int)]).run Try.prog w = .ok (.slice (some ⟨w.heap.size, 0, none⟩) n c) w1) := hrun
      have hn1 : 0 < n := by omega
      have hn2 : n ≤ 140737488355328 := by simpa using hn
      clear ho hi hz0 hz1 hz2 h0 hrun hw1 hc hcur hsz hn
      go_enter Try.func78, Try.ntmps78
      go_wp2_with (at_builtin; refine Lib.wpList_append_run _ rfl _ _ 23 3 rfl _ _ rfl rfl _ _ HR.out ?_)
      go_ret
      exact ⟨_, rfl, HE.out.1, .inr rfl, HE.out.2⟩
  · have hcm1 : cap ≤ 9223372036854775807 := by unfold maxLen at hcm; omega
    by_cases hr : l.length + n ≤ cap
    · have HE : Hid (Roomy w (.slice (some ⟨g, 0, none⟩) l.length cap) l n) := .inr ⟨g, cap, cur, rfl, hg, hr, hcm, by simpa using hcs, by simpa using htk⟩
      clear ho hi hz0 hz1 hz2 hg hcs htk
      go_enter Try.func78, Try.ntmps78
      go_wp2
      go_ret
      exact ⟨_, rfl, HE.out, .inl rfl, Below.refl _ _⟩
    · obtain ⟨m, hm⟩ : ∃ m, m = n - (cap - l.length) := ⟨_, rfl⟩
      have hm0 : 0 < m := by omega
      have hmt : cap + m = l.length + n := by omega
      have hcs' : cur.size = cap := by simpa using hcs
      have hrun := run_append_grow_zeros (P := Try.prog) w 23 3 23 5 i5 (.int .u8 0) .i64 .i64 Try.underlying23 Try.underlying3 hi hz0 ⟨g, 0, none⟩ cap cap cur.toList (by rw [hz1]; simpa using hcs) (World.news_of_block hg) m (by rw [hz1]; omega) (by omega) hm0 (by omega) (by rw [hz2]; omega) (growslice_fits (by omega) (by rw [hz2]; omega))
      obtain ⟨c, hc⟩ : ∃ c, c = grownCap w (cap + m) cap 5 := ⟨_, rfl⟩
      rw [← hc] at hrun
      have hcn : cap + m ≤ c := by rw [hc]; exact grownCap_ge w _ _ 5
      have hcm2 : c ≤ maxLen := by rw [hc]; exact grownCap_le_maxLen w _ _ 5 (by unfold maxLen; omega)
      obtain ⟨cr, hcr⟩ : ∃ cr, cr = cur.toList.toArray ++ Builtin.zeroCells (Value.int .u8 0).cells m ++ Builtin.zeroCells (Value.int .u8 0).cells (c - (cap + m)) := ⟨_, rfl⟩
      rw [← hcr] at hrun
      have hsz : cr.size = c := by rw [hcr]; simp [Builtin.zeroCells, Value.cells, hcs']; omega
      have htk2 : cr.toList.take l.length = l.map cellOf := by
        rw [hcr, Array.toList_append, Array.toList_append, List.append_assoc, List.take_append_of_le_length (by simp [hcs']; exact hlc)]
        simpa using htk
      obtain ⟨w1, hw1⟩ : ∃ w1, w1 = w.drew.alloc (.cells cr 5) := ⟨_, rfl⟩
      rw [← hw1] at hrun
      have HE : Hid (Roomy w1 (.slice (some ⟨w.heap.size, 0, none⟩) l.length c) l n ∧ Below w.heap.size w w1) :=
        ⟨.inr ⟨w.heap.size, c, cr, rfl, by rw [hw1]; exact heap_alloc_new w.drew _, by omega, hcm2, hsz, htk2⟩, by rw [hw1]; exact (Below.refl _ w).drew.alloc (Nat.le_refl _) _⟩
      have HR : Hid ((Builtin.append_ #[23, 3] 23 #[.slice (some ⟨g, 0, none⟩) cap cap, .int .i64 (m : Int)]).run Try.prog w = .ok (.slice (some ⟨w.heap.size, 0, none⟩) (cap + m) c) w1) := hrun
      have em : (n : Int) - ((cap : Int) - (l.length : Int)) = (m : Int) := by omega
      have hlm : l.length ≤ cap + m := by omega
      have hlm2 : l.length ≤ c := by omega
      have hn2 : n ≤ 140737488355328 := by omega
      clear ho hi hz0 hz1 hz2 hg hcs htk hcs' hsz htk2 hw1 hcr hc hrun hm hr
      go_enter Try.func78, Try.ntmps78
      go_wp2_with (at_builtin; refine Lib.wpList_append_run _ rfl _ _ 23 3 rfl _ _ rfl rfl _ _ HR.out ?_)
      go_ret
      exact ⟨_, rfl, HE.out.1, .inr rfl, HE.out.2⟩
end Go.Proofs.Ytoggjpkbbncbbaa
