/-
  The contracts of the document's turn, mix and Table.
-/
import Derived.Test.YtkpaldkmikjpiaaDoorMix
namespace Go.Proofs.YtkpaldkmikjpiaaDoor
open Go.ChangeShapes Go.WideShapes Go.ChangeAt Go.RowKit

set_option maxHeartbeats 400000 in
set_option maxRecDepth 20000 in
theorem rturn_any (x k : Nat) (hx : x < 4294967296) (hk : k < 32) (w : World) :
    Calls Tryd.prog 65 #[.int .u32 x, .int .i64 k] w fun e w' => e = .returned (.int .u32 (rotr x k : Nat)) ∧ ∃ m, w' = w.drewN m := by
  have h1 : IntKind.i64.wrap ((32 : Int) - (k : Int)) = ((32 - k : Nat) : Int) := by rw [IntKind.wrap_i64]; omega
  have h2 := rot_int x k hx
  obtain ⟨y, hy⟩ : ∃ y, y = rotr x k := ⟨_, rfl⟩
  rw [← hy] at h2 ⊢
  clear hy
  have g0 : (0 : Int) ≤ (k : Int) := Int.natCast_nonneg _
  have g1 : (k : Int) ≤ 32 := by omega
  go_enter Tryd.func65, Tryd.ntmps65
  go_wp2
  go_quiet (fail)
  go_wp2
  go_ret
  exact ⟨rfl, _, rfl⟩

set_option maxHeartbeats 400000 in
set_option maxRecDepth 20000 in
theorem rmix_turn (x i j k : Nat) (hx : x < 4294967296) (hi : i < 32) (hj : j < 32) (hk : k < 32) (w : World) :
    Calls Tryd.prog 61 #[.int .u32 x, .int .i64 i, .int .i64 j, .int .i64 k] w fun e w' => e = .returned (.int .u32 (rot3 x i j k : Nat)) ∧ ∃ m, w' = w.drewN m := by
  obtain ⟨y, hy⟩ : ∃ y, y = rotr x i ^^^ rotr x j := ⟨_, rfl⟩
  obtain ⟨z, hz⟩ : ∃ z, z = rot3 x i j k := ⟨_, rfl⟩
  have e1 : bits .xor .u32 (rotr x i : Int) (rotr x j : Int) = (y : Int) := by rw [hy]; exact bx32 _ _ (rotr_lt x i hx hi) (rotr_lt x j hx hj)
  have e2 : bits .xor .u32 (y : Int) (rotr x k : Int) = (z : Int) := by rw [hy, hz]; exact bx32 _ _ (xor_lt32 (rotr_lt x i hx hi) (rotr_lt x j hx hj)) (rotr_lt x k hx hk)
  have HZ : Hid (z = rot3 x i j k) := hz
  have hd : decide ((k : Int) < 0) = false := by simp
  clear hy hz
  go_enter Tryd.func61, Tryd.ntmps61
  go_wp2_with fail
  refine (rturn_any x i hx hi _).mono ?_
  rintro e w1 ⟨rfl, m1, rfl⟩
  go_wp2_with fail
  refine (rturn_any x j hx hj _).mono ?_
  rintro e w1 ⟨rfl, m2, rfl⟩
  go_wp2_with fail
  refine (rturn_any x k hx hk _).mono ?_
  rintro e w1 ⟨rfl, m3, rfl⟩
  go_wp2
  go_ret
  exact ⟨by rw [HZ.out]; rfl, _, rfl⟩

set_option maxHeartbeats 400000 in
set_option maxRecDepth 20000 in
theorem rmix_shift (x i j k : Nat) (c : Int) (hx : x < 4294967296) (hi : i < 32) (hj : j < 32) (hc : c = -(k : Int)) (hk0 : 0 < k) (hk : k < 32) (w : World) :
    Calls Tryd.prog 61 #[.int .u32 x, .int .i64 i, .int .i64 j, .int .i64 c] w fun e w' => e = .returned (.int .u32 ((rotr x i ^^^ rotr x j ^^^ (x >>> k) : Nat) : Int)) ∧ ∃ m, w' = w.drewN m := by
  obtain ⟨y, hy⟩ : ∃ y, y = rotr x i ^^^ rotr x j := ⟨_, rfl⟩
  obtain ⟨z, hz⟩ : ∃ z, z = rotr x i ^^^ rotr x j ^^^ (x >>> k) := ⟨_, rfl⟩
  have e1 : bits .xor .u32 (rotr x i : Int) (rotr x j : Int) = (y : Int) := by rw [hy]; exact bx32 _ _ (rotr_lt x i hx hi) (rotr_lt x j hx hj)
  have h1 : (x : Int) / 2 ^ k = ((x >>> k : Nat) : Int) := by rw [Nat.shiftRight_eq_div_pow]; simp
  have e2 : bits .xor .u32 (y : Int) ((x : Int) / 2 ^ k) = (z : Int) := by rw [hy, hz, h1]; exact bx32 _ _ (xor_lt32 (rotr_lt x i hx hi) (rotr_lt x j hx hj)) (shr_lt32 hx)
  rw [← hz]
  have hneg : IntKind.i64.wrap (-c) = (k : Int) := by rw [IntKind.wrap_i64]; omega
  have hlt : c < 0 := by omega
  have hnk : -c = (k : Int) := by omega
  have hb : -9223372036854775808 < c := by omega
  clear hy hz h1 hc
  go_enter Tryd.func61, Tryd.ntmps61
  go_wp2_with fail
  refine (rturn_any x i hx hi _).mono ?_
  rintro e w1 ⟨rfl, m1, rfl⟩
  go_wp2_with fail
  refine (rturn_any x j hx hj _).mono ?_
  rintro e w1 ⟨rfl, m2, rfl⟩
  go_wp2
  go_ret
  exact ⟨rfl, _, rfl⟩

set_option maxHeartbeats 1600000 in
set_option maxRecDepth 20000 in
theorem table_any (w : World) : Calls Tryd.prog 59 #[] w fun e w' => e = .returned (.agg (kTab.map wcell).toArray) ∧ Below w.heap.size w w' := by
  obtain ⟨C, hC⟩ : ∃ C, C = (kTab.map wcell).toArray := ⟨_, rfl⟩
  have hst := storeAt_row (P := Tryd.prog) (w.alloc (.cells ((List.replicate 64 0).map wcell).toArray 90)) w.heap.size 90 90 _ C (heap_alloc_new w _) (by rw [hC]; kernel_rfl) (by rw [hC]; rfl) (by rw [hC]; exact words_one _)
  have hres : ((w.alloc (.cells ((List.replicate 64 0).map wcell).toArray 90)).setRow w.heap.size C).heap[w.heap.size]? = some (.cells C 90 (0, 0)) := setRow_heap _ _ _ C 90 _ (heap_alloc_new w _)
  have hbel : Below w.heap.size w ((w.alloc (.cells ((List.replicate 64 0).map wcell).toArray 90)).setRow w.heap.size C) := below_setRow ((Below.refl _ _).alloc (Nat.le_refl _) _) (Nat.le_refl _) C
  have HST : Hid ((Instr.storeAt 90 (.pointer (some ⟨w.heap.size, 0, none⟩)) (.agg (kTab.map wcell).toArray)).run Tryd.prog (w.alloc (.cells ((List.replicate 64 0).map wcell).toArray 90)) = .ok () ((w.alloc (.cells ((List.replicate 64 0).map wcell).toArray 90)).setRow w.heap.size C)) := by rw [← hC]; exact hst
  have HC : Hid (C = (kTab.map wcell).toArray) := hC
  clear hst hC
  go_enter Tryd.func59, Tryd.ntmps59
  go_wp2_with (refine wpList_store_run rfl 90 _ _ rfl _ _ rfl rfl HST.out ?_)
  (try simp only [Exit.inBlock, Exit.then])
  refine bodyPost_ret (results_cell_row rfl _ _ w.heap.size 90 C (0, 0) _ rfl hres Tryd.underlying90 rfl (by rw [HC.out]; kernel_rfl)) rfl ?_
  exact ⟨by rw [HC.out], hbel⟩
end Go.Proofs.YtkpaldkmikjpiaaDoor
