/-
  The contracts of math/bits.Mul (of 1 and a number), slices.Repeat (of one byte), flash's New, and awake.
-/
import Derived.Test.YtgnllmcgebonpaaFlashObj
import Derived.Deep.OwnRows
import Derived.Test.YtgnllmcgebonpaaDraws
namespace Go.Proofs.Ytgnllmcgebonpaa
open Go.ChangeShapes Go.WideShapes Go.ChangeAt Go.RowKit

theorem mul64_ok (w : World) (n : Nat) (hn : n ≤ 4096) : Calls Try.prog 59 #[.int .u64 1, .int .u64 (n : Int)] w fun e w' => e = .returned (.tuple #[.int .u64 0, .int .u64 (n : Int)]) ∧ w' = w := by
  have a1 : bits .and .u64 (n : Int) 4294967295 = (n : Int) := by
    have h := u64_and_nat n 4294967295 (by omega) (by omega)
    have h2 : n &&& 4294967295 = n := by
      have := Nat.and_two_pow_sub_one_eq_mod n 32
      simp only [Nat.reducePow, Nat.reduceSub] at this
      rw [this]; omega
    rw [h2] at h; exact h
  have a2 : bits .and .u64 1 4294967295 = 1 := by decide
  have a3 : bits .and .u64 0 4294967295 = 0 := by decide
  have d1 : (n : Int) / 4294967296 = 0 := by omega
  have d2 : (n : Int) / 2 ^ 32 = 0 := by omega
  go_enter Try.func59, Try.ntmps59
  go_wp2
  go_ret2
  exact ⟨rfl, rfl⟩
theorem mul_ok (w : World) (n : Nat) (hn : n ≤ 4096) : Calls Try.prog 45 #[.int .u64 1, .int .u64 (n : Int)] w fun e w' => e = .returned (.tuple #[.int .u64 0, .int .u64 (n : Int)]) ∧ w' = w := by
  have hm := mul64_ok w n hn
  go_enter Try.func45, Try.ntmps45
  go_wp2_with fail
  refine hm.mono ?_
  rintro e w1 ⟨rfl, rfl⟩
  go_wp2
  go_ret2
  exact ⟨rfl, rfl⟩

/-- n bytes, of which the first k are FF. -/
def filled (n k : Nat) : List UInt8 := List.replicate k 255 ++ List.replicate (n - k) 0
theorem filled_len (n k : Nat) (h : k ≤ n) : (filled n k).length = n := by simp [filled]; omega
theorem filled_more (n k c : Nat) (h : k + c ≤ n) (hc : c ≤ k) :
    (((filled n k).map cellOf).take k ++ ((List.replicate k (255 : UInt8)).take c).map cellOf ++ ((filled n k).map cellOf).drop (k + c)).toArray = ((filled n (k + c)).map cellOf).toArray := by
  congr 1
  rw [← List.map_take, ← List.map_drop, ← List.map_append, ← List.map_append]
  congr 1
  unfold filled
  rw [List.take_append_of_le_length (by simp), List.take_of_length_le (by simp), List.drop_append, List.drop_of_length_le (by simp), List.nil_append, List.take_replicate, Nat.min_eq_left hc, List.drop_replicate, List.length_replicate, List.replicate_append_replicate]
  congr 2; omega

set_option maxHeartbeats 1600000 in
set_option maxRecDepth 20000 in
theorem repeat_ok (w : World) (x : Option Addr) (hx : Sees w x 1 [255]) (n : Nat) (hn : n ≤ 4096) :
    Calls Try.prog 26 #[.slice x 1 1, .int .i64 (n : Int)] w fun e w' => e = .returned (.slice (some ⟨w.heap.size, 0, none⟩) n n) ∧ w'.heap[w.heap.size]? = some (.cells ((filled n n).map cellOf).toArray 5 (0, 0)) ∧ Below w.heap.size w w' := by
  have hm := mul_ok w n hn
  have dn : decide ((n : Int) < 0) = false := by simp
  have dl : decide ((9223372036854775807 : Int) < (n : Int)) = false := by simp; omega
  obtain ⟨i5, hi, hz0, hz1, hz2⟩ := info_parts Try.info5
  obtain ⟨M, hM⟩ : ∃ M, M = madeCells #[Value.int .u8 0] n := ⟨_, rfl⟩
  have hML : M.toList = (filled n 0).map cellOf := by rw [hM, made_bytes]; simp [filled]
  obtain ⟨W1, hW1⟩ : ∃ W1, W1 = w.alloc (.cells M 5) := ⟨_, rfl⟩
  have hmk : (Instr.makeSlice 22 (.int .i64 (n : Int)) (.int .i64 (n : Int))).run Try.prog w = .ok (.slice (some ⟨w.heap.size, 0, none⟩) n n) W1 := by
    have := run_make (P := Try.prog) w 22 5 i5 (.int .u8 0) Try.underlying22 hi hz0 .i64 .i64 n n (by omega) (by omega) (by rw [hz2]; omega) (by omega)
    rw [this, hW1, hM, hz1]
    simp [Value.cells]
  have hg1 : W1.heap[w.heap.size]? = some (.cells M 5 (0, 0)) := by rw [hW1]; exact heap_alloc_new w _
  have hb1 : Below w.heap.size w W1 := by rw [hW1]; exact (Below.refl _ _).alloc (Nat.le_refl _) _
  have hMs : M.size = n := by have := congrArg List.length hML; simp [filled] at this; exact this
  obtain ⟨k0, hk0⟩ : ∃ k0, k0 = min [(255 : UInt8)].length n := ⟨_, rfl⟩
  obtain ⟨W2, hrun, hg2, ap2, _⟩ := copy_row W1 w.heap.size 0 n n M hg1 (by omega) x 1 [255] (hx.below hb1) k0 hk0
  have hk1 : k0 ≤ n := by omega
  have hg2' : W2.heap[w.heap.size]? = some (.cells ((filled n k0).map cellOf).toArray 5 (0, 0)) := by
    rw [hg2, hML]
    congr 2
    simp only [List.length_singleton] at hk0
    have h01 : k0 = 0 ∨ k0 = 1 := by omega
    rcases h01 with rfl | rfl
    · simp
    · congr 1
      obtain ⟨m, rfl⟩ : ∃ m, n = m + 1 := ⟨n - 1, by omega⟩
      simp [filled, List.replicate_succ, cellOf]
  have hb2 : Below w.heap.size w W2 := ap2.below hb1 (fun k hk => by rw [hk]; exact Nat.le_refl _) hb1.size
  have HK : Hid (n ≠ 0 → k0 ≠ 0) := fun h => by simp only [List.length_singleton] at hk0; omega
  have hcp : (Builtin.copy_ #[22, 22] 3 #[.slice (some ⟨w.heap.size, 0, none⟩) n n, .slice x 1 1]).run Try.prog W1 = .ok (.int .i64 (k0 : Int)) W2 := hrun
  have HG2 : Hid (W2.heap[w.heap.size]? = some (.cells ((filled n k0).map cellOf).toArray 5 (0, 0)) ∧ Below w.heap.size w W2) := ⟨hg2', hb2⟩
  clear hx hi hz0 hz1 hz2 hM hML hW1 hg1 hb1 hMs hk0 hrun hg2 ap2 hg2' hb2
  go_enter Try.func26, Try.ntmps26
  go_wp2_with fail
  refine hm.mono ?_
  rintro e w1 ⟨rfl, rfl⟩
  clear hm
  go_wp2
  go_loopw [8] (fun i wr => ∃ k : Nat, k ≤ n ∧ (n ≠ 0 → k ≠ 0) ∧ i = .int .i64 (k : Int) ∧ wr.heap[w1.heap.size]? = some (.cells ((filled n k).map cellOf).toArray 5 (0, 0)) ∧ Below w1.heap.size w1 wr) (fun i _ => n - (intOf i).toNat)
  case atStart => exact ⟨k0, hk1, HK.out, rfl, HG2.out⟩
  case round =>
    obtain ⟨k, hk, hkn, rfl, hg, bel⟩ := hrel
    clear HK HG2 hcp hmk
    by_cases hlt : k < n
    · have hk0 : k ≠ 0 := hkn (by omega)
      obtain ⟨c, hc⟩ : ∃ c, c = min k (n - k) := ⟨_, rfl⟩
      have hszl : ((filled n k).map cellOf).toArray.size = n := by simp [filled_len n k hk]
      have hgD : wr.drew.heap[w1.heap.size]? = some (.cells ((filled n k).map cellOf).toArray 5 (0, 0)) := hg
      have hsD : Sees wr.drew (some ⟨w1.heap.size, 0, none⟩) n (List.replicate k (255 : UInt8)) := by
        refine ⟨by simpa using hk, by unfold maxLen; omega, by simp, fun _ => ⟨w1.heap.size, 0, rfl, fun i x hx => ?_⟩⟩
        rw [cell_of_row _ _ (0 + i) _ _ _ hgD, Nat.zero_add]
        have hik : i < k := by have := (List.getElem?_eq_some_iff.1 hx).1; simpa using this
        rw [List.getElem?_toArray, List.getElem?_map, filled, List.getElem?_append_left (by simpa using hik), hx]; rfl
      obtain ⟨W3, hrun, hg3, ap3, _⟩ := copy_row wr.drew w1.heap.size k (n - k) (n - k) _ hgD (by omega) _ n _ hsD c (by rw [hc, List.length_replicate])
      rw [List.length_replicate] at hrun
      have hg3' : W3.heap[w1.heap.size]? = some (.cells ((filled n (k + c)).map cellOf).toArray 5 (0, 0)) := by
        rw [hg3, ← filled_more n k c (by omega) (by omega)]
      have bel3 : Below w1.heap.size w1 W3 := ap3.below bel.drew (fun i hi => by rw [hi]; exact Nat.le_refl _) bel.size
      have HR : Hid ((Builtin.copy_ #[22, 22] 3 #[.slice (some ⟨w1.heap.size, k, none⟩) (n - k) (n - k), .slice (some ⟨w1.heap.size, 0, none⟩) k n]).run Try.prog wr.drew = .ok (.int .i64 (c : Int)) W3) := hrun
      have HE : Hid (W3.heap[w1.heap.size]? = some (.cells ((filled n (k + c)).map cellOf).toArray 5 (0, 0)) ∧ Below w1.heap.size w1 W3) := ⟨hg3', bel3⟩
      have hnk : ¬ (n = k) := by omega
      have hkn2 : ¬ (k = n) := by omega
      have hkc : k + c ≤ n := by omega
      have hwr : IntKind.i64.wrap ((k : Int) + (c : Int)) = ((k + c : Nat) : Int) := by rw [IntKind.wrap_i64]; omega
      have HC : Hid (0 < c ∧ k + c ≤ n) := ⟨by omega, by omega⟩
      clear hszl hgD hsD hrun hg3 ap3 hg3' bel3 hg bel hc hkn hk0
      go_wp2
      refine wp_region_noPanic ?_
      refine wp_region_held (S := fun _ => True) (by kernel_rfl) ?_
      have hS := trivial
      refine any_take 0 ?vr9n1 rfl (by kernel_rfl) (by kernel_rfl) (by kernel_rfl) (fun _ _ _ h => h) (by rfl) ?hr9n1 hS ?_
      case hr9n1 => (intro w hSw; (try dsimp only at hSw); go_split_ands; go_simp; (try with_reducible rfl))
      (try simp only [Act.put, List.setIfInBounds_toArray, List.set_cons_zero, List.set_cons_succ])
      refine any_take 1 ?vr9n2 rfl (by kernel_rfl) (by kernel_rfl) (by kernel_rfl) (fun _ _ _ h => h) (by rfl) ?hr9n2 hS ?_
      case hr9n2 => (intro w hSw; (try dsimp only at hSw); go_split_ands; go_simp; (try with_reducible rfl))
      (try simp only [Act.put, List.setIfInBounds_toArray, List.set_cons_zero, List.set_cons_succ])
      refine any_take 2 ?vr9n3 rfl (by kernel_rfl) (by kernel_rfl) (by kernel_rfl) (fun _ _ _ h => h) (by rfl) ?hr9n3 hS ?_
      case hr9n3 => (intro w hSw; (try dsimp only at hSw); go_split_ands; go_simp; (try with_reducible rfl))
      (try simp only [Act.put, List.setIfInBounds_toArray, List.set_cons_zero, List.set_cons_succ])
      refine any_take 3 ?vr9n4 rfl (by kernel_rfl) (by kernel_rfl) (by kernel_rfl) (fun _ _ _ h => h) (by rfl) ?hr9n4 hS ?_
      case hr9n4 => (intro w hSw; (try dsimp only at hSw); go_split_ands; go_simp; (try with_reducible rfl))
      (try simp only [Act.put, List.setIfInBounds_toArray, List.set_cons_zero, List.set_cons_succ])
      refine any_take 4 ?vr9n5 rfl (by kernel_rfl) (by kernel_rfl) (by kernel_rfl) (fun _ _ _ h => h) (by rfl) ?hr9n5 hS ?_
      case hr9n5 => (intro w hSw; (try dsimp only at hSw); go_split_ands; go_simp; (try with_reducible rfl))
      (try simp only [Act.put, List.setIfInBounds_toArray, List.set_cons_zero, List.set_cons_succ])
      refine any_take 5 ?vr9n6 rfl (by kernel_rfl) (by kernel_rfl) (by kernel_rfl) (fun _ _ _ h => h) (by rfl) ?hr9n6 hS ?_
      case hr9n6 => (intro w hSw; (try dsimp only at hSw); go_split_ands; go_simp; (try with_reducible rfl))
      (try simp only [Act.put, List.setIfInBounds_toArray, List.set_cons_zero, List.set_cons_succ])
      refine any_take 6 ?vr9n7 rfl (by kernel_rfl) (by kernel_rfl) (by kernel_rfl) (fun _ _ _ h => h) (by rfl) ?hr9n7 hS ?_
      case hr9n7 => (intro w hSw; (try dsimp only at hSw); go_split_ands; go_simp; (try with_reducible rfl))
      (try simp only [Act.put, List.setIfInBounds_toArray, List.set_cons_zero, List.set_cons_succ])
      refine any_one 7 rfl (by kernel_rfl) (by rfl) (fun K hK => ?_)
      clear hS
      have hr := HR.out
      go_simp
      refine hK.out _ _ (trivial) (fun hS => ?_)
      clear hK
      (try simp only [Act.put, List.setIfInBounds_toArray, List.set_cons_zero, List.set_cons_succ])
      refine any_take 8 ?vr9n8 rfl (by kernel_rfl) (by kernel_rfl) (by kernel_rfl) (fun _ _ _ h => h) (by rfl) ?hr9n8 hS ?_
      case hr9n8 => (intro w hSw; (try dsimp only at hSw); go_split_ands; go_simp; (try with_reducible rfl))
      (try simp only [Act.put, List.setIfInBounds_toArray, List.set_cons_zero, List.set_cons_succ])
      refine any_take 9 ?vr9n9 rfl (by kernel_rfl) (by kernel_rfl) (by kernel_rfl) (fun _ _ _ h => h) (by rfl) ?hr9n9 hS ?_
      case hr9n9 => (intro w hSw; (try dsimp only at hSw); go_split_ands; go_simp; (try with_reducible rfl))
      (try simp only [Act.put, List.setIfInBounds_toArray, List.set_cons_zero, List.set_cons_succ])
      refine wpAnyH_done (by kernel_rfl) ?_ _
      refine NoPanic.normal ?_
      all_goals
        go_wp2
        go_roundw
        case rel => exact ⟨k + c, HC.out.2, fun _ => by have := HC.out.1; omega, by first | rfl | (rw [hwr]) | (congr 1; omega), HE.out⟩
        case measure => have := HC.out; simp [intOf]; omega
    · obtain rfl : k = n := by omega
      have HE : Hid (wr.heap[w1.heap.size]? = some (.cells ((filled k k).map cellOf).toArray 5 (0, 0)) ∧ Below w1.heap.size w1 wr) := ⟨hg, bel⟩
      clear hg bel hkn
      go_wp2
      go_ret
      exact ⟨rfl, HE.out⟩

theorem filled_all (n : Nat) : filled n n = List.replicate n 255 := by simp [filled]

/-- A new flash of n bytes. -/
def newS (n : Nat) : PS := ⟨List.replicate n 255, 0, false, 0, 0, false⟩

set_option maxHeartbeats 800000 in
set_option maxRecDepth 20000 in
theorem new_ok (w : World) (n : Nat) (hn : n ≤ 4096) :
    Calls Try.prog 6 #[.int .i64 (n : Int)] w fun e w' => ∃ g F, e = .returned (.tuple #[.pointer (some ⟨g, 0, none⟩), .int .i64 0]) ∧ PF w' g (newS n) F ∧ (∀ k, F k → w.heap.size ≤ k) ∧ Below w.heap.size w w' := by
  obtain ⟨W1, hW1⟩ : ∃ W1, W1 = w.alloc (.cells #[.int .u8 255] 5) := ⟨_, rfl⟩
  have hs1 : Sees W1 (some ⟨w.heap.size, 0, none⟩) 1 [255] := by rw [hW1]; exact sees_lit w [255] 5 (0, 0) (by simp)
  have hrp := repeat_ok W1 _ hs1 n hn
  have hb1 : Below w.heap.size w W1 := by rw [hW1]; exact (Below.refl _ _).alloc (Nat.le_refl _) _
  have HW : Hid (W1 = w.alloc (.cells #[.int .u8 255] 5)) := hW1
  have HF : Hid (∀ w2, w2.heap[W1.heap.size]? = some (.cells ((filled n n).map cellOf).toArray 5 (0, 0)) → Below W1.heap.size W1 w2 →
      ∃ F, PF (w2.alloc (.cells #[.bool true, .slice (some ⟨W1.heap.size, 0, none⟩) n n, .int .i64 0, .bool false, .int .i64 0, .int .i64 0, .bool false] 60)) w2.heap.size (newS n) F ∧ (∀ k, F k → w.heap.size ≤ k) ∧
        Below w.heap.size w (w2.alloc (.cells #[.bool true, .slice (some ⟨W1.heap.size, 0, none⟩) n n, .int .i64 0, .bool false, .int .i64 0, .int .i64 0, .bool false] 60))) := by
    intro w2 h1 h2
    have hq : W1.heap.size < w2.heap.size := (Array.getElem?_eq_some_iff.1 h1).1
    have hsz := hb1.size
    refine ⟨fun k => k = w2.heap.size ∨ k = W1.heap.size, ⟨W1.heap.size, n, ((filled n n).map cellOf).toArray, ⟨?_, ?_, ?_, ?_, ?_, ?_, ?_, ?_, ?_⟩, .inl rfl, .inr rfl, ?_⟩, ?_, ?_⟩
    · rw [heap_alloc_new]; simp [newS]
    · rw [((Below.refl _ w2).alloc (Nat.le_refl _) _).block _ hq]; exact h1
    · simp [newS]
    · unfold maxLen; omega
    · simp [filled_len n n (Nat.le_refl _)]
    · simp [newS, filled_all]
    · simpa [newS] using hn
    · simp [newS]
    · simp [newS]
    · rintro k (rfl | rfl)
      · simp
      · simp; omega
    · rintro k (rfl | rfl) <;> omega
    · exact (hb1.trans (h2.mono hsz)).alloc (by omega) _
  have d0 : decide ((n : Int) < 0) = false := by simp
  have d1 : decide ((4096 : Int) < (n : Int)) = false := by simp; omega
  clear hs1 hb1 hW1
  go_enter Try.func6, Try.ntmps6
  go_wp2_with fail
  rw [← HW.out]
  refine hrp.mono ?_
  rintro e w2 ⟨rfl, h1, h2⟩
  obtain ⟨F, x1, x2, x3⟩ := HF.out w2 h1 h2
  have HX : Hid (PF (w2.alloc (.cells #[.bool true, .slice (some ⟨W1.heap.size, 0, none⟩) n n, .int .i64 0, .bool false, .int .i64 0, .int .i64 0, .bool false] 60)) w2.heap.size (newS n) F ∧ (∀ k, F k → w.heap.size ≤ k) ∧
        Below w.heap.size w (w2.alloc (.cells #[.bool true, .slice (some ⟨W1.heap.size, 0, none⟩) n n, .int .i64 0, .bool false, .int .i64 0, .int .i64 0, .bool false] 60))) := ⟨x1, x2, x3⟩
  clear h1 h2 x1 x2 x3 HF hrp HW
  go_wp2
  go_ret2
  exact ⟨_, F, rfl, HX.out⟩

theorem new_refused (w : World) (n : Int) (hn : n < 0 ∨ 4096 < n) : Calls Try.prog 6 #[.int .i64 n] w fun e w' => e = .returned (.tuple #[.pointer none, .int .i64 1]) ∧ w' = w := by
  by_cases h0 : n < 0
  · have d0 : decide (n < 0) = true := by simp [h0]
    clear hn
    go_enter Try.func6, Try.ntmps6
    go_wp2
    go_ret2
    exact ⟨rfl, rfl⟩
  · have d0 : decide (n < 0) = false := by simp; omega
    have d1 : decide (4096 < n) = true := by simp; omega
    clear hn
    go_enter Try.func6, Try.ntmps6
    go_wp2
    go_ret2
    exact ⟨rfl, rfl⟩

end Go.Proofs.Ytgnllmcgebonpaa
