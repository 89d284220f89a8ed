/-
  The contract of row.add.
-/
import Derived.Test.YtoggjpkbbncbbaaBitsRow
namespace Go.Proofs.Ytoggjpkbbncbbaa
open Go.ChangeShapes Go.WideShapes Go.ChangeAt Go.RowKit

/-- A store whose run is known. -/
theorem wpList_bstore_run {P : Program} {ops : Array Oper} {rest : List Oper} {o : Oper} {a : Act} {w w' : World} {Q : Exit → Act → World → Prop} (hgd : o.guard = none) (ty : TypeId) (x y : Operand) (ho : o.op = .store ty x y)
    (v u : Value) (hx : a.eval x = v) (hy : a.eval y = u) (hrun : (Instr.storeAt ty v u).run P w = .ok () w') (h : wpList P ops Q rest (a.put o.dst undef) w') : wpList P ops Q (o :: rest) a w := by
  refine wpList_plain hgd fun K hK => ?_
  unfold Oper.wp execOp
  simp only [ho, hx, hy, Sem.run_bind, hrun, Result.andThen_ok, Sem.run_pure]
  exact hK _ _ h

set_option maxHeartbeats 6400000 in
set_option maxRecDepth 20000 in
theorem add_ok (ty : TypeId) (R : List Value) (hty : ty ≠ 5) (w : World) (b : Nat) (bs : List Bool) (F : Nat → Prop) (h : RowB ty R w b bs F) (n W : Nat) (hn : n < 18446744073709551616) (hW : W ≤ 64) (hl : bs.length + W ≤ 8192) :
    Calls Try.prog 77 #[.pointer (some ⟨b, 0, none⟩), .int .u64 (n : Int), .int .i64 (W : Int)] w fun e w' => (∃ r, e = .returned r) ∧ Left (RowB ty R) w F b (bs ++ bitsN n W) w' := by
  have HN : Hid (n < 18446744073709551616) := hn
  have hbl : Hid (bs.length + W ≤ 8192) := hl
  have hLw : Left (RowB ty R) w F b (bs ++ (bitsN n W).take 0) w := ⟨F, by rw [List.take_zero, List.append_nil]; exact h, Apart.refl _ _, fun _ h => .inl h⟩
  clear hn hl h
  go_enter Try.func77, Try.ntmps77
  go_wp2
  go_loopw [2, 6, 7] (fun v _ _ wr => ∃ k : Nat, k ≤ W ∧ v = .int .i64 ((W - k : Nat) : Int) ∧ Left (RowB ty R) w F b (bs ++ (bitsN n W).take k) wr) (fun v _ _ _ => (intOf v).toNat)
  case atStart => exact ⟨0, Nat.zero_le _, rfl, hLw⟩
  case round =>
    obtain ⟨k, hk, rfl, F1, hM, hap, hF1⟩ := hrel
    clear hLw
    by_cases hlt : k < W
    · obtain ⟨B, hB⟩ : ∃ B, B = bs ++ (bitsN n W).take k := ⟨_, rfl⟩
      have hBl : B.length = bs.length + k := by rw [hB, List.length_append, List.length_take, bitsN_length]; omega
      rw [← hB] at hM
      obtain ⟨L, hL⟩ : ∃ L, L = B.length := ⟨_, rfl⟩
      obtain ⟨v, hv⟩ : ∃ v, v = W - k := ⟨_, rfl⟩
      obtain ⟨q, hq⟩ : ∃ q, q = L / 8 := ⟨_, rfl⟩
      obtain ⟨u, hu⟩ : ∃ u, u = L % 8 := ⟨_, rfl⟩
      obtain ⟨y, hy⟩ : ∃ y, y = 8 - u := ⟨_, rfl⟩
      obtain ⟨s, hs⟩ : ∃ s, s = min y v := ⟨_, rfl⟩
      obtain ⟨t, ht⟩ : ∃ t, t = 8 - s := ⟨_, rfl⟩
      obtain ⟨v2, hv2⟩ : ∃ v2, v2 = v - s := ⟨_, rfl⟩
      obtain ⟨x, hx⟩ : ∃ x, (packN B (q + 1))[q]? = some x := ⟨_, packN_at _ _ _ (by omega)⟩
      obtain ⟨N, hN⟩ : ∃ N, N = n / 2 ^ v2 := ⟨_, rfl⟩
      obtain ⟨c, hc⟩ : ∃ c, c = UInt8.ofNat (N % 2 ^ s * 2 ^ (8 - u - s)) := ⟨_, rfl⟩
      have hadd := pack_add B q u N s (by omega) (by omega) x hx
      rw [← hc] at hadd
      obtain ⟨z, hz⟩ : ∃ z, z = x ||| c := ⟨_, rfl⟩
      rw [← hz] at hadd
      have hBs : bs ++ (bitsN n W).take (k + s) = B ++ bitsN N s := by
        rw [hB, List.append_assoc, List.take_add, bitsN_drop, bitsN_first n (W - k) s (by omega), hN, hv2, hv]
      have hfin : packL (B ++ bitsN N s) = (packN B (q + 1)).set q z := by
        rw [← hadd]; exact packL_part _ q (by rw [List.length_append, bitsN_length]; omega) (by rw [List.length_append, bitsN_length]; omega)
      have hlen : (B ++ bitsN N s).length = L + s := by rw [List.length_append, bitsN_length, hL]
      -- what the row is, once its last byte is there
      have hrest : ∀ w2 F2, RowP ty R w2 b (L, packN B (q + 1)) F2 → Apart F w w2 → (∀ i, F2 i → F i ∨ w.heap.size ≤ i) → ∀ qb cd, w2.cell? ⟨b, 1, none⟩ = some (.slice (some ⟨qb, 0, none⟩) (q + 1) cd) →
          ∀ m, Left (RowB ty R) w F b (bs ++ (bitsN n W).take (k + s)) (((w2.setCell ⟨qb, q, none⟩ (.int .u8 (z.toNat : Int))).drewN m).setCell ⟨b, 2, none⟩ (.int .i64 ((L + s : Nat) : Int))) := by
        intro w2 F2 hR ha2 hF2 qb cd hcell m
        obtain ⟨h1, h2⟩ := row_store hty hR qb cd q (by rw [packN_length]; exact hcell) z
        refine ⟨F2, ?_, ?_, hF2⟩
        · rw [hBs]
          unfold RowB
          rw [hlen, hfin]
          exact row_size hty ((rowP_kept ty R).keep h1 (w' := (w2.setCell ⟨qb, q, none⟩ (.int .u8 (z.toNat : Int))).drewN m) (fun _ _ => rfl)) (L + s)
        · have h3 : Apart F w (w2.setCell ⟨qb, q, none⟩ (.int .u8 (z.toNat : Int))) := ha2.setCell (hF2 qb h2) q _
          have h4 : Apart F w ((w2.setCell ⟨qb, q, none⟩ (.int .u8 (z.toNat : Int))).drewN m) := ⟨h3.os, h3.tape, h3.output, h3.size, h3.block⟩
          exact h4.setCell (hF2 b (by obtain ⟨_, _, _, h5, _⟩ := hR; exact h5)) 2 _
      -- numbers
      have hs0 : 0 < s := by omega
      have hNm : N < 18446744073709551616 := by rw [hN]; exact Nat.lt_of_le_of_lt (Nat.div_le_self _ _) HN.out
      obtain ⟨N8, hN8⟩ : ∃ N8, N8 = N % 256 := ⟨_, rfl⟩
      obtain ⟨X, hX⟩ : ∃ X, X = N8 * 2 ^ t % 256 := ⟨_, rfl⟩
      have dN : (n : Int) / 2 ^ v2 = (N : Int) := by rw [hN]; simp
      have wN : IntKind.u8.wrap (N : Int) = (N8 : Int) := by rw [IntKind.wrap_u8]; omega
      have wX : IntKind.u8.wrap ((N8 : Int) * 2 ^ t) = (X : Int) := by
        have h1 : (N8 : Int) * 2 ^ t = ((N8 * 2 ^ t : Nat) : Int) := by simp
        rw [h1, IntKind.wrap_u8, hX]; omega
      have dX : (X : Int) / 2 ^ u = (c.toNat : Int) := by
        have h1 : (X : Int) / 2 ^ u = ((X / 2 ^ u : Nat) : Int) := by simp
        have h2 := add_byte N u s (by omega)
        have h3 : X / 2 ^ u < 256 := by
          have : X < 256 := by rw [hX]; exact Nat.mod_lt _ (by omega)
          exact Nat.lt_of_le_of_lt (Nat.div_le_self _ _) this
        rw [← hN8, ← ht, ← hX] at h2
        rw [h1, hc, UInt8.toNat_ofNat', ← h2, Nat.mod_eq_of_lt h3]
      have eor : bits .or .u8 (x.toNat : Int) (c.toNat : Int) = (z.toNat : Int) := by rw [hz]; exact bor x c
      have u1 : (L : Int) % 8 = (u : Int) := by omega
      have u2 : (L : Int).tmod 8 = (u : Int) := by rw [Int.tmod_eq_emod_of_nonneg (by omega)]; exact u1
      have y1 : 8 - (u : Int) = (y : Int) := by omega
      have y2 : IntKind.i64.wrap (8 - (u : Int)) = (y : Int) := by rw [IntKind.wrap_i64]; omega
      have t1 : 8 - (s : Int) = (t : Int) := by omega
      have t2 : IntKind.i64.wrap (8 - (s : Int)) = (t : Int) := by rw [IntKind.wrap_i64]; omega
      have v1 : (v : Int) - (s : Int) = (v2 : Int) := by omega
      have v3 : IntKind.i64.wrap ((v : Int) - (s : Int)) = (v2 : Int) := by rw [IntKind.wrap_i64]; omega
      obtain ⟨L2, hL2⟩ : ∃ L2, L2 = L + s := ⟨_, rfl⟩
      have l1 : (L : Int) + (s : Int) = (L2 : Int) := by omega
      have hv64 : v ≤ 64 := by omega
      have hv0 : 0 < v := by omega
      have hu8 : u < 8 := by omega
      have hLm : L ≤ 8192 := by have := hbl.out; omega
      have m1 : min v2 64 = v2 := by omega
      have m2 : min u 8 = u := by omega
      have m3 : min t 8 = t := by omega
      have HP : Hid (v = W - k ∧ v2 = v - s ∧ s ≤ v ∧ 0 < s ∧ k ≤ W) := ⟨hv, hv2, by omega, hs0, hk⟩
      have hsc : s = y ∧ y ≤ v ∨ s = v ∧ ¬ y ≤ v := by omega
      obtain ⟨q3, hq3⟩ : ∃ q3, q3 = q + 1 := ⟨_, rfl⟩
      have lq : (q3 : Int) - 1 = (q : Int) := by omega
      have lq2 : IntKind.i64.wrap ((q3 : Int) - 1) = (q : Int) := by rw [IntKind.wrap_i64]; omega
      have gq1 : (q : Int) < (q3 : Int) := by omega
      have gq0 : (0 : Int) ≤ (q : Int) := Int.natCast_nonneg _
      have hq3m : q3 ≤ 2000 := by omega
      rw [← hv]
      by_cases hu0 : u = 0
      · have du : ((u : Int) == 0) = true := by simp [hu0]
        have hPl : packL B = packN B q := by unfold packL; congr 1; omega
        obtain ⟨vv, g1, g2, g3, g4, g5⟩ := hM
        obtain ⟨d1, cd1, w1, hrun, e1, e2, F2, hM2, hap2, hF2⟩ := row_more hty g1 g2 g3 g4 g5 (by simp only [packL_length]; omega) 0
        have hq4 : (packL B).length + 1 = q3 := by rw [hPl, packN_length]; omega
        simp only [hq4] at hrun hM2 hap2
        rw [hPl, ← packN_more B q (by omega), ← hL] at hM2
        obtain ⟨W2, hW2⟩ : ∃ W2, W2 = w1.setCell ⟨b, 1, none⟩ (.slice d1 q3 cd1) := ⟨_, rfl⟩
        rw [← hW2] at hM2 hap2
        have hap' : Apart F w W2 := hap.trans hap2 hF1
        have hF' : ∀ i, F2 i → F i ∨ w.heap.size ≤ i := fun i hi => by
          rcases hF2 i hi with h | h
          · exact hF1 i h
          · have := hap.size; exact .inr (by omega)
        obtain ⟨d, cd, c0, c1, c2, fz, hse, hdd, hown⟩ := hM2.reads
        rw [packN_length, ← hq3] at c1
        obtain ⟨qb, rfl⟩ : ∃ qb, d = some ⟨qb, 0, none⟩ := by
          rcases hown.2 with ⟨h0, _⟩ | ⟨g, cap, cur, he, _⟩
          · simp [packN_length] at h0
          · simp only [Value.slice.injEq] at he; exact ⟨g, he.1⟩
        obtain ⟨b1, o1, hb1, hcx⟩ := hse.get hx
        simp only [Option.some.injEq, Addr.mk.injEq, and_true] at hb1
        obtain ⟨rfl, rfl⟩ := hb1
        have fq : W2.frozen? ⟨qb, q, none⟩ = false := hown.frozenAt q
        have f2 : W2.frozen? ⟨b, 2, none⟩ = false := fz 2
        have HE := hrest W2 F2 hM2 hap' hF' qb cd (by rw [c1, hq3])
        rw [← hL2] at HE
        have HE2 : Hid (∀ m, Left (RowB ty R) w F b (bs ++ (bitsN n W).take (k + s)) (((W2.setCell ⟨qb, q, none⟩ (.int .u8 (z.toNat : Int))).drewN m).setCell ⟨b, 2, none⟩ (.int .i64 (L2 : Int)))) := HE
        have hqb : qb ≠ b := by
          rintro rfl
          have h5 : W2.cell? ⟨qb, 0, none⟩ = some (.bool true) := c0
          have h6 := hse.get (k := 0) (List.getElem?_eq_getElem (by rw [packN_length]; omega))
          obtain ⟨b2, o2, hb2, hc2⟩ := h6
          simp only [Option.some.injEq, Addr.mk.injEq, and_true] at hb2
          rw [← hb2.1, ← hb2.2, h5] at hc2
          simp at hc2
        simp only [Nat.zero_add] at hcx
        have c2' : ∀ m, ((W2.setCell ⟨qb, q, none⟩ (.int .u8 (z.toNat : Int))).drewN m).cell? ⟨b, 2, none⟩ = some (.int .i64 (L : Int)) := fun m => by
          have h7 : (W2.setCell ⟨qb, q, none⟩ (.int .u8 (z.toNat : Int))).cell? ⟨b, 2, none⟩ = W2.cell? ⟨b, 2, none⟩ := World.cell?_of_block (heap_setCell_other _ _ _ _ hqb.symm)
          have h8 : (W2.setCell ⟨qb, q, none⟩ (.int .u8 (z.toNat : Int))).cell? ⟨b, 2, none⟩ = some (.int .i64 (L : Int)) := h7.trans c2
          exact h8
        have k1 : wr.cell? ⟨b, 1, none⟩ = some vv := cell_of_row _ _ 1 _ _ _ g1
        have k2 : wr.cell? ⟨b, 2, none⟩ = some (.int .i64 (L : Int)) := by rw [hL]; exact cell_of_row _ _ 2 _ _ _ g1
        have HR : Hid ((Builtin.append_ #[23, 23] 23 #[vv, .slice (some ⟨wr.heap.size, 0, none⟩) 1 1]).run Try.prog (wr.alloc (.cells #[.int .u8 0] 5)) = .ok (.slice d1 q3 cd1) w1) := hrun
        have hst : (Instr.storeAt 23 (.pointer (some ⟨b, 1, none⟩)) (.slice d1 q3 cd1)).run Try.prog w1 = .ok () W2 := by
          rw [hW2]
          simp [Instr.storeAt, Instr.sureAddr, e1, e2, go_sem]
        have HST : Hid ((Instr.storeAt 23 (.pointer (some ⟨b, 1, none⟩)) (.slice d1 q3 cd1)).run Try.prog w1 = .ok () W2) := hst
        clear hM2 hPl g1 g2 g3 g4 g5 hse hdd hown HE hrest hap hap2 hap' hF1 hF2 hF' hadd hBs hfin hlen hB hBl hL hv hq hu hy hs ht hv2 hN hc hz hx hNm hN8 hX fz hq3 c0 hk hlt hs0 hL2 hW2 hrun hq4 e1 e2 hu0 hst
        rcases hsc with ⟨rfl, hyv⟩ | ⟨rfl, hyv⟩
        all_goals
          go_wp2_with (first | refine wpList_append_run rfl _ _ 23 rfl _ _ _ rfl rfl HR.out ?_ | refine wpList_bstore_run rfl 23 _ _ rfl _ _ rfl rfl HST.out ?_)
          go_region
          go_wp2
          go_roundw
          case rel =>
            have h1 := HP.out
            exact ⟨k + s, by omega, by first | go_num | (congr 1; omega), HE2.out 1⟩
          case measure => have h1 := HP.out; simp [intOf]; omega
      · have hP : packL B = packN B (q + 1) := packL_part B q (by omega) (by omega)
        have hM2 : RowP ty R wr b (L, packN B (q + 1)) F1 := by rw [← hP, hL]; exact hM
        obtain ⟨d, cd, c0, c1, c2, fz, hse, hdd, hown⟩ := hM2.reads
        rw [packN_length, ← hq3] at c1
        obtain ⟨qb, rfl⟩ : ∃ qb, d = some ⟨qb, 0, none⟩ := by
          rcases hown.2 with ⟨h0, _⟩ | ⟨g, cap, cur, he, _⟩
          · simp [packN_length] at h0
          · simp only [Value.slice.injEq] at he; exact ⟨g, he.1⟩
        obtain ⟨b1, o1, hb1, hcx⟩ := hse.get hx
        simp only [Option.some.injEq, Addr.mk.injEq, and_true] at hb1
        obtain ⟨rfl, rfl⟩ := hb1
        have fq : wr.frozen? ⟨qb, q, none⟩ = false := hown.frozenAt q
        have f2 : wr.frozen? ⟨b, 2, none⟩ = false := fz 2
        have HE := hrest wr F1 hM2 hap hF1 qb cd (by rw [c1, hq3])
        rw [← hL2] at HE
        have HE2 : Hid (∀ m, Left (RowB ty R) w F b (bs ++ (bitsN n W).take (k + s)) (((wr.setCell ⟨qb, q, none⟩ (.int .u8 (z.toNat : Int))).drewN m).setCell ⟨b, 2, none⟩ (.int .i64 (L2 : Int)))) := HE
        have du : ((u : Int) == 0) = false := by simp [hu0]
        have hqb : qb ≠ b := by
          rintro rfl
          have h5 : wr.cell? ⟨qb, 0, none⟩ = some (.bool true) := c0
          have h6 := hse.get (k := 0) (List.getElem?_eq_getElem (by rw [packN_length]; omega))
          obtain ⟨b2, o2, hb2, hc2⟩ := h6
          simp only [Option.some.injEq, Addr.mk.injEq, and_true] at hb2
          rw [← hb2.1, ← hb2.2, h5] at hc2
          simp at hc2
        simp only [Nat.zero_add] at hcx
        have c2' : ∀ m, ((wr.setCell ⟨qb, q, none⟩ (.int .u8 (z.toNat : Int))).drewN m).cell? ⟨b, 2, none⟩ = some (.int .i64 (L : Int)) := fun m => by
          have h7 : (wr.setCell ⟨qb, q, none⟩ (.int .u8 (z.toNat : Int))).cell? ⟨b, 2, none⟩ = wr.cell? ⟨b, 2, none⟩ := World.cell?_of_block (heap_setCell_other _ _ _ _ hqb.symm)
          have h8 : (wr.setCell ⟨qb, q, none⟩ (.int .u8 (z.toNat : Int))).cell? ⟨b, 2, none⟩ = some (.int .i64 (L : Int)) := h7.trans c2
          exact h8
        clear hM hM2 hP hse hdd hown HE hrest hap hF1 hadd hBs hfin hlen hB hBl hL hv hq hu hy hs ht hv2 hN hc hz hx hNm hN8 hX fz hq3 c0 hk hlt hs0 hL2
        rcases hsc with ⟨rfl, hyv⟩ | ⟨rfl, hyv⟩
        all_goals
          go_wp2
          go_region
          go_wp2
          go_roundw
          case rel =>
            have h1 := HP.out
            exact ⟨k + s, by omega, by first | go_num | (congr 1; omega), HE2.out 1⟩
          case measure => have h1 := HP.out; simp [intOf]; omega
    · obtain rfl : k = W := by omega
      have hz : k - k = 0 := by omega
      rw [hz]
      have hT : (bitsN n k).take k = bitsN n k := by rw [List.take_of_length_le]; rw [bitsN_length]; exact Nat.le_refl _
      have HE : Hid (Left (RowB ty R) w F b (bs ++ bitsN n k) wr) := ⟨F1, by rw [← hT]; exact hM, hap, hF1⟩
      clear hM hap hF1 hT
      go_wp2
      go_end0
      exact ⟨⟨_, rfl⟩, HE.out⟩
end Go.Proofs.Ytoggjpkbbncbbaa
