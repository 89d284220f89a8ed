/-
  The contracts of sha.turned and sha.spread.
-/
import Derived.Test.YtkpaldkmikjpiaaDoorTurn
import Derived.Test.YtkpaldkmikjpiaaDoorLoad
import Derived.Test.YtkpaldkmikjpiaaDoorShaMath
import Derived.Test.YtkpaldkmikjpiaaDoorCells
import Derived.BigRegion
namespace Go.Proofs.YtkpaldkmikjpiaaDoor
open Go.ChangeShapes Go.WideShapes Go.ChangeAt Go.RowKit

theorem bx32 (x y : Nat) (hx : x < 4294967296) (hy : y < 4294967296) : bits .xor .u32 (x : Int) (y : Int) = ((x ^^^ y : Nat) : Int) := u32_xor_nat x y hx hy

set_option maxHeartbeats 400000 in
set_option maxRecDepth 20000 in
theorem turned_any (x i j k : Nat) (hx : x < 4294967296) (hi : i < 32) (hj : j < 32) (hk : k < 32) (w : World) :
    Calls Tryd.prog 63 #[.int .u32 x, .int .i64 i, .int .i64 j, .int .i64 k] w fun e w' => e = .returned (.int .u32 (rot3 x i j k : Nat)) ∧ w' = w := by
  obtain ⟨y, hy⟩ : ∃ y, y = rotr x i ^^^ rotr x j := ⟨_, rfl⟩
  obtain ⟨z, hz⟩ : ∃ z, z = rot3 x i j k := ⟨_, rfl⟩
  have e1 : bits .xor .u32 (rotr x i : Int) (rotr x j : Int) = (y : Int) := by rw [hy]; exact bx32 _ _ (rotr_lt x i hx hi) (rotr_lt x j hx hj)
  have e2 : bits .xor .u32 (y : Int) (rotr x k : Int) = (z : Int) := by rw [hy, hz]; exact bx32 _ _ (xor_lt32 (rotr_lt x i hx hi) (rotr_lt x j hx hj)) (rotr_lt x k hx hk)
  have HZ : Hid (z = rot3 x i j k) := hz
  clear hy hz
  go_enter Tryd.func63, Tryd.ntmps63
  go_wp2_with fail
  refine (turn_any x i i hx (by omega) _).mono ?_
  rintro e w' ⟨rfl, rfl⟩
  go_wp2_with fail
  refine (turn_any x j j hx (by omega) _).mono ?_
  rintro e w' ⟨rfl, rfl⟩
  go_wp2_with fail
  refine (turn_any x k k hx (by omega) _).mono ?_
  rintro e w' ⟨rfl, rfl⟩
  go_wp2
  go_ret
  exact ⟨by rw [HZ.out]; rfl, rfl⟩

/-- The facts on three turnings of a word, of which the last shifts. -/
theorem sg_facts (w : World) (x i j k d : Nat) (hx : x < 4294967296) (hi : i < 32) (hj : j < 32) (hd : 2 ^ k = d) :
    ∃ r q y : Nat, (∀ n, Calls Tryd.prog 67 #[.int .u32 (x : Int), .int .i64 (i : Nat)] (w.drewN n) fun e w' => e = .returned (.int .u32 (r : Int)) ∧ w' = w.drewN n) ∧
      (∀ n, Calls Tryd.prog 67 #[.int .u32 (x : Int), .int .i64 (j : Nat)] (w.drewN n) fun e w' => e = .returned (.int .u32 (q : Int)) ∧ w' = w.drewN n) ∧
      bits .xor .u32 (r : Int) (q : Int) = (y : Int) ∧ bits .xor .u32 (y : Int) ((x : Int) / (d : Int)) = ((rotr x i ^^^ rotr x j ^^^ (x >>> k) : Nat) : Int) := by
  refine ⟨rotr x i, rotr x j, rotr x i ^^^ rotr x j, fun n => turn_any x i i hx (by omega) _, fun n => turn_any x j j hx (by omega) _, bx32 _ _ (rotr_lt x i hx hi) (rotr_lt x j hx hj), ?_⟩
  have h1 : (x : Int) / (d : Int) = ((x >>> k : Nat) : Int) := by rw [Nat.shiftRight_eq_div_pow, hd]; simp
  rw [h1]
  exact bx32 _ _ (xor_lt32 (rotr_lt x i hx hi) (rotr_lt x j hx hj)) (shr_lt32 hx)

/-- Two rows of the call's own: noughts, and words. -/
structure Sp (w wr : World) (cs : List Nat) : Prop where
  res : wr.heap[w.heap.size]? = some (.cells ((List.replicate 64 0).map wcell).toArray 90 (0, 0))
  row : wr.heap[w.heap.size + 1]? = some (.cells (cs.map wcell).toArray 90 (0, 0))
  bel : Below w.heap.size w wr

theorem Sp.cell {w wr : World} {cs : List Nat} (h : Sp w wr cs) {k x : Nat} (hx : cs[k]? = some x) : wr.cell? ⟨w.heap.size + 1, k, none⟩ = some (.int .u32 (x : Int)) := cell_words h.row hx
theorem Sp.frozen {w wr : World} {cs : List Nat} (h : Sp w wr cs) (k : Nat) : wr.frozen? ⟨w.heap.size + 1, k, none⟩ = false := frozen_of_row wr _ k _ _ h.row
theorem Sp.store {w wr : World} {cs : List Nat} (h : Sp w wr cs) (k x : Nat) : Sp w (wr.setCell ⟨w.heap.size + 1, k, none⟩ (.int .u32 (x : Int))) (cs.set k x) :=
  ⟨by rw [heap_setCell_other _ _ _ _ (by simp)]; exact h.res, setCell_words h.row k x, h.bel.setCell (p := ⟨w.heap.size + 1, k, none⟩) (by simp) _⟩
theorem Sp.drewN {w wr : World} {cs : List Nat} (h : Sp w wr cs) (n : Nat) : Sp w (wr.drewN n) cs := ⟨h.res, h.row, below_drewN h.bel n⟩

set_option maxHeartbeats 1600000 in
set_option maxRecDepth 20000 in
theorem spread_any (w : World) (a : Option Addr) (cap : Nat) (bs : List UInt8) (ha : Sees w a cap bs) (hl : bs.length = 64) :
    Calls Tryd.prog 62 #[.slice a 64 cap] w fun e w' => e = .returned (.agg ((wl bs 64).map wcell).toArray) ∧ Below w.heap.size w w' := by
  have HL : Hid (bs.length = 64) := hl
  have hwl : Hid (∀ t, (wl bs t).length = t) := wl_length bs
  clear hl
  have h0 : Sp w ((w.alloc (.cells ((List.replicate 64 0).map wcell).toArray 90)).alloc (.cells ((List.replicate 64 0).map wcell).toArray 90)) (wl bs 0 ++ List.replicate (64 - 0) 0) :=
    ⟨heap_alloc2_old w _ _, heap_alloc2_new w _ _, ((Below.refl _ _).alloc (Nat.le_refl _) _).alloc (by simp) _⟩
  go_enter Tryd.func62, Tryd.ntmps62
  go_wp2
  go_loopw [8] (fun i wr => ∃ t : Nat, t ≤ 16 ∧ i = .int .i64 t ∧ Sp w wr (wl bs t ++ List.replicate (64 - t) 0)) (fun i _ => 16 - (intOf i).toNat)
  case atStart => exact ⟨0, by omega, rfl, h0⟩
  case round =>
    obtain ⟨t, ht, rfl, hs⟩ := hrel
    clear h0
    by_cases hlt : t < 16
    · have hc : wr.cell? ⟨w.heap.size + 1, t, none⟩ = some (.int .u32 ((0 : Nat) : Int)) := hs.cell (by
        rw [List.getElem?_append_right (by rw [hwl.out]; exact Nat.le_refl _), hwl.out, Nat.sub_self, List.getElem?_replicate, if_pos (by omega)])
      have hf := hs.frozen t
      have hst := hs.store t (nextW bs (wl bs t) t)
      rw [set_stepW _ _ _ _ (hwl.out t) (by omega)] at hst
      have hb := ha.below hs.bel
      have HS : Hid (Sp w (wr.setCell ⟨w.heap.size + 1, t, none⟩ (.int .u32 ((nextW bs (wl bs t) t : Nat) : Int))) (wl bs (t + 1) ++ List.replicate (64 - (t + 1)) 0)) := hst
      clear hst hs
      have hx : be ((bs.drop (4 * t)).take 4) = nextW bs (wl bs t) t := by simp [nextW, hlt]
      obtain ⟨x, hxx⟩ : ∃ x, x = nextW bs (wl bs t) t := ⟨_, rfl⟩
      rw [← hxx] at HS hx
      clear hxx
      go_wp2_with fail
      have hld := Load32_yes wr a cap bs (4 * t) hb (by rw [HL.out]; omega)
      rw [HL.out, hx] at hld
      refine hld.mono ?_
      rintro e w' ⟨rfl, rfl⟩
      clear hld hx
      go_wp2
      go_roundw
      case rel => exact ⟨t + 1, by omega, by go_num, HS.out⟩
      case measure => simp [intOf]; omega
    · obtain rfl : t = 16 := by omega
      go_wp2
      go_loopw [5] (fun i wr => ∃ m : Nat, m ≤ 48 ∧ i = .int .i64 ((m + 16 : Nat) : Int) ∧ Sp w wr (wl bs (m + 16) ++ List.replicate (64 - (m + 16)) 0)) (fun i _ => 64 - (intOf i).toNat)
      case atStart => exact ⟨0, by omega, rfl, hs⟩
      case round =>
        obtain ⟨m, hm, rfl, hs2⟩ := hrel
        clear hs
        by_cases hlt2 : m < 48
        · obtain ⟨y, hy⟩ : ∃ y, y = nextW bs (wl bs (m + 16)) (m + 16) := ⟨_, rfl⟩
          obtain ⟨x15, h15⟩ : ∃ x, x = (wl bs (m + 16)).getD (m + 1) 0 := ⟨_, rfl⟩
          obtain ⟨x2, h2⟩ : ∃ x, x = (wl bs (m + 16)).getD (m + 14) 0 := ⟨_, rfl⟩
          obtain ⟨x7, h7⟩ : ∃ x, x = (wl bs (m + 16)).getD (m + 9) 0 := ⟨_, rfl⟩
          obtain ⟨x16, h16⟩ : ∃ x, x = (wl bs (m + 16)).getD m 0 := ⟨_, rfl⟩
          have b15 : x15 < 4294967296 := by rw [h15]; exact getD_lt (wl_lt bs _) _
          have b2 : x2 < 4294967296 := by rw [h2]; exact getD_lt (wl_lt bs _) _
          have c15 : wr.cell? ⟨w.heap.size + 1, m + 1, none⟩ = some (.int .u32 (x15 : Int)) := hs2.cell (by rw [h15]; exact getD_app _ _ _ (by rw [hwl.out]; omega))
          have c2 : wr.cell? ⟨w.heap.size + 1, m + 14, none⟩ = some (.int .u32 (x2 : Int)) := hs2.cell (by rw [h2]; exact getD_app _ _ _ (by rw [hwl.out]; omega))
          have c7 : wr.cell? ⟨w.heap.size + 1, m + 9, none⟩ = some (.int .u32 (x7 : Int)) := hs2.cell (by rw [h7]; exact getD_app _ _ _ (by rw [hwl.out]; omega))
          have c16 : wr.cell? ⟨w.heap.size + 1, m, none⟩ = some (.int .u32 (x16 : Int)) := hs2.cell (by rw [h16]; exact getD_app _ _ _ (by rw [hwl.out]; omega))
          have ct : wr.cell? ⟨w.heap.size + 1, m + 16, none⟩ = some (.int .u32 ((0 : Nat) : Int)) := hs2.cell (by
            rw [List.getElem?_append_right (by rw [hwl.out]; exact Nat.le_refl _), hwl.out, Nat.sub_self, List.getElem?_replicate, if_pos (by omega)])
          have hf := hs2.frozen (m + 16)
          have hst : ∀ n, Sp w ((wr.drewN n).setCell ⟨w.heap.size + 1, m + 16, none⟩ (.int .u32 (y : Int))) (wl bs (m + 16 + 1) ++ List.replicate (64 - (m + 16 + 1)) 0) := fun n => by
            have := (hs2.drewN n).store (m + 16) y
            rw [set_stepW _ _ _ _ (hwl.out _) (by omega), hy] at this
            rw [hy]
            exact this
          have HS : Hid (∀ n, Sp w ((wr.drewN n).setCell ⟨w.heap.size + 1, m + 16, none⟩ (.int .u32 (y : Int))) (wl bs (m + 16 + 1) ++ List.replicate (64 - (m + 16 + 1)) 0)) := hst
          have hy2 : y = (sg1 x2 + x7 + sg0 x15 + x16) % 4294967296 := by rw [hy, h2, h7, h15, h16]; rfl
          clear hst hs2 hy h15 h2 h7 h16
          have k15 : IntKind.i64.wrap ((m : Int) + 16 - 15) = ((m + 1 : Nat) : Int) := by rw [IntKind.wrap_i64]; omega
          have k2 : IntKind.i64.wrap ((m : Int) + 16 - 2) = ((m + 14 : Nat) : Int) := by rw [IntKind.wrap_i64]; omega
          have k7 : IntKind.i64.wrap ((m : Int) + 16 - 7) = ((m + 9 : Nat) : Int) := by rw [IntKind.wrap_i64]; omega
          have k16 : IntKind.i64.wrap ((m : Int) + 16 - 16) = (m : Int) := by rw [IntKind.wrap_i64]; omega
          obtain ⟨s0, hs0⟩ : ∃ x, x = sg0 x15 := ⟨_, rfl⟩
          obtain ⟨s1, hs1⟩ : ∃ x, x = sg1 x2 := ⟨_, rfl⟩
          rw [← hs0, ← hs1] at hy2
          obtain ⟨r7, r18, q0, t7, t18, e1, e2⟩ := sg_facts wr x15 7 18 3 8 b15 (by omega) (by omega) rfl
          obtain ⟨r17, r19, q1, t17, t19, e3, e4⟩ := sg_facts wr x2 17 19 10 1024 b2 (by omega) (by omega) rfl
          rw [show rotr x15 7 ^^^ rotr x15 18 ^^^ (x15 >>> 3) = s0 from hs0.symm] at e2
          rw [show rotr x2 17 ^^^ rotr x2 19 ^^^ (x2 >>> 10) = s1 from hs1.symm] at e4
          clear hs0 hs1
          have e2' : bits .xor .u32 (q0 : Int) ((x15 : Int) / 8) = (s0 : Int) := e2
          have e4' : bits .xor .u32 (q1 : Int) ((x2 : Int) / 1024) = (s1 : Int) := e4
          have ey : ((s1 : Int) + x7 + s0 + x16) % 4294967296 = (y : Int) := by rw [hy2]; simp
          clear e2 e4 hy2
          go_wp2
          go_quiet (first | (go_at_call_of 67 (Value.int .i64 7); exact Calls.quiet_of_same (t7 _)) | (go_at_call_of 67 (Value.int .i64 18); exact Calls.quiet_of_same (t18 _)))
          go_wp2
          go_quiet (first | (go_at_call_of 67 (Value.int .i64 17); exact (t17 _).mono fun _ _ h => ⟨h.1, _, h.2⟩) | (go_at_call_of 67 (Value.int .i64 19); exact (t19 _).mono fun _ _ h => ⟨h.1, _, h.2⟩))
          go_wp2
          clear t7 t18 t17 t19 e1 e2' e3 e4' c15 c2 k15 k2
          go_region
          go_wp2
          go_roundw
          case rel => exact ⟨m + 1, by omega, by go_num, by rw [show m + 1 + 16 = m + 16 + 1 from by omega]; exact HS.out _⟩
          case measure => simp [intOf]; omega
        · obtain rfl : m = 48 := by omega
          obtain ⟨C, hC⟩ : ∃ C, C = ((wl bs 64).map wcell).toArray := ⟨_, rfl⟩
          have hrow : wr.heap[w.heap.size + 1]? = some (.cells C 90 (0, 0)) := by rw [hs2.row, hC]; simp
          have hsz : C.size = 64 := by rw [hC]; simp [hwl.out]
          have hone : C.all (·.oneCell') = true := by rw [hC]; exact words_one _
          have hld := loadAt_row (P := Tryd.prog) wr _ 90 90 C (0, 0) _ hrow Tryd.underlying90 rfl (by rw [hsz]; kernel_rfl)
          have hst := storeAt_row (P := Tryd.prog) wr w.heap.size 90 90 _ C hs2.res (by rw [hsz]; kernel_rfl) (by rw [hsz]; simp) hone
          have hres : (wr.setRow w.heap.size C).heap[w.heap.size]? = some (.cells C 90 (0, 0)) := setRow_heap wr _ _ C 90 _ hs2.res
          have hbel := below_setRow hs2.bel (Nat.le_refl _) C
          have HLD : Hid ((Instr.loadAt 90 (.pointer (some ⟨w.heap.size + 1, 0, none⟩))).run Tryd.prog wr = .ok (.agg C) wr) := hld
          have HST : Hid ((Instr.storeAt 90 (.pointer (some ⟨w.heap.size, 0, none⟩)) (.agg C)).run Tryd.prog wr = .ok () (wr.setRow w.heap.size C)) := hst
          have HC : Hid (C = ((wl bs 64).map wcell).toArray) := hC
          have HZ : Hid (C.size = 64) := hsz
          clear hs2 hrow hone hC hsz hld hst
          go_wp2_with (first | refine wpList_load_run rfl 90 _ rfl _ _ rfl HLD.out ?_ | refine wpList_store_run rfl 90 _ _ rfl _ _ rfl rfl HST.out ?_)
          (try simp only [Exit.inBlock, Exit.then])
          refine bodyPost_ret (results_cell_row rfl _ _ w.heap.size 90 C (0, 0) _ rfl hres Tryd.underlying90 rfl (by rw [HZ.out]; kernel_rfl)) rfl ?_
          exact ⟨by rw [HC.out], hbel⟩
end Go.Proofs.YtkpaldkmikjpiaaDoor
