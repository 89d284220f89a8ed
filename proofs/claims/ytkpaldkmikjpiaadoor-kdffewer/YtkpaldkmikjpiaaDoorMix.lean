/-
  The contract of sha.mix: the state behind a block.
-/
import Derived.Test.YtkpaldkmikjpiaaDoorSpread
namespace Go.Proofs.YtkpaldkmikjpiaaDoor
open Go.ChangeShapes Go.WideShapes Go.ChangeAt Go.RowKit

/-- The rounds' words lie in their table. -/
def KTab (w : World) : Prop := ∀ t, t < 64 → w.cell? ⟨1, t, none⟩ = some (.int .u32 ((kTab.getD t 0 : Nat) : Int))
theorem KTab.two {w : World} (h : KTab w) : 2 ≤ w.heap.size := by
  have := World.block_lt_of_cell? w _ (h 0 (by omega))
  exact this
theorem KTab.below {w w' : World} (h : KTab w) (hb : Below w.heap.size w w') : KTab w' := fun t ht => by
  rw [hb.cell (p := ⟨1, t, none⟩) (by have := h.two; show 1 < _; omega)]; exact h t ht

/-- A state as a value. -/
def S8.cells (s : S8) : Array Value := #[.int .u32 s.a, .int .u32 s.b, .int .u32 s.c, .int .u32 s.d, .int .u32 s.e, .int .u32 s.f, .int .u32 s.g, .int .u32 s.h]
theorem S8.cells_eq (s : S8) : s.cells = (s.list.map wcell).toArray := rfl
theorem S8.cells_size (s : S8) : s.cells.size = 8 := rfl

theorem run_index_words (P : Program) (T n : Nat) (hT : P.underlying T = some (.array n 66)) (hu : P.underlying 66 = some (.int .u32)) (hc : (P.info? 66).map (·.size) = some 1) (C : List Nat) (k x : Nat) (hx : C[k]? = some x) (hk : k < n) (W : World) :
    (Instr.index T (.agg (C.map wcell).toArray) (.int .i64 (k : Int))).run P W = .ok (.int .u32 (x : Int)) W := by
  cases hq : P.info? 66 with
  | none => simp [hq] at hc
  | some i =>
    have hs : i.size = 1 := by simpa [hq] using hc
    have hagg : (isAgg 66).run P W = .ok false W := by unfold isAgg; rw [Sem.run_bind, run_underlying hu W]; rfl
    simp [Instr.index, run_underlying hT, asIntOf, go_sem, hk, sizeOf, typeInfo, hq, hs, hx, wcell, hagg]

theorem not32 (x : Nat) (hx : x < 4294967296) : 4294967295 ^^^ x = 4294967295 - x := by
  have h1 : (BitVec.allOnes 32 ^^^ BitVec.ofNat 32 x).toNat = 4294967295 ^^^ x := by
    rw [BitVec.toNat_xor, BitVec.toNat_allOnes, BitVec.toNat_ofNat, Nat.mod_eq_of_lt (by omega)]
  rw [← h1, BitVec.allOnes_xor, BitVec.toNat_not, BitVec.toNat_ofNat, Nat.mod_eq_of_lt (by omega)]

theorem ch_bits (e f g : Nat) (he : e < 4294967296) (hf : f < 4294967296) (hg : g < 4294967296) :
    bits .xor .u32 (bits .and .u32 (e : Int) (f : Int)) (bits .and .u32 (bits .xor .u32 IntKind.u32.max (e : Int)) (g : Int)) = (ch e f g : Int) := by
  rw [show IntKind.u32.max = ((4294967295 : Nat) : Int) from rfl, u32_and_nat e f he hf, bx32 4294967295 e (by omega) he, not32 e he, u32_and_nat _ g (by omega) hg,
    bx32 _ _ (and_lt32 he) (and_lt32 (by omega))]
  rfl

theorem maj_bits (a b c : Nat) (ha : a < 4294967296) (hb : b < 4294967296) (hc : c < 4294967296) :
    bits .xor .u32 (bits .xor .u32 (bits .and .u32 (a : Int) (b : Int)) (bits .and .u32 (a : Int) (c : Int))) (bits .and .u32 (b : Int) (c : Int)) = (maj a b c : Int) := by
  rw [u32_and_nat a b ha hb, u32_and_nat a c ha hc, u32_and_nat b c hb hc, bx32 _ _ (and_lt32 ha) (and_lt32 ha), bx32 _ _ (xor_lt32 (and_lt32 ha) (and_lt32 ha)) (and_lt32 hb)]
  rfl

/-- Two rows of the call's own: the state, and noughts. -/
structure Mi (w wr : World) (cs : List Nat) : Prop where
  row : wr.heap[w.heap.size]? = some (.cells (cs.map wcell).toArray 74 (0, 0))
  res : wr.heap[w.heap.size + 1]? = some (.cells ((List.replicate 8 0).map wcell).toArray 74 (0, 0))
  bel : Below w.heap.size w wr

theorem Mi.drewN {w wr : World} {cs : List Nat} (h : Mi w wr cs) (n : Nat) : Mi w (wr.drewN n) cs := ⟨h.row, h.res, below_drewN h.bel n⟩
theorem Mi.on {w wr w2 : World} {cs : List Nat} (h : Mi w wr cs) (hb : Below wr.heap.size wr w2) : Mi w w2 cs := by
  have h1 : w.heap.size + 1 < wr.heap.size := by
    have := h.res
    exact (Array.getElem?_eq_some_iff.1 this).1
  exact ⟨by rw [hb.block _ (by omega)]; exact h.row, by rw [hb.block _ h1]; exact h.res, h.bel.trans (hb.mono h.bel.size)⟩
theorem Mi.store {w wr : World} {cs : List Nat} (h : Mi w wr cs) (k x : Nat) : Mi w (wr.setCell ⟨w.heap.size, k, none⟩ (.int .u32 (x : Int))) (cs.set k x) :=
  ⟨setCell_words h.row k x, by rw [heap_setCell_other _ _ _ _ (by simp)]; exact h.res, h.bel.setCell (p := ⟨w.heap.size, k, none⟩) (by simp) _⟩
theorem mi_start (w : World) (s : S8) : Mi w ((w.alloc (.cells #[.int .u32 s.a, .int .u32 s.b, .int .u32 s.c, .int .u32 s.d, .int .u32 s.e, .int .u32 s.f, .int .u32 s.g, .int .u32 s.h] 74)).alloc
      (.cells #[.int .u32 0, .int .u32 0, .int .u32 0, .int .u32 0, .int .u32 0, .int .u32 0, .int .u32 0, .int .u32 0] 74)) s.list :=
  ⟨heap_alloc2_old w _ _, heap_alloc2_new w _ _, ((Below.refl _ _).alloc (Nat.le_refl _) _).alloc (by simp) _⟩

theorem add_at (s r : S8) (k : Nat) (hk : k < 8) : ∃ p q, s.list[k]? = some p ∧ r.list[k]? = some q ∧ (addS s r).list[k]? = some ((p + q) % 4294967296) := by
  have hc : k = 0 ∨ k = 1 ∨ k = 2 ∨ k = 3 ∨ k = 4 ∨ k = 5 ∨ k = 6 ∨ k = 7 := by omega
  rcases hc with rfl | rfl | rfl | rfl | rfl | rfl | rfl | rfl <;> exact ⟨_, _, rfl, rfl, rfl⟩

theorem set_mid (A B : List Nat) (k y : Nat) (hA : A[k]? = some y) (hl : A.length = B.length) : (A.take k ++ B.drop k).set k y = A.take (k + 1) ++ B.drop (k + 1) := by
  have hk : k < A.length := (List.getElem?_eq_some_iff.1 hA).1
  have hd : B.drop k = B[k]'(by omega) :: B.drop (k + 1) := List.drop_eq_getElem_cons (by omega)
  rw [hd, take_snoc A k y hA, List.set_append_right _ _ (by rw [List.length_take]; omega), List.length_take, show min k A.length = k by omega, Nat.sub_self, List.set_cons_zero, List.append_assoc]
  rfl

theorem at_mid (A B : List Nat) (k p : Nat) (hB : B[k]? = some p) (hk : k ≤ A.length) : (A.take k ++ B.drop k)[k]? = some p := by
  rw [List.getElem?_append_right (by rw [List.length_take]; omega)]
  simp [show min k A.length = k by omega, hB]

set_option maxHeartbeats 1600000 in
set_option maxRecDepth 20000 in
theorem mix_any (w : World) (s : S8) (hs : s.small) (a : Option Addr) (cap : Nat) (bs : List UInt8) (ha : Sees w a cap bs) (hl : bs.length = 64) (hT : KTab w) :
    Calls Tryd.prog 55 #[.agg s.cells, .slice a 64 cap] w fun e w' => e = .returned (.agg (mixS s bs).cells) ∧ Below w.heap.size w w' := by
  have HL : Hid (bs.length = 64) := hl
  have hwl : Hid (∀ t, (wl bs t).length = t) := wl_length bs
  have HS : Hid s.small := hs
  have HT : Hid (KTab w) := hT
  clear hl hs hT
  have h0 := fun n => (mi_start w s).drewN n
  show Calls Tryd.prog 55 #[.agg #[.int .u32 s.a, .int .u32 s.b, .int .u32 s.c, .int .u32 s.d, .int .u32 s.e, .int .u32 s.f, .int .u32 s.g, .int .u32 s.h], .slice a 64 cap] w fun e w' => e = .returned (.agg (mixS s bs).cells) ∧ Below w.heap.size w w'
  go_enter Tryd.func55, Tryd.ntmps55
  go_wp2
  go_quiet (fail)
  go_wp2
  go_quiet (fail)
  go_wp2_with fail
  refine (spread_any _ a cap bs (ha.below (h0 _).bel) HL.out).mono ?_
  rintro e w1 ⟨rfl, hb1⟩
  have hM : Mi w w1 s.list := (h0 _).on hb1
  have HK : Hid (KTab w1) := HT.out.below hM.bel
  clear hb1 h0
  obtain ⟨C, hC⟩ : ∃ C, C = wl bs 64 := ⟨_, rfl⟩
  rw [← hC]
  have hCl : C.length = 64 := by rw [hC]; exact hwl.out 64
  have hCs : Hid (∀ x ∈ C, x < 4294967296) := by rw [hC]; exact wl_lt bs 64
  have hmix : Hid (mixS s bs = addS s (rnds C s 64)) := by rw [hC]; exact rfl
  have hidx : Hid (∀ (k x : Nat) (W : World), C[k]? = some x → (Instr.index 90 (.agg (C.map wcell).toArray) (.int .i64 (k : Int))).run Tryd.prog W = .ok (.int .u32 (x : Int)) W) :=
    fun k x W hx => run_index_words Tryd.prog 90 64 Tryd.underlying90 Tryd.underlying66 (by kernel_rfl) C k x hx (by have := (List.getElem?_eq_some_iff.1 hx).1; omega) W
  have HCl : Hid (C.length = 64) := hCl
  obtain ⟨V, hV⟩ : ∃ V, V = Value.agg (C.map wcell).toArray := ⟨_, rfl⟩
  rw [← hV] at hidx ⊢
  clear hC hCl hV
  have hr0 : rnds C s 0 = s := rfl
  go_wp2
  go_loopw [5, 6, 7, 8, 9, 10, 11, 12, 37] (fun va vb vc vd ve vf vg vh i wr => ∃ t n : Nat, t ≤ 64 ∧ i = .int .i64 t ∧ wr = w1.drewN n ∧
      va = .int .u32 ((rnds C s t).a : Int) ∧ vb = .int .u32 ((rnds C s t).b : Int) ∧ vc = .int .u32 ((rnds C s t).c : Int) ∧ vd = .int .u32 ((rnds C s t).d : Int) ∧
      ve = .int .u32 ((rnds C s t).e : Int) ∧ vf = .int .u32 ((rnds C s t).f : Int) ∧ vg = .int .u32 ((rnds C s t).g : Int) ∧ vh = .int .u32 ((rnds C s t).h : Int))
    (fun _ _ _ _ _ _ _ _ i _ => 64 - (intOf i).toNat)
  case atStart => exact ⟨0, 0, by omega, rfl, rfl, rfl, rfl, rfl, rfl, rfl, rfl, rfl, rfl⟩
  case round =>
    obtain ⟨t, n, ht, rfl, rfl, rfl, rfl, rfl, rfl, rfl, rfl, rfl, rfl⟩ := hrel
    by_cases hlt : t < 64
    · obtain ⟨x, hx⟩ : ∃ x, C[t]? = some x := ⟨C[t]'(by rw [HCl.out]; exact hlt), by simp [HCl.out, hlt]⟩
      have hix : ∀ W : World, (Instr.index 90 V (.int .i64 (t : Int))).run Tryd.prog W = .ok (.int .u32 (x : Int)) W := fun W => hidx.out t x W hx
      have hkc := HK.out t hlt
      obtain ⟨k, hk⟩ : ∃ k, k = kTab.getD t 0 := ⟨_, rfl⟩
      rw [← hk] at hkc
      have hsm := rnds_small C HS.out t
      obtain ⟨R, hR⟩ : ∃ R, R = rnds C s t := ⟨_, rfl⟩
      have hnext : Hid (rnds C s (t + 1) = rnd k x R) := by
        rw [hR, hk]
        show rnd (kTab.getD t 0) (C.getD t 0) (rnds C s t) = _
        rw [show C.getD t 0 = x from by rw [List.getD_eq_getElem?_getD, hx]; rfl]
      rw [← hR] at hsm ⊢
      clear hR hk hx
      obtain ⟨ra, rb, rc, rd, re, rf, rg, rh⟩ := R
      obtain ⟨ba, bb, bc, bd, be', bf, bg, bh⟩ := hsm
      dsimp only at ba bb bc bd be' bf bg bh ⊢
      obtain ⟨q1, hq1⟩ : ∃ q, q = rot3 re 6 11 25 := ⟨_, rfl⟩
      obtain ⟨q2, hq2⟩ : ∃ q, q = rot3 ra 2 13 22 := ⟨_, rfl⟩
      obtain ⟨c, hc⟩ : ∃ c, c = ch re rf rg := ⟨_, rfl⟩
      obtain ⟨j, hj⟩ : ∃ c, c = maj ra rb rc := ⟨_, rfl⟩
      obtain ⟨x1, hx1⟩ : ∃ x1, x1 = T1 k x ⟨ra, rb, rc, rd, re, rf, rg, rh⟩ := ⟨_, rfl⟩
      obtain ⟨x2, hx2⟩ : ∃ x2, x2 = T2 ⟨ra, rb, rc, rd, re, rf, rg, rh⟩ := ⟨_, rfl⟩
      obtain ⟨ne, hne⟩ : ∃ y, y = (rd + x1) % 4294967296 := ⟨_, rfl⟩
      obtain ⟨na, hna⟩ : ∃ y, y = (x1 + x2) % 4294967296 := ⟨_, rfl⟩
      have t1 : ∀ n, Calls Tryd.prog 63 #[.int .u32 (re : Int), .int .i64 6, .int .i64 11, .int .i64 25] (w1.drewN n) fun e w' => e = .returned (.int .u32 (q1 : Int)) ∧ w' = w1.drewN n := fun n => by
        rw [hq1]; exact turned_any re 6 11 25 be' (by omega) (by omega) (by omega) _
      have t2 : ∀ n, Calls Tryd.prog 63 #[.int .u32 (ra : Int), .int .i64 2, .int .i64 13, .int .i64 22] (w1.drewN n) fun e w' => e = .returned (.int .u32 (q2 : Int)) ∧ w' = w1.drewN n := fun n => by
        rw [hq2]; exact turned_any ra 2 13 22 ba (by omega) (by omega) (by omega) _
      have e1 : bits .xor .u32 (bits .and .u32 (re : Int) (rf : Int)) (bits .and .u32 (bits .xor .u32 IntKind.u32.max (re : Int)) (rg : Int)) = (c : Int) := by rw [hc]; exact ch_bits re rf rg be' bf bg
      have e2 : bits .xor .u32 (bits .xor .u32 (bits .and .u32 (ra : Int) (rb : Int)) (bits .and .u32 (ra : Int) (rc : Int))) (bits .and .u32 (rb : Int) (rc : Int)) = (j : Int) := by rw [hj]; exact maj_bits ra rb rc ba bb bc
      have e3 : ((rh : Int) + q1 + c + k + x) % 4294967296 = (x1 : Int) := by rw [hx1, hq1, hc]; simp [T1]
      have e4 : ((q2 : Int) + j) % 4294967296 = (x2 : Int) := by rw [hx2, hq2, hj]; simp [T2]
      have e5 : ((rd : Int) + x1) % 4294967296 = (ne : Int) := by rw [hne]; simp
      have e6 : ((x1 : Int) + x2) % 4294967296 = (na : Int) := by rw [hna]; simp
      have hnx : Hid (rnds C s (t + 1) = ⟨na, ra, rb, rc, ne, re, rf, rg⟩) := by
        rw [hnext.out, hna, hne, hx1, hx2]; exact rfl
      clear hq1 hq2 hc hj hx1 hx2 hne hna hnext
      go_wp2
      go_quiet (first | (go_at_call 63; exact (t1 _).mono fun _ _ h => ⟨h.1, _, h.2⟩))
      go_wp2_with fail
      refine (t2 _).mono ?_
      rintro e w' ⟨rfl, rfl⟩
      clear t1 t2 e1 e3
      go_wp2
      go_roundw
      case rel => exact ⟨t + 1, _, by omega, by go_num, rfl, by rw [hnx.out, e6], by rw [hnx.out], by rw [hnx.out], by rw [hnx.out], by rw [hnx.out, e5], by rw [hnx.out], by rw [hnx.out], by rw [hnx.out]⟩
      case measure => simp [intOf]; omega
    · obtain rfl : t = 64 := by omega
      obtain ⟨R, hR⟩ : ∃ R, R = rnds C s 64 := ⟨_, rfl⟩
      rw [← hR]
      have hmix2 : Hid (mixS s bs = addS s R) := by rw [hR]; exact hmix.out
      clear hR hr0
      have hidx2 : Hid (∀ (k x : Nat) (W : World), R.list[k]? = some x → (Instr.index 74 (.agg #[.int .u32 R.a, .int .u32 R.b, .int .u32 R.c, .int .u32 R.d, .int .u32 R.e, .int .u32 R.f, .int .u32 R.g, .int .u32 R.h]) (.int .i64 (k : Int))).run Tryd.prog W = .ok (.int .u32 (x : Int)) W) :=
        fun k x W hx => run_index_words Tryd.prog 74 8 Tryd.underlying74 Tryd.underlying66 (by kernel_rfl) R.list k x hx (by have := (List.getElem?_eq_some_iff.1 hx).1; simpa [S8.list] using this) W
      have hM2 : Mi w (w1.drewN n) ((addS s R).list.take 0 ++ s.list.drop 0) := hM.drewN n
      clear hM hidx HCl hCs hmix
      go_wp2
      go_loopw [96] (fun i wr => ∃ k : Nat, k ≤ 8 ∧ i = .int .i64 k ∧ Mi w wr ((addS s R).list.take k ++ s.list.drop k)) (fun i _ => 8 - (intOf i).toNat)
      case atStart => exact ⟨0, by omega, rfl, hM2⟩
      case round =>
        obtain ⟨k, hk, rfl, hM3⟩ := hrel
        clear hM2
        by_cases hlt2 : k < 8
        · obtain ⟨p, q, hp, hq, hy⟩ := add_at s R k hlt2
          have hix : ∀ W : World, (Instr.index 74 (.agg #[.int .u32 R.a, .int .u32 R.b, .int .u32 R.c, .int .u32 R.d, .int .u32 R.e, .int .u32 R.f, .int .u32 R.g, .int .u32 R.h]) (.int .i64 (k : Int))).run Tryd.prog W = .ok (.int .u32 (q : Int)) W := fun W => hidx2.out k q W hq
          have hcell : wr.cell? ⟨w.heap.size, k, none⟩ = some (.int .u32 (p : Int)) := cell_words hM3.row (at_mid _ _ k p hp (by simp [S8.list]; omega))
          have hfr : wr.frozen? ⟨w.heap.size, k, none⟩ = false := frozen_of_row wr _ k _ _ hM3.row
          obtain ⟨y, hyy⟩ : ∃ y, y = (p + q) % 4294967296 := ⟨_, rfl⟩
          have e1 : ((p : Int) + q) % 4294967296 = (y : Int) := by rw [hyy]; simp
          have hst := hM3.store k y
          rw [set_mid _ _ k y (by rw [hyy]; exact hy) (by simp [S8.list])] at hst
          have HST : Hid (Mi w (wr.setCell ⟨w.heap.size, k, none⟩ (.int .u32 (y : Int))) ((addS s R).list.take (k + 1) ++ s.list.drop (k + 1))) := hst
          clear hst hM3 hyy hp hq hy
          go_wp2
          go_roundw
          case rel => exact ⟨k + 1, by omega, by go_num, HST.out⟩
          case measure => simp [intOf]; omega
        · obtain rfl : k = 8 := by omega
          have hrow : wr.heap[w.heap.size]? = some (.cells (addS s R).cells 74 (0, 0)) := by rw [hM3.row]; rfl
          have hld := loadAt_row (P := Tryd.prog) wr _ 74 74 (addS s R).cells (0, 0) _ hrow Tryd.underlying74 rfl (by kernel_rfl)
          have hst := storeAt_row (P := Tryd.prog) wr (w.heap.size + 1) 74 74 _ (addS s R).cells hM3.res (by kernel_rfl) (by rfl) (by rw [S8.cells_eq]; exact words_one _)
          have hres : (wr.setRow (w.heap.size + 1) (addS s R).cells).heap[w.heap.size + 1]? = some (.cells (addS s R).cells 74 (0, 0)) := setRow_heap wr _ _ _ 74 _ hM3.res
          have hbel := below_setRow hM3.bel (g := w.heap.size + 1) (by omega) (addS s R).cells
          obtain ⟨D, hD⟩ : ∃ D, D = (addS s R).cells := ⟨_, rfl⟩
          rw [← hD] at hld hst hres hbel
          have HLD : Hid ((Instr.loadAt 74 (.pointer (some ⟨w.heap.size, 0, none⟩))).run Tryd.prog wr = .ok (.agg D) wr) := hld
          have HST : Hid ((Instr.storeAt 74 (.pointer (some ⟨w.heap.size + 1, 0, none⟩)) (.agg D)).run Tryd.prog wr = .ok () (wr.setRow (w.heap.size + 1) D)) := hst
          have HD : Hid (D = (addS s R).cells) := hD
          clear hM3 hrow hld hst hD
          go_wp2_with (first | refine wpList_load_run rfl 74 _ rfl _ _ rfl HLD.out ?_ | refine wpList_store_run rfl 74 _ _ rfl _ _ rfl rfl HST.out ?_)
          (try simp only [Exit.inBlock, Exit.then])
          refine bodyPost_ret (results_cell_row rfl _ _ (w.heap.size + 1) 74 D (0, 0) _ rfl hres Tryd.underlying74 rfl (by rw [HD.out]; kernel_rfl)) rfl ?_
          exact ⟨by rw [HD.out, hmix2.out], hbel⟩
end Go.Proofs.YtkpaldkmikjpiaaDoor
