/-
  The contract of sha.take: the state behind all whole blocks, and what is left.
-/
import Derived.Test.YtkpaldkmikjpiaaDoorMix
namespace Go.Proofs.YtkpaldkmikjpiaaDoor
open Go.ChangeShapes Go.WideShapes Go.ChangeAt Go.RowKit

theorem Sees.drop {w : World} {b off cap : Nat} {bs : List UInt8} (h : Sees w (some ⟨b, off, none⟩) cap bs) (k : Nat) (hk : k ≤ bs.length) : Sees w (some ⟨b, off + k, none⟩) (cap - k) (bs.drop k) :=
  ⟨by have := h.fits; simp; omega, by have := h.room; omega, by simp, fun hne => by
    obtain ⟨b', off', ha, hc⟩ := h.at' (by rintro rfl; simp at hne)
    cases ha
    refine ⟨b, off + k, rfl, fun i x hx => ?_⟩
    rw [List.getElem?_drop] at hx
    rw [Nat.add_assoc]
    exact hc _ x hx⟩

/-- 'b[k:]', as the program makes it. -/
theorem Sees.cut {w : World} {b off cap : Nat} {bs : List UInt8} (h : Sees w (some ⟨b, off, none⟩) cap bs) (k : Nat) (hk : k ≤ bs.length) :
    Sees w (if cap = k then some ⟨b, off, none⟩ else some ⟨b, off + k, none⟩) (cap - k) (bs.drop k) := by
  by_cases hc : cap = k
  · have := h.fits
    have hn : bs.drop k = [] := List.drop_eq_nil_of_le (by omega)
    rw [if_pos hc, hn]
    exact ⟨by simp, by have := h.room; omega, by simp, fun hne => absurd rfl hne⟩
  · rw [if_neg hc]; exact h.drop k hk

theorem Mi.cellAt {w wr : World} {R : S8} (h : Mi w wr R.list) : wr.cell? ⟨w.heap.size, 0, none⟩ = some (.int .u32 (R.a : Int)) ∧ wr.cell? ⟨w.heap.size, 1, none⟩ = some (.int .u32 (R.b : Int)) ∧
    wr.cell? ⟨w.heap.size, 2, none⟩ = some (.int .u32 (R.c : Int)) ∧ wr.cell? ⟨w.heap.size, 3, none⟩ = some (.int .u32 (R.d : Int)) ∧ wr.cell? ⟨w.heap.size, 4, none⟩ = some (.int .u32 (R.e : Int)) ∧
    wr.cell? ⟨w.heap.size, 5, none⟩ = some (.int .u32 (R.f : Int)) ∧ wr.cell? ⟨w.heap.size, 6, none⟩ = some (.int .u32 (R.g : Int)) ∧ wr.cell? ⟨w.heap.size, 7, none⟩ = some (.int .u32 (R.h : Int)) :=
  ⟨cell_words h.row rfl, cell_words h.row rfl, cell_words h.row rfl, cell_words h.row rfl, cell_words h.row rfl, cell_words h.row rfl, cell_words h.row rfl, cell_words h.row rfl⟩

theorem Mi.setAll {w wr : World} {R : S8} (h : Mi w wr R.list) (T : S8) : Mi w (((((((((wr.setCell ⟨w.heap.size, 0, none⟩ (.int .u32 (T.a : Int))).setCell ⟨w.heap.size, 1, none⟩ (.int .u32 (T.b : Int))).setCell ⟨w.heap.size, 2, none⟩ (.int .u32 (T.c : Int))).setCell ⟨w.heap.size, 3, none⟩ (.int .u32 (T.d : Int))).setCell ⟨w.heap.size, 4, none⟩ (.int .u32 (T.e : Int))).setCell ⟨w.heap.size, 5, none⟩ (.int .u32 (T.f : Int))).setCell ⟨w.heap.size, 6, none⟩ (.int .u32 (T.g : Int)))).setCell ⟨w.heap.size, 7, none⟩ (.int .u32 (T.h : Int))) T.list :=
  (((((((h.store 0 T.a).store 1 T.b).store 2 T.c).store 3 T.d).store 4 T.e).store 5 T.f).store 6 T.g).store 7 T.h

set_option maxHeartbeats 1600000 in
set_option maxRecDepth 20000 in
theorem take_any (w : World) (s : S8) (hs : s.small) (a : Option Addr) (cap : Nat) (bs : List UInt8) (ha : Sees w a cap bs) (hT : KTab w) :
    Calls Tryd.prog 56 #[.agg s.cells, .slice a bs.length cap] w fun e w' => ∃ d cd l, Hid (l = bs.drop (64 * (bs.length / 64))) ∧ e = .returned (.tuple #[.agg (runB s bs (bs.length / 64)).cells, .slice d l.length cd]) ∧ Sees w' d cd l ∧ Below w.heap.size w w' := by
  have HS : Hid s.small := hs
  have HT : Hid (KTab w) := hT
  have hroom := ha.room
  unfold maxLen at hroom
  have hfits := ha.fits
  clear hs hT
  have h0 : Mi w _ s.list := mi_start w s
  show Calls Tryd.prog 56 #[.agg #[.int .u32 s.a, .int .u32 s.b, .int .u32 s.c, .int .u32 s.d, .int .u32 s.e, .int .u32 s.f, .int .u32 s.g, .int .u32 s.h], .slice a bs.length cap] w _
  go_enter Tryd.func56, Tryd.ntmps56
  go_wp2
  go_loopw [1] (fun v wr => ∃ (k : Nat) (d : Option Addr) (c : Nat) (l : List UInt8), 64 * k ≤ bs.length ∧ Hid (l = bs.drop (64 * k)) ∧ v = .slice d l.length c ∧ Sees w d c l ∧ Mi w wr (runB s bs k).list)
    (fun v _ => match v with | .slice _ n _ => n | _ => 0)
  case atStart => exact ⟨0, a, cap, bs, by omega, rfl, rfl, ha, h0⟩
  case round =>
    obtain ⟨k, d, c, l, hk, hl, rfl, hse, hM⟩ := hrel
    clear h0
    have hll : Hid (l.length = bs.length - 64 * k) := by rw [hl.out]; exact List.length_drop
    by_cases hlt : 64 ≤ l.length
    · obtain ⟨b, off, rfl, _⟩ := hse.at' (by rintro rfl; simp at hlt)
      have hse64 := hse.take 64
      have h64 : Hid ((l.take 64).length = 64) := by rw [List.length_take]; exact Nat.min_eq_left hlt
      obtain ⟨R, hR⟩ : ∃ R, R = runB s bs k := ⟨_, rfl⟩
      have hRs : Hid R.small := by rw [hR]; exact runB_small HS.out bs k
      rw [← hR] at hM
      obtain ⟨T, hTT⟩ : ∃ T, T = mixS R (l.take 64) := ⟨_, rfl⟩
      have hnext : Hid (runB s bs (k + 1) = T) := by rw [hTT, hR, hl.out]; exact rfl
      have HTT : Hid (T = mixS R (l.take 64)) := hTT
      obtain ⟨c0, c1, c2, c3, c4, c5, c6, c7⟩ := hM.cellAt
      have hMD : Hid (∀ n, Mi w (wr.drewN n) R.list) := fun n => hM.drewN n
      have hfc := hse.fits
      have hrc := hse.room
      unfold maxLen at hrc
      have hdrop := hse.cut 64 hlt
      have hcall : Hid (∀ n, Calls Tryd.prog 55 #[.agg #[.int .u32 R.a, .int .u32 R.b, .int .u32 R.c, .int .u32 R.d, .int .u32 R.e, .int .u32 R.f, .int .u32 R.g, .int .u32 R.h], .slice (some ⟨b, off, none⟩) 64 c] (wr.drewN n)
          fun e w' => e = .returned (.agg #[.int .u32 T.a, .int .u32 T.b, .int .u32 T.c, .int .u32 T.d, .int .u32 T.e, .int .u32 T.f, .int .u32 T.g, .int .u32 T.h]) ∧ Mi w w' R.list) := fun n => by
        refine (mix_any (wr.drewN n) R hRs.out (some ⟨b, off, none⟩) c (l.take 64) (hse64.below (hM.drewN n).bel) h64.out (HT.out.below (hM.drewN n).bel)).mono ?_
        rintro e w2 ⟨rfl, hb2⟩
        exact ⟨by rw [hTT]; rfl, (hM.drewN n).on hb2⟩
      clear hR hTT hM hse64 HTT
      go_wp2
      go_region_with (go_at_call 55; refine (hcall.out 1).mono ?_; rintro e w2 ⟨rfl, hM2⟩; obtain ⟨d0, d1, d2, d3, d4, d5, d6, d7⟩ := hM2.cellAt; have f0 := fun k => frozen_of_row w2 w.heap.size k _ _ hM2.row)
      all_goals
        have hM3 := hM2.setAll T
        have HM3 : Hid (Mi w _ T.list) := hM3
        clear hM2 hM3 d0 d1 d2 d3 d4 d5 d6 d7 f0 c0 c1 c2 c3 c4 c5 c6 c7 hMD hcall
        go_wp2
        go_roundw
        case rel =>
          have hd64 : l.drop 64 = bs.drop (64 * (k + 1)) := by rw [hl.out, List.drop_drop, Nat.mul_add]
          refine ⟨k + 1, _, _, l.drop 64, by have := hll.out; omega, hd64, ?_, hdrop, by rw [hnext.out]; exact HM3.out⟩
          rw [List.length_drop]
        case measure => simp; omega
    · have hq : bs.length / 64 = k := by have := hll.out; omega
      have hrow : wr.heap[w.heap.size]? = some (.cells (runB s bs k).cells 74 (0, 0)) := by rw [hM.row]; rfl
      have hld := loadAt_row (P := Tryd.prog) wr _ 74 74 (runB s bs k).cells (0, 0) _ hrow Tryd.underlying74 rfl (by kernel_rfl)
      have hst := storeAt_row (P := Tryd.prog) wr (w.heap.size + 1) 74 74 _ (runB s bs k).cells hM.res (by kernel_rfl) (by rfl) (by rw [S8.cells_eq]; exact words_one _)
      have hres : (wr.setRow (w.heap.size + 1) (runB s bs k).cells).heap[w.heap.size + 1]? = some (.cells (runB s bs k).cells 74 (0, 0)) := setRow_heap wr _ _ _ 74 _ hM.res
      have hbel := below_setRow hM.bel (g := w.heap.size + 1) (by omega) (runB s bs k).cells
      obtain ⟨D, hD⟩ : ∃ D, D = (runB s bs k).cells := ⟨_, rfl⟩
      rw [← hD] at hld hst hres hbel
      have HLD : Hid ((Instr.loadAt 74 (.pointer (some ⟨w.heap.size, 0, none⟩))).run Tryd.prog wr = .ok (.agg D) wr) := hld
      have HST : Hid ((Instr.storeAt 74 (.pointer (some ⟨w.heap.size + 1, 0, none⟩)) (.agg D)).run Tryd.prog wr = .ok () (wr.setRow (w.heap.size + 1) D)) := hst
      have HD : Hid (D = (runB s bs k).cells) := hD
      have HQ : Hid (bs.length / 64 = k) := hq
      clear hM hrow hld hst hD hq
      go_wp2_with (first | refine wpList_load_run rfl 74 _ rfl _ _ rfl HLD.out ?_ | refine wpList_store_run rfl 74 _ _ rfl _ _ rfl rfl HST.out ?_)
      (try simp only [Exit.inBlock, Exit.then])
      refine bodyPost_ret (results_cell_tmp rfl _ _ (w.heap.size + 1) 74 D (0, 0) _ rfl hres Tryd.underlying74 rfl (by rw [HD.out]; kernel_rfl)) rfl ?_
      exact ⟨d, c, l, by rw [HQ.out]; exact hl, by rw [HD.out, HQ.out]; rfl, hse.below hbel, hbel⟩
end Go.Proofs.YtkpaldkmikjpiaaDoor
