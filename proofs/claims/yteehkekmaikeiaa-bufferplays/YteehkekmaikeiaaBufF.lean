/-
  The contract of fullest.
-/
import Derived.Test.YteehkekmaikeiaaBufH
namespace Go.Proofs.Yteehkekmaikeiaa
open Go.ChangeShapes Go.WideShapes Go.ChangeAt Go.RowKit

def KBox (w : World) (B : Nat) (k : Key) : Prop := w.heap[B]? = some (.cells #[.int .i64 k.1, .int .i64 k.2] 51 (0, 0))
theorem KBox.lt {w : World} {B : Nat} {k : Key} (h : KBox w B k) : B < w.heap.size := (Array.getElem?_eq_some_iff.1 h).1
theorem KBox.c0 {w : World} {B : Nat} {k : Key} (h : KBox w B k) : w.cell? ⟨B, 0, none⟩ = some (.int .i64 k.1) := cell_of_row _ _ 0 _ _ _ h
theorem KBox.c1 {w : World} {B : Nat} {k : Key} (h : KBox w B k) : w.cell? ⟨B, 1, none⟩ = some (.int .i64 k.2) := cell_of_row _ _ 1 _ _ _ h
theorem KBox.fz {w : World} {B : Nat} {k : Key} (h : KBox w B k) (i : Nat) : w.frozen? ⟨B, i, none⟩ = false := frozen_of_row _ _ i _ _ h
theorem KBox.put {w : World} {B : Nat} {k : Key} (h : KBox w B k) (e i : Int) : KBox ((w.setCell ⟨B, 0, none⟩ (.int .i64 e)).setCell ⟨B, 1, none⟩ (.int .i64 i)) B (e, i) := by
  unfold KBox
  rw [heap_setCell_same _ _ _ _ _ _ (heap_setCell_same _ _ _ _ _ _ h)]; rfl
theorem KBox.below {w w' : World} {B : Nat} {k : Key} (h : KBox w B k) (hb : Below w.heap.size w w') : KBox w' B k := (hb.block B h.lt).trans h
theorem KBox.other {w : World} {B C : Nat} {k : Key} (h : KBox w B k) (hC : B ≠ C) (u v : Value) : KBox ((w.setCell ⟨C, 0, none⟩ u).setCell ⟨C, 1, none⟩ v) B k := by
  unfold KBox
  rw [heap_setCell_other _ _ _ _ hC, heap_setCell_other _ _ _ _ hC]; exact h
theorem KBox.plain {w : World} {B : Nat} {k : Key} (h : KBox w B k) : Plain w B := by
  refine NoByte.plain (fun u hu kk y => ?_) h
  simp only [List.mem_cons, List.not_mem_nil, or_false] at hu
  rcases hu with rfl | rfl <;> intro e <;> cases e <;> rfl
theorem below_two {W w : World} {B g : Nat} (h : Below B W w) (hg : B ≤ g) (x y : Value) : Below B W ((w.setCell ⟨g, 0, none⟩ x).setCell ⟨g, 1, none⟩ y) := (h.setCell (p := ⟨g, 0, none⟩) hg x).setCell (p := ⟨g, 1, none⟩) hg y
theorem res_key {fn : Func} {p : Tmp} (h : fn.results = #[.cell p 51]) {tmps : Array Value} {w : World} {g : Nat} {k : Key} (hp : tmps.getD p undef = .pointer (some ⟨g, 0, none⟩)) (hg : KBox w g k) :
    (results fn tmps).run Try.prog w = .ok (keyV k) w := results_cell_row h _ _ g 51 _ (0, 0) _ hp hg Try.underlying51 rfl (by kernel_rfl)

/-- What fullest goes through. -/
structure Seek (w : World) (s : Bs) (f0 : Key) (B : Nat) (j : Nat) (f : Key) (W : World) : Prop where
  eq : f = fullF s.L f0 (s.L.take j)
  wf : wfK f
  box : KBox W (B + 1) f
  res : KBox W B (0, 0)
  bel : Below B w W

set_option maxHeartbeats 1600000 in
set_option maxRecDepth 20000 in
theorem fullest_ok (w : World) (g m : Nat) (v : Value) (s : Bs) (ss : List Sl) (n : Nat) (h : Pb w g m v s ss n) (hne : s.L ≠ []) :
    Calls Try.prog 23 #[.pointer (some ⟨g, 0, none⟩)] w fun e w' => e = .returned (keyV (full s.L)) ∧ wfK (full s.L) ∧ Below w.heap.size w w' := by
  obtain ⟨a, cap, rfl, hcap, hmax, hnil, haq, _⟩ := h.row.shape
  have hlen : ss.length = s.L.length := by have := congrArg List.length h.its; simpa using this
  have hle : s.L.length ≤ 64 := by have := h.ok.len; have := h.ok.hi; omega
  obtain ⟨x, hx⟩ : ∃ x, ss[0]? = some x := ⟨ss[0]'(by rw [hlen]; exact List.length_pos_iff.2 hne), by rw [List.getElem?_eq_getElem]⟩
  have hx' : s.L[0]? = some x.1 := by rw [← h.its, List.getElem?_map, hx]; rfl
  have hfull : full s.L = fullF s.L x.1.k s.L := by
    cases hL : s.L with
    | nil => exact absurd hL hne
    | cons y r => rw [hL] at hx'; simp at hx'; rw [← hx']; rfl
  obtain ⟨-, q, rfl, hcell⟩ := h.row.get hx
  have x0 := hcell 0 _ rfl
  have x1 := hcell 1 _ rfl
  rw [show E57.n = 3 from rfl, Nat.zero_mul] at x0 x1
  have HP : Hid (∀ W, Below w.heap.size w W → Pb W g m (.slice (some ⟨q, 0, none⟩) ss.length cap) s ss n) := fun W hb => h.below hb
  have hwf : ∀ y ∈ ss, wfK y.1.k := fun y hy => wfK_of (h.ok.arg y.1 (by rw [← h.its]; exact List.mem_map.2 ⟨y, hy, rfl⟩))
  have HWF : Hid (∀ y ∈ ss, wfK y.1.k) := hwf
  have hcm : cap ≤ 9223372036854775807 := by unfold maxLen at hmax; omega
  obtain ⟨W, hW⟩ : ∃ W, W = (w.alloc (.cells #[.int .i64 0, .int .i64 0] 51)).alloc (.cells #[.int .i64 x.1.e, .int .i64 x.1.i] 51) := ⟨_, rfl⟩
  have hb : Below w.heap.size w W := by rw [hW]; exact ((Below.refl _ _).alloc (Nat.le_refl _) _).alloc (by simp) _
  have k2 : KBox W w.heap.size (0, 0) := by rw [hW]; exact (Below.heap_alloc _ _ _ (by simp)).trans (heap_alloc_new _ _)
  have k3 : KBox W (w.heap.size + 1) x.1.k := by
    have := heap_alloc_new (w.alloc (.cells #[.int .i64 0, .int .i64 0] 51)) (.cells #[.int .i64 x.1.e, .int .i64 x.1.i] 51)
    rw [World.size_alloc] at this
    rw [hW]; exact this
  have HS : Hid (Seek w s x.1.k w.heap.size 0 x.1.k W) := ⟨rfl, hwf x (List.mem_of_getElem? hx), k3, k2, hb⟩
  have HF : Hid (full s.L = fullF s.L x.1.k s.L) := hfull
  have c2 := (h.below hb).at'.c2
  have c2w := h.at'.c2
  have c2a : (w.alloc (.cells #[.int .i64 0, .int .i64 0] 51)).cell? ⟨g, 2, none⟩ = some (.slice (some ⟨q, 0, none⟩) ss.length cap) := (h.below ((Below.refl _ _).alloc (Nat.le_refl _) _)).at'.c2
  have x0a : (w.alloc (.cells #[.int .i64 0, .int .i64 0] 51)).cell? ⟨q, 0, none⟩ = some (.int .i64 x.1.e) := Lib.cell?_alloc_some _ x0
  have x1a : (w.alloc (.cells #[.int .i64 0, .int .i64 0] 51)).cell? ⟨q, 1, none⟩ = some (.int .i64 x.1.i) := Lib.cell?_alloc_some _ x1
  have HW : Hid (W = (w.alloc (.cells #[.int .i64 0, .int .i64 0] 51)).alloc (.cells #[.int .i64 x.1.e, .int .i64 x.1.i] 51)) := hW
  obtain ⟨N, hN⟩ : ∃ N, N = ss.length := ⟨_, rfl⟩
  have g1 : (0 : Int) < (N : Int) := by have := (List.getElem?_eq_some_iff.1 hx).1; omega
  have HN : Hid (N = ss.length ∧ N = s.L.length ∧ ss.map Prod.fst = s.L) := ⟨hN, by rw [hN, hlen], h.its⟩
  have hN64 : N ≤ 64 := by omega
  rw [← hN] at hcap HP c2 c2w c2a
  rw [hW] at c2
  clear h hnil haq hmax hN hlen hle hx' hfull hwf hb k2 k3 hW x0 x1 hcell hx c2w
  obtain ⟨f0, hf0⟩ : ∃ f0, f0 = x.1.k := ⟨_, rfl⟩
  rw [← hf0] at HS HF
  clear hf0
  generalize x.1.e = xe at *
  generalize x.1.i = xi at *
  go_enter Try.func23, Try.ntmps23
  go_wp2_with fail
  rw [← HW.out]
  clear HW c2 c2a x0a x1a
  obtain ⟨B, hB⟩ : ∃ B, B = w.heap.size := ⟨_, rfl⟩
  rw [← hB] at HS HP ⊢
  have HB : Hid (B = w.heap.size) := hB
  clear hB
  go_loopw [18] (fun s18 wr => ∃ (j : Nat) (f : Key), s18 = .int .i64 (j : Int) ∧ j ≤ N ∧ Seek w s f0 B j f wr) (fun s18 _ => N - (intOf s18).toNat)
  case atStart => exact ⟨0, f0, rfl, Nat.zero_le _, HS.out⟩
  case round =>
    obtain ⟨j, f, rfl, hj, hS⟩ := hrel
    clear HS
    by_cases hlt : j < N
    · obtain ⟨y, hy⟩ : ∃ y, ss[j]? = some y := ⟨ss[j]'(by have := HN.out.1; omega), by rw [List.getElem?_eq_getElem]⟩
      have hy' : s.L[j]? = some y.1 := by rw [← HN.out.2.2, List.getElem?_map, hy]; rfl
      have hP := HP.out wr hS.bel
      obtain ⟨-, q', e, hcell⟩ := hP.row.get hy
      cases e
      have x0 := hcell 0 _ rfl
      have x1 := hcell 1 _ rfl
      have x2 := hcell 2 _ rfl
      rw [show E57.n = 3 from rfl] at x0 x1 x2
      rw [Nat.add_zero] at x0
      obtain ⟨V, hV⟩ : ∃ V, V = wr.alloc (.cells #[.int .i64 y.1.e, .int .i64 y.1.i, .slice y.2.1 y.1.b.length y.2.2] 57) := ⟨_, rfl⟩
      have hbV : Below wr.heap.size wr V := by rw [hV]; exact (Below.refl _ _).alloc (Nat.le_refl _) _
      have r1 : V.heap[wr.heap.size]? = some (.cells #[.int .i64 y.1.e, .int .i64 y.1.i, .slice y.2.1 y.1.b.length y.2.2] 57 (0, 0)) := by rw [hV]; exact heap_alloc_new _ _
      have hPV := (hP.below hbV)
      have c3 := hPV.at'.c3
      have kb := hS.box.below hbV
      have kr := hS.res.below hbV
      have b0 := cell_of_row _ _ 0 _ _ _ r1
      have b1 := cell_of_row _ _ 1 _ _ _ r1
      have hwy := HWF.out y (List.mem_of_getElem? hy)
      have l1 := hPV.drew.map.look hwy
      have l2 := hPV.drew.map.look hS.wf
      have f0' := kb.c0
      have f1' := kb.c1
      have z0 := kb.fz 0
      have z1 := kb.fz 1
      have hbw : Below B w V.drew := (hS.bel.trans (hbV.mono (by rw [HB.out]; exact hS.bel.size))).drew
      obtain ⟨A, hA⟩ : ∃ A, A = wr.heap.size := ⟨_, rfl⟩
      have hsnoc : s.L.take (j + 1) = s.L.take j ++ [y.1] := take_snoc _ _ _ hy'
      have hstep : fullF s.L f0 (s.L.take (j + 1)) = if cnt s.L f < cnt s.L y.1.k then y.1.k else f := by rw [hsnoc, fullF_snoc, ← hS.eq]
      have HN2 : Hid (¬ cnt s.L f < cnt s.L y.1.k → Seek w s f0 B (j + 1) f V.drew) := fun hc => ⟨by rw [hstep, if_neg hc], hS.wf, kb, kr, hbw⟩
      have HN1 : Hid (cnt s.L f < cnt s.L y.1.k → Seek w s f0 B (j + 1) y.1.k ((V.drew.setCell ⟨B + 1, 0, none⟩ (.int .i64 y.1.e)).setCell ⟨B + 1, 1, none⟩ (.int .i64 y.1.i))) := fun hc => by
        have k1 : KBox ((V.drew.setCell ⟨B + 1, 0, none⟩ (.int .i64 y.1.e)).setCell ⟨B + 1, 1, none⟩ (.int .i64 y.1.i)) (B + 1) y.1.k := KBox.put (w := V.drew) kb _ _
        have k2 : KBox ((V.drew.setCell ⟨B + 1, 0, none⟩ (.int .i64 y.1.e)).setCell ⟨B + 1, 1, none⟩ (.int .i64 y.1.i)) B (0, 0) := KBox.other (w := V.drew) kr (by omega) _ _
        exact ⟨by rw [hstep, if_pos hc], hwy, k1, k2, below_two hbw (by omega) _ _⟩
      have HV : Hid (V = wr.alloc (.cells #[.int .i64 y.1.e, .int .i64 y.1.i, .slice y.2.1 y.1.b.length y.2.2] 57)) := hV
      have HA : Hid (A = wr.heap.size) := hA
      have HJ : Hid (j < N) := hlt
      have g2 : (j : Int) < (N : Int) := by omega
      have g3 : (0 : Int) ≤ (j : Int) := Int.natCast_nonneg _
      have e1 : IntKind.i64.wrap ((j : Int) + 1) = ((j + 1 : Nat) : Int) := by rw [IntKind.wrap_i64]; omega
      rw [← hA] at b0 b1
      clear hS hP hPV hbV r1 kb kr hV hy hy' hcell hbw hstep hsnoc hwy hA hlt hj
      simp only [keyV, It.k] at l1 l2
      obtain ⟨c, hc⟩ : ∃ c, c = cnt s.L (y.1.e, y.1.i) := ⟨_, rfl⟩
      obtain ⟨d, hd⟩ : ∃ d, d = cnt s.L f := ⟨_, rfl⟩
      have hck : cnt s.L y.1.k = c := hc.symm
      rw [← hc] at l1
      rw [← hd] at l2 HN1 HN2
      rw [hck] at HN1 HN2
      clear hc hd hck
      generalize y.2.1 = ya at *
      generalize y.2.2 = yc at *
      generalize y.1.b.length = yl at *
      obtain ⟨ye, hye⟩ : ∃ ye, ye = y.1.e := ⟨_, rfl⟩
      obtain ⟨yi, hyi⟩ : ∃ yi, yi = y.1.i := ⟨_, rfl⟩
      rw [← hye] at x0 b0 l1 HN1 HV
      rw [← hyi] at x1 b1 l1 HN1 HV
      clear hye hyi
      go_wp2_with fail
      rw [← HV.out, ← HA.out]
      clear HV x0 x1 x2
      by_cases hcd : d < c
      · have g4 : (d : Int) < (c : Int) := by omega
        go_region
        go_wp2
        go_roundw
        case rel => exact ⟨j + 1, y.1.k, by first | rfl | (congr 1; omega), by have := HJ.out; omega, HN1.out hcd⟩
        case measure => have := HJ.out; simp [intOf]; omega
      · have g4 : ¬ (d : Int) < (c : Int) := by omega
        go_region
        go_wp2
        go_roundw
        case rel => exact ⟨j + 1, f, by first | rfl | (congr 1; omega), by have := HJ.out; omega, HN2.out hcd⟩
        case measure => have := HJ.out; simp [intOf]; omega
    · have hjN : j = N := by omega
      have hf : f = full s.L := by rw [HF.out, hS.eq, List.take_of_length_le (by have := HN.out.2.1; omega)]
      have HR : Hid (KBox ((wr.setCell ⟨B, 0, none⟩ (.int .i64 f.1)).setCell ⟨B, 1, none⟩ (.int .i64 f.2)) B (full s.L)) := by rw [← hf]; exact hS.res.put _ _
      have HE : Hid (wfK (full s.L) ∧ Below w.heap.size w ((wr.setCell ⟨B, 0, none⟩ (.int .i64 f.1)).setCell ⟨B, 1, none⟩ (.int .i64 f.2))) := ⟨by rw [← hf]; exact hS.wf, by rw [← HB.out]; exact below_two hS.bel (Nat.le_refl _) _ _⟩
      have f0' := hS.box.c0
      have f1' := hS.box.c1
      have r0 := hS.res.c0
      have r1 := hS.res.c1
      have z0 := hS.res.fz 0
      have z1 := hS.res.fz 1
      clear hS hf hj
      generalize f.1 = fa at *
      generalize f.2 = fb at *
      go_wp2
      refine bodyPost_ret (res_key rfl rfl (show _ from HR.out)) rfl ?_
      exact ⟨rfl, HE.out⟩
end Go.Proofs.Yteehkekmaikeiaa
