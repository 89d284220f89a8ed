/-
  The document's Put.
-/
import Derived.Test.YteehkekmaikeiaaRefE
import Derived.Deep.DeepCutAuto
namespace Go.Proofs.Yteehkekmaikeiaa
open Go.ChangeShapes Go.WideShapes Go.ChangeAt Go.RowKit

set_option maxRecDepth 20000 in
theorem rput_refused (w : World) (r : Nat) (k1 k2 : Int) (xa : Option Addr) (xc : Nat) (x : List UInt8) (ha : argB k1 k2 x = false) :
    Calls Try.prog 11 #[.pointer (some ⟨r, 0, none⟩), .int .i64 k1, .int .i64 k2, .slice xa x.length xc] w fun e w' => e = .returned (.int .i64 1) ∧ w' = w := by
  have hno : ¬ (0 ≤ k1 ∧ k1 ≤ 65535 ∧ 1 ≤ k2 ∧ k2 ≤ 256 ∧ x.length ≤ 96) := fun h => by rw [argB_iff.2 h] at ha; cases ha
  clear ha
  go_enter Try.func11, Try.ntmps11
  by_cases h1 : k1 < 0
  · clear hno
    go_wp2
    go_ret
    exact ⟨rfl, rfl⟩
  · by_cases h2 : 65535 < k1
    · clear hno
      go_wp2
      go_ret
      exact ⟨rfl, rfl⟩
    · by_cases h3 : k2 < 1
      · clear hno
        go_wp2
        go_ret
        exact ⟨rfl, rfl⟩
      · by_cases h4 : 256 < k2
        · clear hno
          go_wp2
          go_ret
          exact ⟨rfl, rfl⟩
        · have h5 : 96 < (x.length : Int) := by omega
          clear hno
          go_wp2
          go_ret
          exact ⟨rfl, rfl⟩

/-- A box of an item of cell k. -/
def IBox (W : World) (B : Nat) (k : Key) : Prop := ∃ a n c, W.heap[B]? = some (.cells #[.int .i64 k.1, .int .i64 k.2, .slice a n c] 59 (0, 0))
theorem IBox.put {W : World} {B : Nat} {k : Key} (h : IBox W B k) (e i : Int) (a : Option Addr) (n c : Nat) : IBox (((W.setCell ⟨B, 0, none⟩ (.int .i64 e)).setCell ⟨B, 1, none⟩ (.int .i64 i)).setCell ⟨B, 2, none⟩ (.slice a n c)) B (e, i) := by
  obtain ⟨a0, n0, c0, h0⟩ := h
  refine ⟨a, n, c, ?_⟩
  rw [heap_setCell_same _ _ _ _ _ _ (heap_setCell_same _ _ _ _ _ _ (heap_setCell_same _ _ _ _ _ _ h0))]; rfl
theorem below_three {W w : World} {B g : Nat} (h : Below B W w) (hg : B ≤ g) (x y z : Value) : Below B W (((w.setCell ⟨g, 0, none⟩ x).setCell ⟨g, 1, none⟩ y).setCell ⟨g, 2, none⟩ z) := ((h.setCell (p := ⟨g, 0, none⟩) hg x).setCell (p := ⟨g, 1, none⟩) hg y).setCell (p := ⟨g, 2, none⟩) hg z

set_option maxHeartbeats 6400000 in
set_option maxRecDepth 20000 in
theorem rput_goes (w : World) (r : Nat) (v : Value) (s : Bs) (ss : List Sl) (h : Rb w r v s ss) (hlost : s.lost ≤ 1000000) (k1 k2 : Int) (xa : Option Addr) (xc : Nat) (x : List UInt8) (hx : Sees w xa xc x) (ha : argB k1 k2 x = true) :
    Calls Try.prog 11 #[.pointer (some ⟨r, 0, none⟩), .int .i64 k1, .int .i64 k2, .slice xa x.length xc] w fun e w' => e = .returned (.int .i64 (putE s k1 k2 x)) ∧ RLeft w r v (putV s k1 k2 x) w' := by
  obtain ⟨va, vcap, rfl, hcap, hmax, -⟩ := h.row.shape
  obtain ⟨hlen, h64⟩ := h.len
  obtain ⟨a1, a2, a3, a4, a5⟩ := argB_iff.1 ha
  have b1 : ¬ (k1 < 0) := by omega
  have b2 : ¬ (65535 < k1) := by omega
  have b3 : ¬ (k2 < 1) := by omega
  have b4 : ¬ (256 < k2) := by omega
  have b5 : ¬ (96 < (x.length : Int)) := by omega
  have HP : Hid (∀ W, Below w.heap.size w W → Rb W r (.slice va ss.length vcap) s ss) := fun W hb => h.below hb
  have HH : Hid (Rb w r (.slice va ss.length vcap) s ss) := h
  have HX : Hid (Sees w xa xc x ∧ x.length ≤ 96 ∧ argB k1 k2 x = true) := ⟨hx, a5, ha⟩
  have HOK : Hid ((putV s k1 k2 x).ok) := putV_ok h.ok k1 k2 x
  obtain ⟨N, hN⟩ : ∃ N, N = ss.length := ⟨_, rfl⟩
  obtain ⟨mo, hmo⟩ : ∃ mo, mo = s.most := ⟨_, rfl⟩
  have HN : Hid (N = ss.length ∧ N = s.L.length ∧ N ≤ 64 ∧ mo = s.most ∧ s.L.length ≤ s.most ∧ 1 ≤ s.most) := ⟨hN, by omega, by omega, hmo, h.ok.len, h.ok.lo⟩
  have hN64 : N ≤ 64 := by omega
  have hcm : vcap ≤ 9223372036854775807 := by unfold maxLen at hmax; omega
  obtain ⟨xl, hxl⟩ : ∃ xl, xl = x.length := ⟨_, rfl⟩
  have HXL : Hid (xl = x.length) := hxl
  have c1 := h.at'.c1
  rw [← hN] at HP hcap c1
  rw [← hxl] at b5 ⊢
  clear h hx ha a1 a2 a3 a4 a5 hlen h64 hmax hN hmo hxl
  go_enter Try.func11, Try.ntmps11
  go_wp2
  clear c1
  go_loopw [9] (fun s9 wr => ∃ t : Nat, s9 = .int .i64 (t : Int) ∧ t ≤ N ∧ (∀ j y, j < t → ss[j]? = some y → (y.1.b == x) = false) ∧ Below w.heap.size w wr) (fun s9 _ => N - (intOf s9).toNat)
  case atStart => exact ⟨0, rfl, Nat.zero_le _, (fun j y hj => by omega), Below.refl _ _⟩
  case round =>
    obtain ⟨t, rfl, ht, hno, hbel⟩ := hrel
    have HNO : Hid (∀ j y, j < t → ss[j]? = some y → (y.1.b == x) = false) := hno
    clear hno
    have hP := HP.out wr hbel
    have c1 := hP.at'.c1
    by_cases hlt : t < N
    · obtain ⟨y, hy⟩ : ∃ y, ss[t]? = some y := ⟨ss[t]'(by have := HN.out; omega), by rw [List.getElem?_eq_getElem]⟩
      obtain ⟨-, q, rfl, hcell⟩ := hP.row.get hy
      have x2 := hcell 2 _ rfl
      rw [show E59.n = 3 from rfl] at x2
      have hsy := hP.seen y (List.mem_of_getElem? hy)
      have hsx := HX.out.1.below hbel
      obtain ⟨yl, hyl⟩ : ∃ yl, yl = y.1.b.length := ⟨_, rfl⟩
      obtain ⟨ya, hya⟩ : ∃ ya, ya = y.2.1 := ⟨_, rfl⟩
      obtain ⟨yc, hyc⟩ : ∃ yc, yc = y.2.2 := ⟨_, rfl⟩
      obtain ⟨yb, hyb⟩ : ∃ yb, yb = y.1.b := ⟨_, rfl⟩
      have u1 : (Go.convert 22 9 (.slice ya yl yc)).run Try.prog wr.drew = .ok (.string ⟨yb.toArray⟩) wr.drew := by rw [hyl, hya, hyc, hyb]; exact (hsy.drewN 1).convert (P := Try.prog) 22 5 9 Try.underlying22 Try.underlying5 Try.underlying9
      have u2 : (Go.convert 22 9 (.slice xa xl xc)).run Try.prog wr.drew = .ok (.string ⟨x.toArray⟩) wr.drew := by rw [HXL.out]; exact (hsx.drewN 1).convert (P := Try.prog) 22 5 9 Try.underlying22 Try.underlying5 Try.underlying9
      have x2' : wr.cell? ⟨q, t * 3 + 2, none⟩ = some (.slice ya yl yc) := by rw [hyl, hya, hyc]; exact x2
      have g1 : (t : Int) < (N : Int) := by omega
      have g2 : (0 : Int) ≤ (t : Int) := Int.natCast_nonneg _
      have e1 : IntKind.i64.wrap ((t : Int) + 1) = ((t + 1 : Nat) : Int) := by rw [IntKind.wrap_i64]; omega
      have HB : Hid (Below w.heap.size w wr.drew) := hbel.drew
      have HJ : Hid (t < N ∧ ss[t]? = some y ∧ yb = y.1.b) := ⟨hlt, hy, hyb⟩
      clear hP hy hcell x2 hsy hsx hyl hya hyc hyb hbel ht hlt
      by_cases hq : yb = x
      · have HE : Hid ((4 : Int) = putE s k1 k2 x ∧ RLeft w r (.slice (some ⟨q, 0, none⟩) ss.length vcap) (putV s k1 k2 x) wr.drew) := by
          have hh : heldB s.L x = true := by
            rw [heldB, ← HH.out.its, List.any_map]
            exact List.any_eq_true.2 ⟨y, List.mem_of_getElem? HJ.out.2.1, by simp [← HJ.out.2.2, hq]⟩
          refine ⟨by simp [putE, HX.out.2.2, hh], ?_⟩
          rw [show putV s k1 k2 x = s by simp [putV, HX.out.2.2, hh]]
          exact RLeft.refl HH.out HB.out
        subst hq
        clear HNO HP HH HX HOK
        go_wp2_with fail
        go_region
        go_wp2
        go_ret
        exact ⟨by rw [← HE.out.1]; rfl, HE.out.2⟩
      · have hne : (yb == x) = false := by simpa using hq
        have HN2 : Hid (∀ j y, j < t + 1 → ss[j]? = some y → (y.1.b == x) = false) := fun j z hj hz => by
          by_cases e : j = t
          · subst e
            have h9 := HJ.out.2.1
            rw [hz] at h9
            cases h9
            rw [← HJ.out.2.2]; exact hne
          · exact HNO.out j z (by omega) hz
        clear hq HNO
        go_wp2_with fail
        go_region
        go_wp2
        go_roundw
        case rel => exact ⟨t + 1, by first | rfl | (congr 1; omega), by have := HJ.out.1; omega, HN2.out, HB.out⟩
        case measure => have := HJ.out.1; simp [intOf]; omega
    · have hh : heldB s.L x = false := by
        rw [heldB, ← HH.out.its, List.any_map, List.any_eq_false]
        intro y hy
        obtain ⟨j, hj⟩ := List.mem_iff_getElem?.1 hy
        have := HNO.out j y (by have := (List.getElem?_eq_some_iff.1 hj).1; have := HN.out; omega) hj
        simp [Function.comp, this]
      have g0 : ¬ (t : Int) < (N : Int) := by omega
      have HPE : Hid (putE s k1 k2 x = if s.L.length = s.most ∧ cnt s.L (k1, k2) = cnt s.L (full s.L) then 9 else 0) := by show putE s k1 k2 x = _; simp [putE, HX.out.2.2, hh]
      have HPV : Hid (putV s k1 k2 x = if s.L.length = s.most then (if cnt s.L (k1, k2) = cnt s.L (full s.L) then { s with lost := s.lost + 1 } else { s with lost := s.lost + 1, L := (split (isK (full s.L)) 1 s.L).2 ++ [⟨k1, k2, x⟩] }) else { s with L := s.L ++ [⟨k1, k2, x⟩] }) := by show putV s k1 k2 x = _; simp [putV, HX.out.2.2, hh]
      obtain ⟨s1, hs1⟩ : ∃ s1 : Bs, s1 = if s.L.length = s.most then { s with lost := s.lost + 1, L := (split (isK (full s.L)) 1 s.L).2 } else s := ⟨_, rfl⟩
      have HS1 : Hid (s1 = if s.L.length = s.most then { s with lost := s.lost + 1, L := (split (isK (full s.L)) 1 s.L).2 } else s) := hs1
      have HB : Hid (Below w.heap.size w wr) := hbel
      have c0 := hP.at'.c0
      rw [← HN.out.2.2.2.1] at c0
      clear hs1 hh hP hbel ht hlt HNO
      go_wp2_with fail
      go_region
      go_upto_if 65 with fail
      go_cut [] (fun wx => RLeft w r (.slice va ss.length vcap) s1 wx ∧ ¬ (s.L.length = s.most ∧ cnt s.L (k1, k2) = cnt s.L (full s.L)))
      case first =>
        obtain ⟨D, hD⟩ : ∃ D, D = wr.drew := ⟨_, rfl⟩
        rw [← hD]
        have HBD : Hid (Below w.heap.size w D) := by rw [hD]; exact HB.out.drew
        clear hD c0 c1
        have hPD := HP.out D HBD.out
        have c1 := hPD.at'.c1
        obtain ⟨h1, h2, h3, h4, h5, h6⟩ := HN.out
        by_cases hfull : s.L.length = s.most
        · have g1 : (mo : Int) ≤ (N : Int) := by omega
          obtain ⟨B, hB⟩ : ∃ B, B = D.heap.size := ⟨_, rfl⟩
          obtain ⟨W, hW⟩ : ∃ W, W = D.alloc (.cells #[.int .i64 0, .int .i64 0, .slice none 0 0] 59) := ⟨_, rfl⟩
          have hbW : Below D.heap.size D W := by rw [hW]; exact (Below.refl _ _).alloc (Nat.le_refl _) _
          have HS2 : Hid (Below w.heap.size w W ∧ W.heap[B]? = some (.cells #[.int .i64 (fk s.L 0).1, .int .i64 (fk s.L 0).2, .slice none 0 0] 59 (0, 0)) ∧ w.heap.size ≤ B) := ⟨HBD.out.trans (hbW.mono HBD.out.size), by rw [hW, hB]; exact heap_alloc_new _ _, by rw [hB]; exact HBD.out.size⟩
          have HW : Hid (W = D.alloc (.cells #[.int .i64 0, .int .i64 0, .slice none 0 0] 59)) := hW
          have HBB : Hid (B = D.heap.size) := hB
          have HF : Hid (s.L.length = s.most) := hfull
          have d65 : Hid (decide (mo ≤ N) = true) := decide_eq_true (show mo ≤ N by omega)
          clear hPD h1 h2 h3 h4 h5 h6 hfull hB hW hbW c1
          go_wp2
          rw [← HW.out, ← HBB.out]
          clear HW HBB HBD g1
          simp only [d65.out]
          rename World => W1
          go_loopw [11, 12] (fun s11 s12 wq => ∃ t : Nat, s12 = .int .i64 (t : Int) ∧ t ≤ N ∧ s11 = .int .i64 (fm s.L t : Int) ∧ Below w.heap.size w wq ∧ IBox wq B (fk s.L t)) (fun _ s12 _ => N - (intOf s12).toNat)
          case atStart => exact ⟨0, rfl, Nat.zero_le _, rfl, HS2.out.1, none, 0, 0, HS2.out.2.1⟩
          case round =>
            rename World => wq
            obtain ⟨t, rfl, ht, rfl, hbel, hbx⟩ := hrel
            have hP := HP.out wq hbel
            have c1 := hP.at'.c1
            obtain ⟨n1, n2, n3, n4, n5, n6⟩ := HN.out
            have hBw := HS2.out.2.2
            obtain ⟨ba, bn, bc, hbb⟩ := id hbx
            by_cases hlt : t < N
            · obtain ⟨y, hy⟩ : ∃ y, ss[t]? = some y := ⟨ss[t]'(by omega), by rw [List.getElem?_eq_getElem]⟩
              have hy' : s.L[t]? = some y.1 := by rw [← HH.out.its, List.getElem?_map, hy]; rfl
              obtain ⟨-, q, hq, hcell⟩ := hP.row.get hy
              subst hq
              have x0 := hcell 0 _ rfl
              have x1 := hcell 1 _ rfl
              have x2 := hcell 2 _ rfl
              rw [show E59.n = 3 from rfl] at x0 x1 x2
              rw [Nat.add_zero] at x0
              obtain ⟨fs1, fs2⟩ := f_step hy'
              have KC : Hid (∀ j, Calls Try.prog 20 #[.pointer (some ⟨r, 0, none⟩), .int .i64 y.1.e, .int .i64 y.1.i] (wq.drewN j) fun e w' => e = .returned (.int .i64 (cnt s.L y.1.k : Int)) ∧ w' = wq.drewN j) := fun j => rcount_ok (wq.drewN j) r _ s ss (HP.out (wq.drewN j) (below_drewN hbel j)) y.1.k
              obtain ⟨cy, hcy⟩ : ∃ cy, cy = cnt s.L y.1.k := ⟨_, rfl⟩
              obtain ⟨fmt, hfmt⟩ : ∃ fmt, fmt = fm s.L t := ⟨_, rfl⟩
              rw [← hcy] at KC fs1 fs2
              rw [← hfmt] at fs1 fs2 ⊢
              obtain ⟨ye, hye⟩ : ∃ ye, ye = y.1.e := ⟨_, rfl⟩
              obtain ⟨yi, hyi⟩ : ∃ yi, yi = y.1.i := ⟨_, rfl⟩
              obtain ⟨yl, hyl⟩ : ∃ yl, yl = y.1.b.length := ⟨_, rfl⟩
              obtain ⟨ya, hya⟩ : ∃ ya, ya = y.2.1 := ⟨_, rfl⟩
              obtain ⟨yc, hyc⟩ : ∃ yc, yc = y.2.2 := ⟨_, rfl⟩
              rw [← hye, ← hyi] at KC
              have x0' : wq.cell? ⟨q, t * 3, none⟩ = some (.int .i64 ye) := by rw [hye]; exact x0
              have x1' : wq.cell? ⟨q, t * 3 + 1, none⟩ = some (.int .i64 yi) := by rw [hyi]; exact x1
              have x2' : wq.cell? ⟨q, t * 3 + 2, none⟩ = some (.slice ya yl yc) := by rw [hyl, hya, hyc]; exact x2
              have g2 : (t : Int) < (N : Int) := by omega
              have g3 : (0 : Int) ≤ (t : Int) := Int.natCast_nonneg _
              have e1 : IntKind.i64.wrap ((t : Int) + 1) = ((t + 1 : Nat) : Int) := by rw [IntKind.wrap_i64]; omega
              have HJ : Hid (t < N) := hlt
              have z0 := cell_of_row _ _ 0 _ _ _ hbb
              have z1 := cell_of_row _ _ 1 _ _ _ hbb
              have z2 := cell_of_row _ _ 2 _ _ _ hbb
              have y0 := frozen_of_row _ _ 0 _ _ hbb
              have y1 := frozen_of_row _ _ 1 _ _ hbb
              have y2 := frozen_of_row _ _ 2 _ _ hbb
              have sd : ∀ (W : World) j x v, (W.drewN j).setCell x v = (W.setCell x v).drewN j := fun _ _ _ _ => rfl
              have hyk : y.1.k = (ye, yi) := by rw [hye, hyi]; rfl
              by_cases hc : fmt < cy
              · obtain ⟨q1, q2⟩ := fs1 hc
                have HE : Hid (∀ j, (cy : Int) = (fm s.L (t + 1) : Int) ∧ Below w.heap.size w ((((wq.setCell ⟨B, 0, none⟩ (.int .i64 ye)).setCell ⟨B, 1, none⟩ (.int .i64 yi)).setCell ⟨B, 2, none⟩ (.slice ya yl yc)).drewN j) ∧ IBox ((((wq.setCell ⟨B, 0, none⟩ (.int .i64 ye)).setCell ⟨B, 1, none⟩ (.int .i64 yi)).setCell ⟨B, 2, none⟩ (.slice ya yl yc)).drewN j) B (fk s.L (t + 1))) := fun j => by
                  rw [q1, q2, hyk]
                  exact ⟨rfl, below_drewN (below_three hbel hBw _ _ _) j, hbx.put ye yi ya yl yc⟩
                have g4 : (fmt : Int) < (cy : Int) := by omega
                clear hP n1 n2 n3 n4 n5 n6 hBw hbx hbb hy hy' hcell x0 x1 x2 fs1 fs2 hcy hfmt hye hyi hyl hya hyc hyk hc q1 q2 hbel ht hlt
                go_wp2_with fail
                go_quiet (first | (go_at_call 20; exact Calls.quiet_of_same (KC.out _)))
                go_wp2
                go_roundw
                case rel => exact ⟨t + 1, by first | rfl | (congr 1; omega), by have := HJ.out; omega, by rw [← (HE.out 0).1], (HE.out _).2.1, (HE.out _).2.2⟩
                case measure => have := HJ.out; simp [intOf]; omega
              · obtain ⟨q1, q2⟩ := fs2 hc
                have HE : Hid (∀ j, (fmt : Int) = (fm s.L (t + 1) : Int) ∧ Below w.heap.size w (wq.drewN j) ∧ IBox (wq.drewN j) B (fk s.L (t + 1))) := fun j => by
                  rw [q1, q2]
                  exact ⟨rfl, below_drewN hbel j, hbx⟩
                have g4 : ¬ (fmt : Int) < (cy : Int) := by omega
                clear hP n1 n2 n3 n4 n5 n6 hBw hbx hbb hy hy' hcell x0 x1 x2 fs1 fs2 hcy hfmt hye hyi hyl hya hyc hyk hc q1 q2 hbel ht hlt
                go_wp2_with fail
                go_quiet (first | (go_at_call 20; exact Calls.quiet_of_same (KC.out _)))
                go_wp2
                go_roundw
                case rel => exact ⟨t + 1, by first | rfl | (congr 1; omega), by have := HJ.out; omega, by rw [← (HE.out 0).1], (HE.out _).2.1, (HE.out _).2.2⟩
                case measure => have := HJ.out; simp [intOf]; omega
            · have htN : t = s.L.length := by omega
              have hne : s.L ≠ [] := fun e => by have h9 := HF.out; rw [e] at h9; simp at h9; omega
              obtain ⟨fe1, fe2⟩ := f_end hne
              rw [htN, fe1] at hbx hbb
              rw [htN, fe2]
              rw [← n2]
              obtain ⟨F, hF⟩ : ∃ F, F = full s.L := ⟨_, rfl⟩
              rw [← hF] at hbx hbb ⊢
              obtain ⟨LO, hLO⟩ : ∃ LO, LO = s.lost + 1 := ⟨_, rfl⟩
              have e1 : IntKind.i64.wrap ((s.lost : Int) + 1) = (LO : Int) := by rw [IntKind.wrap_i64]; omega
              have c2 := hP.at'.c2
              have f2 := hP.at'.fz 2
              obtain ⟨W2, hW2⟩ : ∃ W2, W2 = wq.setCell ⟨r, 2, none⟩ (.int .i64 (LO : Int)) := ⟨_, rfl⟩
              have hap2 : Apart (fun k => k = r) wq W2 := by rw [hW2]; exact (Apart.refl (fun k => k = r) wq).setCell (b := r) (.inl rfl) 2 _
              have hR2 : Rb W2 r (.slice va ss.length vcap) { s with lost := LO } ss := by
                have hP2 : Rb wq r (.slice va ss.length vcap) s ss := by rw [← n1]; exact hP
                refine ⟨by rw [hW2]; exact hP2.at'.put2 LO, hP2.row.apart hap2 fun j hj e => hP2.vr (e ▸ hj), hP2.its, hP2.seen.apart hap2 fun j hj => hj ▸ hP2.plain (.inl rfl), ⟨hP2.ok.lo, hP2.ok.hi, hP2.ok.len, hP2.ok.arg⟩⟩
              have hBr : B ≠ r := by have := HH.out.at'.lt; omega
              have hb2 : W2.heap[B]? = some (.cells #[.int .i64 F.1, .int .i64 F.2, .slice ba bn bc] 59 (0, 0)) := (hap2.block B (Array.getElem?_eq_some_iff.1 hbb).1 hBr).trans hbb
              have HAP : Hid (Apart (fun k => k = r) w W2) := (Apart.of_below (F := fun k => k = r) hbel).trans hap2 fun i hi => .inl hi
              have hmax := (full_max (L := s.L) (k1, k2) hne).1
              have hany := full_any hne
              rw [← hF] at hmax hany
              obtain ⟨hso1, hso2⟩ := split_one (isK F) s.L hany
              have hll := lastI_lt (isK F) s.L hne
              have KC : Hid (Calls Try.prog 20 #[.pointer (some ⟨r, 0, none⟩), .int .i64 k1, .int .i64 k2] W2 fun e w' => e = .returned (.int .i64 (cnt s.L (k1, k2) : Int)) ∧ w' = W2) := rcount_ok W2 r _ { s with lost := LO } ss hR2 (k1, k2)
              have HW2 : Hid (W2 = wq.setCell ⟨r, 2, none⟩ (.int .i64 (LO : Int))) := hW2
              have HF2 : Hid (F = full s.L ∧ LO = s.lost + 1 ∧ N = s.L.length ∧ N = ss.length ∧ (split (isK F) 1 s.L).2 = s.L.eraseIdx (lastI (isK F) s.L) ∧ lastI (isK F) s.L < s.L.length) := ⟨hF, hLO, n2, n1, hso2, hll⟩
              have HR2 : Hid (Rb W2 r (.slice va ss.length vcap) { s with lost := LO } ss ∧ W2.heap[B]? = some (.cells #[.int .i64 F.1, .int .i64 F.2, .slice ba bn bc] 59 (0, 0))) := ⟨hR2, hb2⟩
              obtain ⟨co, hco⟩ : ∃ co, co = cnt s.L (k1, k2) := ⟨_, rfl⟩
              obtain ⟨cf, hcf⟩ : ∃ cf, cf = cnt s.L F := ⟨_, rfl⟩
              rw [← hco] at KC hmax
              rw [← hcf] at hmax ⊢
              have HCC : Hid (co = cnt s.L (k1, k2) ∧ cf = cnt s.L F) := ⟨hco, hcf⟩
              obtain ⟨lo, hlo⟩ : ∃ lo, lo = s.lost := ⟨_, rfl⟩
              rw [← hlo] at e1 c2
              have g2 : ¬ ((N : Int) < (N : Int)) := by omega
              clear hP n1 n2 n3 n4 n5 n6 hBw hbx hbb hlt ht hbel htN fe1 fe2 hF hLO hW2 hap2 hR2 hBr hb2 hany hso1 hso2 hll hco hcf hlo hne
              by_cases hcc : co = cf
              · have g3 : (cf : Int) ≤ (co : Int) := by omega
                have HE : Hid ((9 : Int) = putE s k1 k2 x ∧ RLeft w r (.slice va ss.length vcap) (putV s k1 k2 x) W2) := by
                  have e0 : cnt s.L (k1, k2) = cnt s.L (full s.L) := by rw [← HF2.out.1, ← HCC.out.1, ← HCC.out.2]; exact hcc
                  refine ⟨by rw [HPE.out, if_pos ⟨HF.out, e0⟩], ?_⟩
                  rw [HPV.out, if_pos HF.out, if_pos e0, ← HF2.out.2.1]
                  exact ⟨_, ss, HR2.out.1, HAP.out, fun j hj => .inl hj⟩
                clear hcc hmax
                go_wp2_with fail
                rw [← HW2.out]
                refine KC.out.mono ?_
                rintro e w' ⟨rfl, rfl⟩
                go_wp2
                go_ret
                exact ⟨by rw [← HE.out.1]; rfl, HE.out.2⟩
              · have g3 : ¬ ((cf : Int) ≤ (co : Int)) := by omega
                have HNF : Hid (¬ (s.L.length = s.most ∧ cnt s.L (k1, k2) = cnt s.L (full s.L))) := fun h => hcc (by rw [HCC.out.1, HCC.out.2, HF2.out.1]; exact h.2)
                clear hcc hmax
                go_wp2_with fail
                rw [← HW2.out]
                refine KC.out.mono ?_
                rintro e w' ⟨rfl, rfl⟩
                clear HW2 KC c1 c2 f2 e1
                go_wp2
                rename World => W3
                have HR3 : Hid (∀ V, Below W3.heap.size W3 V → Rb V r (.slice va N vcap) { s with lost := LO } ss ∧ V.heap[B]? = some (.cells #[.int .i64 F.1, .int .i64 F.2, .slice ba bn bc] 59 (0, 0))) := fun V hb => ⟨by rw [HF2.out.2.2.2.1]; exact HR2.out.1.below hb, (hb.block B (Array.getElem?_eq_some_iff.1 HR2.out.2).1).trans HR2.out.2⟩
                have d117 : Hid (decide (cf ≤ co) = false) := decide_eq_false (show ¬ cf ≤ co by omega)
                clear g2 g3
                simp only [d117.out]
                go_loopw [14, 15] (fun s14 s15 wy => ∃ t : Nat, s15 = .int .i64 (t : Int) ∧ t ≤ N ∧ s14 = .int .i64 (lastI (isK F) (s.L.take t) : Int) ∧ Below W3.heap.size W3 wy) (fun _ s15 _ => N - (intOf s15).toNat)
                case atStart => exact ⟨0, rfl, Nat.zero_le _, rfl, Below.refl _ _⟩
                case round =>
                  rename World => wy
                  obtain ⟨t, rfl, ht, rfl, hbel⟩ := hrel
                  obtain ⟨hR, hbb⟩ := HR3.out wy hbel
                  have c1 := hR.at'.c1
                  obtain ⟨m1, m2, m3, m4, m5, m6⟩ := HF2.out
                  by_cases hlt : t < N
                  · obtain ⟨y, hy⟩ : ∃ y, ss[t]? = some y := ⟨ss[t]'(by omega), by rw [List.getElem?_eq_getElem]⟩
                    have hy' : s.L[t]? = some y.1 := by rw [← HH.out.its, List.getElem?_map, hy]; rfl
                    obtain ⟨-, q, hq, hcell⟩ := hR.row.get hy
                    subst hq
                    have x0 := hcell 0 _ rfl
                    have x1 := hcell 1 _ rfl
                    rw [show E59.n = 3 from rfl] at x0 x1
                    rw [Nat.add_zero] at x0
                    have hsn : lastI (isK F) (s.L.take (t + 1)) = if isK F y.1 = true then t else lastI (isK F) (s.L.take t) := by
                      rw [take_snoc _ _ _ hy', lastI_snoc, List.length_take, Nat.min_eq_left (by omega)]
                    obtain ⟨ye, hye⟩ : ∃ ye, ye = y.1.e := ⟨_, rfl⟩
                    obtain ⟨yi, hyi⟩ : ∃ yi, yi = y.1.i := ⟨_, rfl⟩
                    have x0' : wy.cell? ⟨q, t * 3, none⟩ = some (.int .i64 ye) := by rw [hye]; exact x0
                    have x1' : wy.cell? ⟨q, t * 3 + 1, none⟩ = some (.int .i64 yi) := by rw [hyi]; exact x1
                    have z0 := cell_of_row _ _ 0 _ _ _ hbb
                    have z1 := cell_of_row _ _ 1 _ _ _ hbb
                    have g4 : (t : Int) < (N : Int) := by omega
                    have g5 : (0 : Int) ≤ (t : Int) := Int.natCast_nonneg _
                    have e1 : IntKind.i64.wrap ((t : Int) + 1) = ((t + 1 : Nat) : Int) := by rw [IntKind.wrap_i64]; omega
                    have HJ : Hid (t < N) := hlt
                    have HB3 : Hid (∀ j, Below W3.heap.size W3 (wy.drewN j)) := fun j => below_drewN hbel j
                    obtain ⟨la, hla⟩ : ∃ la, la = lastI (isK F) (s.L.take t) := ⟨_, rfl⟩
                    rw [← hla] at hsn ⊢
                    have hke : isK F y.1 = true ↔ ye = F.1 ∧ yi = F.2 := by rw [isK_iff, key_eq, hye, hyi]
                    obtain ⟨fa, fb⟩ := F
                    dsimp only at z0 z1 hke
                    have HY : Hid (ye = fa ∧ yi = fb → lastI (isK (fa, fb)) (s.L.take (t + 1)) = t) := fun h9 => by rw [hsn, if_pos (hke.2 h9)]
                    have HNY : Hid (¬ (ye = fa ∧ yi = fb) → lastI (isK (fa, fb)) (s.L.take (t + 1)) = la) := fun h9 => by rw [hsn, if_neg (fun e => h9 (hke.1 e))]
                    clear hR hbb m1 m2 m3 m4 m5 m6 hy hy' hcell x0 x1 hsn hye hyi hla hke ht hlt hbel
                    by_cases h1 : ye = fa
                    · subst h1
                      by_cases h2 : yi = fb
                      · subst h2
                        have HE : Hid (lastI (isK (ye, yi)) (s.L.take (t + 1)) = t) := HY.out ⟨rfl, rfl⟩
                        clear HY HNY
                        go_wp2_with fail
                        go_quiet (fail)
                        go_wp2
                        go_roundw
                        case rel => exact ⟨t + 1, by first | rfl | (congr 1; omega), by have := HJ.out; omega, by rw [HE.out], HB3.out _⟩
                        case measure => have := HJ.out; simp [intOf]; omega
                      · have HE : Hid (lastI (isK (ye, fb)) (s.L.take (t + 1)) = la) := HNY.out fun e => h2 e.2
                        clear HY HNY
                        go_wp2_with fail
                        go_quiet (fail)
                        go_wp2
                        go_roundw
                        case rel => exact ⟨t + 1, by first | rfl | (congr 1; omega), by have := HJ.out; omega, by rw [HE.out], HB3.out _⟩
                        case measure => have := HJ.out; simp [intOf]; omega
                    · have HE : Hid (lastI (isK (fa, fb)) (s.L.take (t + 1)) = la) := HNY.out fun e => h1 e.1
                      have d1 : decide (ye = fa) = false := decide_eq_false h1
                      clear HY HNY
                      go_wp2_with fail
                      go_quiet (fail)
                      go_wp2
                      go_roundw
                      case rel => exact ⟨t + 1, by first | rfl | (congr 1; omega), by have := HJ.out; omega, by rw [HE.out], HB3.out _⟩
                      case measure => have := HJ.out; simp [intOf]; omega
                  · have htN : s.L.take t = s.L := List.take_of_length_le (by omega)
                    rw [htN]
                    obtain ⟨la, hla⟩ : ∃ la, la = lastI (isK F) s.L := ⟨_, rfl⟩
                    rw [← hla] at m5 m6 ⊢
                    have KW : Hid (Calls Try.prog 27 #[.pointer (some ⟨r, 0, none⟩), .int .i64 (la : Int)] wy fun e w' => e = .returned (.tuple #[]) ∧ RLeft w r (.slice va ss.length vcap) s1 w' ∧ ¬ (s.L.length = s.most ∧ cnt s.L (k1, k2) = cnt s.L (full s.L))) := by
                      refine (without_ok wy r _ { s with lost := LO } ss hR la m6).mono ?_
                      rintro e w' ⟨rfl, v9, ss9, q1, q2, q3⟩
                      refine ⟨rfl, ⟨v9, ss9, ?_, ?_, fun j hj => ?_⟩, HNF.out⟩
                      · rw [HS1.out, if_pos HF.out, ← m1, m5, ← m2]; exact q1
                      · exact (HAP.out.trans (Apart.of_below (F := fun _ => False) hbel) (fun _ h => h.elim)).trans q2 fun i hi => .inl hi
                      · rcases q3 j hj with q | q
                        · exact .inl (by rw [← m4]; exact q)
                        · exact .inr (Nat.le_trans HAP.out.size (Nat.le_trans hbel.size q))
                    have g4 : ¬ (t : Int) < (N : Int) := by omega
                    clear hR hbb m1 m2 m3 m4 m5 m6 htN hla ht hlt hbel
                    go_wp2_with fail
                    refine KW.out.mono ?_
                    rintro e w9 ⟨rfl, hE, hE2⟩
                    have HE : Hid (RLeft w r (.slice va ss.length vcap) s1 w9 ∧ ¬ (s.L.length = s.most ∧ cnt s.L (k1, k2) = cnt s.L (full s.L))) := ⟨hE, hE2⟩
                    clear hE hE2 KW
                    go_wp2_with fail
                    go_meet
                    case rel => exact HE.out
        · have g1 : ¬ ((mo : Int) ≤ (N : Int)) := by omega
          have HE : Hid (RLeft w r (.slice va ss.length vcap) s1 D ∧ ¬ (s.L.length = s.most ∧ cnt s.L (k1, k2) = cnt s.L (full s.L))) := by
            rw [show s1 = s from by rw [HS1.out, if_neg hfull]]
            exact ⟨RLeft.refl HH.out HBD.out, fun e => hfull e.1⟩
          clear hPD h1 h2 h3 h4 h5 h6 hfull
          go_wp2_with fail
          go_meet
          case rel => exact HE.out
      case rest =>
        obtain ⟨⟨v', ss', hP, hAp, hvn⟩, hne⟩ := hcut
        obtain ⟨a, cap, rfl, -⟩ := hP.row.shape
        have e2 : putV s k1 k2 x = { s1 with L := s1.L ++ [⟨k1, k2, x⟩] } := by
          rw [HPV.out, HS1.out]
          by_cases hf : s.L.length = s.most
          · rw [if_pos hf, if_pos hf, if_neg fun e => hne ⟨hf, e⟩]
          · rw [if_neg hf, if_neg hf]
        have hok := HOK.out
        rw [e2] at hok
        have hxs := HX.out.1.apart hAp fun j hj => hj ▸ HH.out.plain (.inl rfl)
        obtain ⟨a2, c2', w2, d, cd, w3, a3, c3, w5, r1, r2, r3, r4, r5, r6, r7⟩ := rput_tail (v0 := .slice va ss.length vcap) hP hAp hxs HX.out.2.1 hok
        rw [← HXL.out] at r3 r4
        obtain ⟨l, hl⟩ : ∃ l, l = ss'.length := ⟨_, rfl⟩
        rw [← hl] at r1 r2 r4 r5 r7
        have c1c := hP.at'.c1
        rw [← hl] at c1c
        have HR1 : Hid ((Builtin.append_ #[40, 40] 40 #[.slice (some ⟨wc.heap.size, 0, none⟩) 0 0, .slice a l cap]).run Try.prog (wc.alloc (.cells #[] 59)) = .ok (.slice a2 l c2') w2) := r1
        have HR2 : Hid ((Builtin.append_ #[22, 22] 22 #[.slice (some ⟨w2.heap.size, 0, none⟩) 0 0, .slice xa xl xc]).run Try.prog (w2.alloc (.cells #[] 5)) = .ok (.slice d xl cd) w3) := r3
        have HR3 : Hid ((Builtin.append_ #[40, 40] 40 #[.slice a2 l c2', .slice (some ⟨w3.heap.size, 0, none⟩) 1 1]).run Try.prog (w3.alloc (.cells #[.int .i64 k1, .int .i64 k2, .slice d xl cd] 59)) = .ok (.slice a3 (l + 1) c3) w5) := r4
        have HE : Hid ((0 : Int) = putE s k1 k2 x ∧ RLeft w r (.slice va ss.length vcap) (putV s k1 k2 x) (w5.setCell ⟨r, 1, none⟩ (.slice a3 (l + 1) c3))) := ⟨by rw [HPE.out, if_neg hne], by rw [e2]; exact r7⟩
        clear hP hAp hvn hne e2 hok hxs r1 r3 r4 r7 hl c0 c1 HS1 HPE HPV HOK HB HP HH HX
        go_wp2_with (at_builtin; first | refine wpList_append_run rfl (.tmp 156) (.tmp 160) 40 rfl _ _ _ rfl rfl HR1.out ?_ | refine wpList_append_run rfl (.tmp 164) (.tmp 165) 22 rfl _ _ _ rfl rfl HR2.out ?_ | refine wpList_append_run rfl (.tmp 161) (.tmp 168) 40 rfl _ _ _ rfl rfl HR3.out ?_)
        go_ret
        exact ⟨by rw [← HE.out.1]; rfl, HE.out.2⟩
end Go.Proofs.Yteehkekmaikeiaa
