/-
  The walk of BufferOrder.
-/
import Derived.Test.YteehkekmaikeiaaBufS
import Derived.Test.YteehkekmaikeiaaOrdM
import Derived.Test.YteehkekmaikeiaaFloodW
import Derived.Test.YteehkekmaikeiaaNums
namespace Go.Proofs.Yteehkekmaikeiaa
open Go.ChangeShapes Go.WideShapes Go.ChangeAt Go.RowKit

/-- What stands behind the two Puts of a round. -/
def Rnd (w : World) (g : Nat) (A B : Key) (vw : Value) (ws : List Bl) (k : Nat) (l : List UInt8) (r : Int) (W : World) : Prop :=
  ∃ s m v ss, Beside w W g s (130 * (k + 1)) vw ws m v ss ∧ (r = 0 → (ws.map Prod.fst).any (fun y => y == l) = false ∧ Ord s A B (ws.map Prod.fst ++ [l])) ∧ (r ≠ 0 → Ord s A B (ws.map Prod.fst)) ∧ s.lost ≤ 2 * (k + 1)
theorem Rowss.at {w : World} {a : Option Addr} {cap : Nat} {L : List (List UInt8)} (h : Rowss w a cap L) {t : Nat} {l : List UInt8} (hl : L[t]? = some l) : ∃ b off, a = some ⟨b, off, none⟩ ∧ ∃ x c, w.cell? ⟨b, off + t, none⟩ = some (.slice x l.length c) ∧ Sees w x c l := h.at' t l hl

set_option maxHeartbeats 1600000 in
/-- The two Puts. -/
theorem puts_two (w wr : World) (g : Nat) (A B : Key) (hAB : A ≠ B) (s : Bs) (k : Nat) (hk : k < 60) (vw : Value) (ws : List Bl) (m : Nat) (v : Value) (ss : List Sl) (h : Beside w wr g s (130 * k) vw ws m v ss) (hO : Ord s A B (ws.map Prod.fst)) (hlost : s.lost ≤ 2 * k)
    (pb po : Nat) (xa : Option Addr) (xc : Nat) (l : List UInt8) (hx : Sees w xa xc l) (hll : l.length ≤ 140737488351232) (hc : w.cell? ⟨pb, po, none⟩ = some (.slice xa l.length xc)) :
    Calls Try.prog 10 #[.pointer (some ⟨g, 0, none⟩), .int .i64 A.1, .int .i64 A.2, .slice xa l.length xc] wr fun e w1 => ∃ r, e = .returned (.int .i64 r) ∧
      (w1.alloc (.cells #[.int .u8 9, .int .u8 9] 5)).cell? ⟨pb, po, none⟩ = some (.slice xa l.length xc) ∧ ∃ d n2 cd w2, (Builtin.append_ #[22, 22] 22 #[.slice (some ⟨w1.heap.size, 0, none⟩) 2 2, .slice xa l.length xc]).run Try.prog (w1.alloc (.cells #[.int .u8 9, .int .u8 9] 5)) = .ok (.slice d n2 cd) w2 ∧
      Calls Try.prog 10 #[.pointer (some ⟨g, 0, none⟩), .int .i64 B.1, .int .i64 B.2, .slice d n2 cd] w2 fun e w3 => ∃ r2, e = .returned (.int .i64 r2) ∧ Rnd w g A B vw ws k l r w3 := by
  refine (put_any wr g m v s ss _ h.pb (by omega) (by omega) A.1 A.2 xa xc l (hx.below h.bel)).mono ?_
  rintro e w1 ⟨rfl, hl⟩
  obtain ⟨v1, ss1, h1⟩ := h.left hl
  obtain ⟨p1, p2⟩ := hO.putA h.pb.ok hAB l
  obtain ⟨W, hW⟩ : ∃ W, W = w1.alloc (.cells #[.int .u8 9, .int .u8 9] 5) := ⟨_, rfl⟩
  have hbW : Below w1.heap.size w1 W := by rw [hW]; exact (Below.refl _ _).alloc (Nat.le_refl _) _
  have hbw : Below w.heap.size w W := h1.bel.trans (hbW.mono h1.bel.size)
  have hown : W.ownsRow w1.heap.size 5 1 (.slice (some ⟨w1.heap.size, 0, none⟩) 2 2) ([9, 9] : List UInt8).length (([9, 9] : List UInt8).map cellOf) := by
    rw [hW]; exact ⟨by simp, .inr ⟨w1.heap.size, 2, #[.int .u8 9, .int .u8 9], rfl, Nat.le_refl _, heap_alloc_new w1 _, by simp, by decide, by simp, by simp [cellOf]⟩⟩
  obtain ⟨v', w2, hrun, ho, hbl⟩ := append_own_any W w1.heap.size _ [9, 9] hown xa xc l (hx.below hbw) (by simp; omega) hbW.size
  obtain ⟨d, cd, rfl, hs⟩ := Sees.of_own ho
  have hb2 : Below w1.heap.size w1 w2 := hbl _ _ hbW (Nat.le_refl _)
  have h2 := h1.below hb2
  have hlost1 := putV_lost s A.1 A.2 l
  refine ⟨_, rfl, ?_, d, _, cd, w2, by rw [← hW]; exact hrun, ?_⟩
  · rw [← hW, hbw.cell (World.block_lt_of_cell? w _ hc)]; exact hc
  · refine (put_any w2 g m v1 _ ss1 _ h2.pb (by omega) (by omega) B.1 B.2 d cd ([9, 9] ++ l) hs).mono ?_
    rintro e w3 ⟨rfl, hl3⟩
    obtain ⟨v3, ss3, h3⟩ := h2.left hl3
    have hlost2 := putV_lost (putV s A.1 A.2 l) B.1 B.2 ([9, 9] ++ l)
    refine ⟨_, rfl, _, m, v3, ss3, h3.mono (by omega), fun e => ⟨(p1 e).1, (p1 e).2.putB h1.pb.ok hAB _⟩, fun e => (p2 e).putB h1.pb.ok hAB _, by omega⟩

/-- What stands behind Take. -/
def Rest (w : World) (L : List (List UInt8)) (vo : Value) (vw : Value) (want : List (List UInt8)) (g : Nat) (A : Key) (W : World) : Prop :=
  Lst W vo L ∧ Lst W vw want ∧ ∃ s, Solo w W g s 20000 ∧ cnt s.L A = 0 ∧ takeL s A = []
theorem Rest.below {w : World} {L : List (List UInt8)} {vo vw : Value} {want : List (List UInt8)} {g : Nat} {A : Key} {W W' : World} (h : Rest w L vo vw want g A W) (hb : Below W.heap.size W W') : Rest w L vo vw want g A W' := by
  obtain ⟨h1, h2, s, h3, h4⟩ := h
  exact ⟨h1.below hb, h2.below hb, s, h3.below hb, h4⟩

set_option maxHeartbeats 3200000 in
set_option maxRecDepth 20000 in
theorem order_walk (a : Option Addr) (cap : Nat) (P : List (List UInt8)) (x y : Int) (w : World) (hP : Rowss w a cap P) (hm : ∀ l ∈ P, l.length ≤ 140737488351232) (hx : (Lit.int .u8 x).wf = true) (hy : (Lit.int .u8 y).wf = true) :
    Calls Try.prog 5 #[.slice a P.length cap, .int .u8 x, .int .u8 y] w fun e w' => e = .returned (.bool true) ∧ Below w.heap.size w w' := by
  obtain ⟨ep, rfl, he⟩ := nat_u8 hx
  obtain ⟨ix, rfl, hi⟩ := nat_u8 hy
  obtain ⟨I, hI⟩ : ∃ I : Nat, I = 1 + ix := ⟨_, rfl⟩
  obtain ⟨E, hE⟩ : ∃ E : Nat, E = ep + 1 := ⟨_, rfl⟩
  have e1 : (1 + (ix : Int)) = (I : Int) := by omega
  have e2 : ((ep : Int) + 1) = (E : Int) := by omega
  have hAB : (((ep : Int), (I : Int)) : Key) ≠ ((E : Int), (I : Int)) := fun e => by
    have := congrArg Prod.fst e
    simp at this
    omega
  have hwA : wfK ((ep : Int), (I : Int)) := ⟨inI_wf (x := (ep : Int)) (by omega) (by omega), inI_wf (x := (I : Int)) (by omega) (by omega)⟩
  have HP : Hid (Rowss w a cap P ∧ (∀ l ∈ P, l.length ≤ 140737488351232)) := ⟨hP, hm⟩
  have HAB : Hid ((((ep : Int), (I : Int)) : Key) ≠ ((E : Int), (I : Int)) ∧ wfK ((ep : Int), (I : Int))) := ⟨hAB, hwA⟩
  have hlen := hP.len
  have HE : Hid ((1 + (ix : Int)) = (I : Int) ∧ ((ep : Int) + 1) = (E : Int)) := ⟨e1, e2⟩
  have KN := new_ok w 64 (by omega) (by omega)
  have hI' : I ≤ 256 := by omega
  have hE' : E ≤ 256 := by omega
  have w1' : IntKind.i64.wrap (1 + (ix : Int)) = (I : Int) := by rw [IntKind.wrap_i64]; omega
  have w2' : IntKind.i64.wrap ((ep : Int) + 1) = (E : Int) := by rw [IntKind.wrap_i64]; omega
  clear hx hy hP hm hAB hwA hI hE e1 e2
  go_enter Try.func5, Try.ntmps5
  go_wp2_with fail
  refine KN.mono ?_
  rintro e w1 ⟨g, rfl, hB⟩
  have HS : Hid (∃ m v ss, Beside w w1 g ⟨64, 0, []⟩ (130 * 0) (.slice none 0 0) [] m v ss) := by
    obtain ⟨m, v, ss, h1, h2, h3⟩ := hB
    exact ⟨m, v, ss, h1, h2, h3, Row.nil _ _, (fun x hx => by cases hx), (fun k hk => by cases hk), (fun k hk => by cases hk)⟩
  clear hB KN
  go_wp2
  go_loopw [10, 11] (fun s10 s11 wr => ∃ (k : Nat) (ws : List Bl) (s : Bs) (m : Nat) (v : Value) (ss : List Sl), s11 = .int .i64 (k : Int) ∧ k ≤ P.length ∧ k ≤ 60 ∧ ws.length ≤ k ∧ Beside w wr g s (130 * k) s10 ws m v ss ∧ Ord s ((ep : Int), (I : Int)) ((E : Int), (I : Int)) (ws.map Prod.fst) ∧ s.lost ≤ 2 * k) (fun _ s11 _ => 60 - (intOf s11).toNat)
  case atStart =>
    obtain ⟨m, v, ss, h⟩ := HS.out
    exact ⟨0, [], _, m, v, ss, rfl, Nat.zero_le _, Nat.zero_le _, Nat.le_refl _, h, Ord.start _ _, Nat.le_refl _⟩
  case round =>
    obtain ⟨k, ws, s, m, v, ss, rfl, hk1, hk2, hwl, hBs, hO, hlost⟩ := hrel
    clear HS
    obtain ⟨wa, wc, rfl, -, -, -⟩ := hBs.row.shape
    by_cases hgo : k < P.length ∧ k < 60
    · obtain ⟨hg1, hg2⟩ := hgo
      obtain ⟨l, hl⟩ : ∃ l, P[k]? = some l := ⟨P[k], by rw [List.getElem?_eq_getElem]⟩
      obtain ⟨pb, po, rfl, xa, xc, hc, hsx⟩ := HP.out.1.at hl
      have hcr : wr.cell? ⟨pb, po + k, none⟩ = some (.slice xa l.length xc) := by rw [hBs.bel.cell (World.block_lt_of_cell? w _ hc)]; exact hc
      obtain ⟨XL, hXL⟩ : ∃ XL, XL = l.length := ⟨_, rfl⟩
      obtain ⟨WL, hWL⟩ : ∃ WL, WL = ws.length := ⟨_, rfl⟩
      have KP : Hid (Calls Try.prog 10 #[.pointer (some ⟨g, 0, none⟩), .int .i64 (ep : Int), .int .i64 (I : Int), .slice xa XL xc] wr fun e w1 => ∃ r, e = .returned (.int .i64 r) ∧
          (w1.alloc (.cells #[.int .u8 9, .int .u8 9] 5)).cell? ⟨pb, po + k, none⟩ = some (.slice xa XL xc) ∧ ∃ d n2 cd w2, (Builtin.append_ #[22, 22] 22 #[.slice (some ⟨w1.heap.size, 0, none⟩) 2 2, .slice xa XL xc]).run Try.prog (w1.alloc (.cells #[.int .u8 9, .int .u8 9] 5)) = .ok (.slice d n2 cd) w2 ∧
          Calls Try.prog 10 #[.pointer (some ⟨g, 0, none⟩), .int .i64 (E : Int), .int .i64 (I : Int), .slice d n2 cd] w2 fun e w3 => ∃ r2, e = .returned (.int .i64 r2) ∧ Rnd w g ((ep : Int), (I : Int)) ((E : Int), (I : Int)) (.slice wa WL wc) ws k l r w3) := by
        rw [hXL, hWL]
        exact puts_two w wr g _ _ HAB.out.1 s k hg2 _ ws m v ss hBs hO hlost pb (po + k) xa xc l hsx (HP.out.2 l (List.mem_of_getElem? hl)) hc
      have HL : Hid (XL = l.length ∧ WL = ws.length ∧ WL ≤ k ∧ P[k]? = some l ∧ w.cell? ⟨pb, po + k, none⟩ = some (.slice xa l.length xc) ∧ Sees w xa xc l) := ⟨hXL, hWL, by omega, hl, hc, hsx⟩
      rw [← hXL] at hcr
      rw [← hWL]
      have g1 : (k : Int) < (P.length : Int) := by omega
      have g2 : (k : Int) < 60 := by omega
      have g3 : (0 : Int) ≤ (k : Int) := Int.natCast_nonneg _
      have HK : Hid (k < P.length ∧ k < 60) := ⟨hg1, hg2⟩
      have e4 : IntKind.i64.wrap ((k : Int) + 1) = ((k + 1 : Nat) : Int) := by rw [IntKind.wrap_i64]; omega
      clear hBs hO hlost hl hc hsx hXL hWL hg1 hg2 hwl hk1 hk2
      go_wp2_with fail
      refine KP.out.mono ?_
      rintro e w2 ⟨r, rfl, hc2, d, n2, cd, w3, hrun, KQ⟩
      have HR : Hid ((Builtin.append_ #[22, 22] 22 #[.slice (some ⟨w2.heap.size, 0, none⟩) 2 2, .slice xa XL xc]).run Try.prog (w2.alloc (.cells #[.int .u8 9, .int .u8 9] 5)) = .ok (.slice d n2 cd) w3) := hrun
      have HQ : Hid (Calls Try.prog 10 #[.pointer (some ⟨g, 0, none⟩), .int .i64 (E : Int), .int .i64 (I : Int), .slice d n2 cd] w3 fun e w3 => ∃ r2, e = .returned (.int .i64 r2) ∧ Rnd w g ((ep : Int), (I : Int)) ((E : Int), (I : Int)) (.slice wa WL wc) ws k l r w3) := KQ
      clear KP hrun KQ hcr
      go_wp2_with (at_builtin; refine wpList_append_run rfl (.tmp 53) (.tmp 57) 22 rfl _ _ _ rfl rfl HR.out ?_)
      refine HQ.out.mono ?_
      rintro e w4 ⟨r2, rfl, hRn⟩
      have HN : Hid (Rnd w g ((ep : Int), (I : Int)) ((E : Int), (I : Int)) (.slice wa WL wc) ws k l r w4) := hRn
      clear HQ HR hRn hc2
      go_wp2
      have HW : Hid (Row E22 w4 (.slice wa WL wc) ws ∧ SeenB w4 ws ∧ Below w.heap.size w w4) := by
        obtain ⟨_, _, _, _, h, _⟩ := HN.out
        exact ⟨h.row, h.seen, h.bel⟩
      go_loopw [13, 14] (fun s13 s14 wq => ∃ t : Nat, s14 = .int .i64 (t : Int) ∧ t ≤ WL ∧ s13 = .bool ((ws.take t).any fun x => x.1 == l) ∧ Below w4.heap.size w4 wq) (fun _ s14 _ => WL - (intOf s14).toNat)
      case atStart => exact ⟨0, rfl, Nat.zero_le _, rfl, Below.refl _ _⟩
      case round =>
        rename World => wq
        obtain ⟨t, rfl, ht, rfl, hbel⟩ := hrel
        obtain ⟨hL1, hL2, hL3, hL4, hL5, hL6⟩ := HL.out
        by_cases hlt : t < WL
        · obtain ⟨o, ho⟩ : ∃ o, ws[t]? = some o := ⟨ws[t]'(by omega), by rw [List.getElem?_eq_getElem]⟩
          have hsn : (ws.take (t + 1)).any (fun x => x.1 == l) = ((ws.take t).any (fun x => x.1 == l) || (o.1 == l)) := by rw [take_snoc ws t o ho, List.any_append]; simp
          have g4 : (t : Int) < (WL : Int) := by omega
          have g5 : (0 : Int) ≤ (t : Int) := Int.natCast_nonneg _
          have e5 : IntKind.i64.wrap ((t : Int) + 1) = ((t + 1 : Nat) : Int) := by rw [IntKind.wrap_i64]; omega
          have HJ : Hid (t < WL) := hlt
          have HB : Hid (Below w4.heap.size w4 wq.drew) := hbel.drew
          cases hag : (ws.take t).any (fun x => x.1 == l)
          · obtain ⟨-, q, hq, hcell⟩ := (HW.out.1.below hbel).get ho
            subst hq
            have x0 := hcell 0 _ rfl
            rw [show E22.n = 1 from rfl, Nat.mul_one, Nat.add_zero] at x0
            have hso := (HW.out.2.1 o (List.mem_of_getElem? ho)).below hbel
            have hbw : Below w.heap.size w wq := HW.out.2.2.trans (hbel.mono HW.out.2.2.size)
            have y0 : wq.cell? ⟨pb, po + k, none⟩ = some (.slice xa XL xc) := by rw [hbw.cell (World.block_lt_of_cell? w _ hL5), hL5, hL1]
            have hsl := hL6.below hbw
            obtain ⟨oa, hoa⟩ : ∃ oa, oa = o.2.1 := ⟨_, rfl⟩
            obtain ⟨oc, hoc⟩ : ∃ oc, oc = o.2.2 := ⟨_, rfl⟩
            obtain ⟨ol, hol⟩ : ∃ ol, ol = o.1.length := ⟨_, rfl⟩
            have u1 : (Go.convert 22 9 (.slice oa ol oc)).run Try.prog wq.drew = .ok (.string ⟨o.1.toArray⟩) wq.drew := by rw [hoa, hoc, hol]; exact (hso.drewN 1).convert (P := Try.prog) 22 5 9 Try.underlying22 Try.underlying5 Try.underlying9
            have u2 : (Go.convert 22 9 (.slice xa XL xc)).run Try.prog wq.drew = .ok (.string ⟨l.toArray⟩) wq.drew := by rw [hL1]; exact (hsl.drewN 1).convert (P := Try.prog) 22 5 9 Try.underlying22 Try.underlying5 Try.underlying9
            have x0' : wq.cell? ⟨q, t, none⟩ = some (.slice oa ol oc) := by rw [hoa, hoc, hol]; exact x0
            rw [hag, Bool.false_or] at hsn
            have HSN : Hid ((ws.take (t + 1)).any (fun x => x.1 == l) = (o.1 == l)) := hsn
            obtain ⟨bt, hbt⟩ : ∃ bt, bt = o.1 := ⟨_, rfl⟩
            rw [← hbt] at u1 HSN
            clear hL1 hL2 hL3 hL4 hL5 hL6 ho hcell x0 hso hbw hsl hoa hoc hol hbel ht hlt hsn hag hbt
            go_wp2_with fail
            go_region
            go_wp2
            go_roundw
            case rel => exact ⟨t + 1, by first | rfl | (congr 1; omega), by have := HJ.out; omega, by rw [HSN.out], HB.out⟩
            case measure => have := HJ.out; simp [intOf]; omega
          · rw [hag, Bool.true_or] at hsn
            have HSN : Hid ((ws.take (t + 1)).any (fun x => x.1 == l) = true) := hsn
            clear hL1 hL2 hL3 hL4 hL5 hL6 ho hbel ht hlt hsn hag
            go_wp2_with fail
            go_region
            go_wp2
            go_roundw
            case rel => exact ⟨t + 1, by first | rfl | (congr 1; omega), by have := HJ.out; omega, by rw [HSN.out], HB.out⟩
            case measure => have := HJ.out; simp [intOf]; omega
        · have g4 : ¬ (t : Int) < (WL : Int) := by omega
          have hall : (ws.take t).any (fun x => x.1 == l) = (ws.map Prod.fst).any (fun y => y == l) := by rw [List.take_of_length_le (by omega), List.any_map]; rfl
          rw [hall]
          obtain ⟨s, m, v, ss, hBs, hr0, hr1, hlost⟩ := HN.out
          have hBq := hBs.below hbel
          by_cases hr : r = 0
          · obtain ⟨hany, hO⟩ := hr0 hr
            rw [hany]
            obtain ⟨W, hW⟩ : ∃ W, W = wq.alloc (.cells #[.slice xa XL xc] 22) := ⟨_, rfl⟩
            have hbW : Below wq.heap.size wq W := by rw [hW]; exact (Below.refl _ _).alloc (Nat.le_refl _) _
            have rW : W.heap[wq.heap.size]? = some (.cells #[.slice xa XL xc] 22 (0, 0)) := by rw [hW]; exact heap_alloc_new _ _
            have hBW := hBq.below hbW
            have hk2 := HK.out.2
            obtain ⟨vw', w5, hrun, hrow, hap, hnew⟩ := hBW.row.append [(l, (xa, xc))] (by rw [← hL2]; simp; omega) (some ⟨wq.heap.size, 0, none⟩) 1 (fun _ => ⟨wq.heap.size, 0, rfl, fun j u hu => by
              rw [show E22.cs [(l, (xa, xc))] = [.slice xa XL xc] from by rw [hL1]; rfl] at hu
              rw [cell_of_row _ _ (0 + j) _ _ _ rW, Nat.zero_add, ← Array.getElem?_toList]; exact hu⟩)
            obtain ⟨a5, c5, e5, -, -, -⟩ := hrow.shape
            have hB5 : Beside w w5 g s (130 * (k + 1)) vw' (ws ++ [(l, (xa, xc))]) m v ss := hBW.more hrow (fun x hx => by
              rcases List.mem_append.1 hx with hx | hx
              · exact hBW.seen x hx
              · rw [List.mem_singleton] at hx; subst hx; exact hL6.below hBW.bel) hap hnew
            have el5 : (ws ++ [(l, (xa, xc))]).length = WL + 1 := by rw [List.length_append, hL2]; rfl
            rw [el5] at e5
            subst e5
            have HR : Hid ((Builtin.append_ #[24, 24] 24 #[.slice wa WL wc, .slice (some ⟨wq.heap.size, 0, none⟩) 1 1]).run Try.prog W = .ok (.slice a5 (WL + 1) c5) w5) := hrun
            have HWW : Hid (W = wq.alloc (.cells #[.slice xa XL xc] 22)) := hW
            have HE5 : Hid (Beside w w5 g s (130 * (k + 1)) (.slice a5 (WL + 1) c5) (ws ++ [(l, (xa, xc))]) m v ss ∧ Ord s ((ep : Int), (I : Int)) ((E : Int), (I : Int)) ((ws ++ [(l, (xa, xc))]).map Prod.fst) ∧ s.lost ≤ 2 * (k + 1) ∧ (ws ++ [(l, (xa, xc))]).length ≤ k + 1) := ⟨hB5, by rw [List.map_append]; exact hO, hlost, by rw [el5]; omega⟩
            have y0 : wq.cell? ⟨pb, po + k, none⟩ = some (.slice xa XL xc) := by rw [hBq.bel.cell (World.block_lt_of_cell? w _ hL5), hL5, hL1]
            subst hr
            clear hL1 hL2 hL3 hL4 hL5 hL6 hBs hr0 hr1 hlost hBq hany hO hW hbW rW hBW hrun hrow hap hnew hB5 el5 hall hbel ht hlt hk2 HN HW
            go_wp2_with (at_builtin; rw [← HWW.out]; refine wpList_append_run rfl (.tmp 83) (.tmp 88) 24 rfl _ _ _ rfl rfl HR.out ?_)
            go_roundw
            case rel => exact ⟨k + 1, _, s, m, v, ss, by first | rfl | (congr 1; omega), by have := HK.out.1; omega, by have := HK.out.2; omega, HE5.out.2.2.2, HE5.out.1, HE5.out.2.1, HE5.out.2.2.1⟩
            case measure => have := HK.out.2; simp [intOf]; omega
          · have g6 : ¬ (r = 0) := hr
            have HE5 : Hid (Beside w wq g s (130 * (k + 1)) (.slice wa WL wc) ws m v ss ∧ Ord s ((ep : Int), (I : Int)) ((E : Int), (I : Int)) (ws.map Prod.fst) ∧ s.lost ≤ 2 * (k + 1) ∧ ws.length ≤ k + 1) := ⟨hBq, hr1 hr, hlost, by omega⟩
            clear hL1 hL2 hL3 hL4 hL5 hL6 hBs hr0 hr1 hlost hBq hall hbel ht hlt HN HW hr
            generalize ((ws.map Prod.fst).any fun y => y == l) = ag at *
            go_wp2
            go_roundw
            case rel => exact ⟨k + 1, ws, s, m, v, ss, by first | rfl | (congr 1; omega), by have := HK.out.1; omega, by have := HK.out.2; omega, HE5.out.2.2.2, HE5.out.1, HE5.out.2.1, HE5.out.2.2.1⟩
            case measure => have := HK.out.2; simp [intOf]; omega
    · have hnt : Hid ((¬ (k : Int) < (P.length : Int)) ∨ ((k : Int) < (P.length : Int) ∧ ¬ (k : Int) < 60)) := by
        show (¬ (k : Int) < (P.length : Int)) ∨ ((k : Int) < (P.length : Int) ∧ ¬ (k : Int) < 60)
        omega
      obtain ⟨WL, hWL⟩ : ∃ WL, WL = ws.length := ⟨_, rfl⟩
      have hcl : cnt s.L ((ep : Int), (I : Int)) ≤ WL := by have := hO.le; rw [List.length_map] at this; omega
      obtain ⟨C, hC⟩ : ∃ C, C = cnt s.L ((ep : Int), (I : Int)) := ⟨_, rfl⟩
      have hTL : takeL s ((ep : Int), (I : Int)) = (ws.map Prod.fst).take C := by rw [takeL, hO.pre, hC]
      have hTLl : ((ws.map Prod.fst).take C).length = C := by rw [List.length_take, List.length_map]; omega
      have KT : Hid (Calls Try.prog 13 #[.pointer (some ⟨g, 0, none⟩), .int .i64 (ep : Int), .int .i64 (I : Int)] wr fun e w' => ∃ va vc, e = .returned (.slice va C vc) ∧ Rest w ((ws.map Prod.fst).take C) (.slice va C vc) (.slice wa WL wc) (ws.map Prod.fst) g ((ep : Int), (I : Int)) w') := by
        refine (take_ok wr g m v s ss _ hBs.pb (by omega) ((ep : Int), (I : Int)) HAB.out.2).mono ?_
        rintro e w' ⟨vo, rfl, h1, h2⟩
        rw [hTL] at h2
        obtain ⟨v3, ss3, h3⟩ := hBs.left h1
        have h4 := h2.lst
        obtain ⟨va, vc, rfl, _, _⟩ := h4.shape
        rw [hTLl] at h4 ⊢
        have hz : cnt (takeV s ((ep : Int), (I : Int))).L ((ep : Int), (I : Int)) = 0 := by
          apply cnt_zero
          intro y hy e
          have := (List.mem_filter.1 hy).2
          rw [isK_iff.2 e] at this; cases this
        refine ⟨va, vc, rfl, h4, ⟨ws, by rw [hWL]; exact h3.row, h3.seen, rfl⟩, _, ⟨m, v3, ss3, h3.pb.mono (by omega), h3.bel, h3.own⟩, hz, ?_⟩
        rw [takeL, List.map_eq_nil_iff, ← List.length_eq_zero_iff, ← cnt_filter]; exact hz
      have HL2 : Hid (C ≤ ws.length) := by rw [← hWL]; exact (show C ≤ WL by omega)
      have HC : Hid (C ≤ WL ∧ WL ≤ 60 ∧ C = ((ws.map Prod.fst).take C).length) := ⟨by omega, by omega, hTLl.symm⟩
      rw [← hWL]
      have hwc : C ≤ wc := by
        obtain ⟨_, _, e, h5, _⟩ := hBs.row.shape
        cases e
        omega
      have h6 : (C : Int) ≤ (WL : Int) := by omega
      clear hBs hO hlost hcl hC hTL hTLl hWL hwl hk1 hk2 hgo
      rcases hnt.out with g1 | ⟨g1, g2⟩
      · clear hnt
        go_wp2_with fail
        refine KT.out.mono ?_
        rintro e w2 ⟨va, vc, rfl, hR⟩
        have KS : Hid (Calls Try.prog 12 #[.slice va C vc, .slice wa C wc] w2 fun e w' => e = .returned (.bool true) ∧ Rest w ((ws.map Prod.fst).take C) (.slice va C vc) (.slice wa WL wc) (ws.map Prod.fst) g ((ep : Int), (I : Int)) w') := by
          have h0 := lists_same w2 _ _ _ _ hR.1 (hR.2.1.take (k := C) (by rw [List.length_map]; have := HL2.out; omega)) (by rw [← HC.out.2.2]; have := HC.out; omega)
          rw [decide_eq_true rfl] at h0
          refine Calls.mono h0 ?_
          rintro e w' ⟨rfl, hb⟩
          exact ⟨rfl, hR.below hb⟩
        clear hR KT
        go_wp2_with fail
        refine KS.out.mono ?_
        rintro e w3 ⟨rfl, hR⟩
        obtain ⟨-, -, s3, hS3, hz3, ht3⟩ := hR
        have KC : Hid (Calls Try.prog 19 #[.pointer (some ⟨g, 0, none⟩), .int .i64 (ep : Int), .int .i64 (I : Int)] w3 fun e w' => e = .returned (.int .i64 0) ∧ w' = w3) := by
          have h0 := count_solo hS3 ((ep : Int), (I : Int)) HAB.out.2
          rw [hz3] at h0
          exact h0
        have KT2 : Hid (Calls Try.prog 13 #[.pointer (some ⟨g, 0, none⟩), .int .i64 (ep : Int), .int .i64 (I : Int)] w3 fun e w' => ∃ va vc, e = .returned (.slice va 0 vc) ∧ Below w.heap.size w w') := by
          refine (take_solo hS3 (by omega) ((ep : Int), (I : Int)) HAB.out.2).mono ?_
          rintro e w' ⟨vo, rfl, h1, h2⟩
          rw [ht3] at h2
          obtain ⟨va, vc, rfl, _, _⟩ := h2.lst.shape
          exact ⟨va, vc, rfl, h1.bel⟩
        clear hS3 hz3 ht3 KS
        go_wp2_with fail
        refine KC.out.mono ?_
        rintro e w3 ⟨rfl, rfl⟩
        go_wp2_with fail
        refine KT2.out.mono ?_
        rintro e w4 ⟨va2, vc2, rfl, hb4⟩
        have KA : Hid (Calls Try.prog 9 #[] w4 fun e w' => e = .returned (.bool true) ∧ Below w.heap.size w w') := by
          refine (awake_ok w4).mono ?_
          rintro e w' ⟨rfl, hb⟩
          exact ⟨rfl, hb4.trans (hb.mono hb4.size)⟩
        clear KC KT2 hb4
        go_wp2_with fail
        refine KA.out.mono ?_
        rintro e w5 ⟨rfl, hb5⟩
        go_wp2
        go_ret
        exact ⟨rfl, hb5⟩
      · clear hnt
        go_wp2_with fail
        refine KT.out.mono ?_
        rintro e w2 ⟨va, vc, rfl, hR⟩
        have KS : Hid (Calls Try.prog 12 #[.slice va C vc, .slice wa C wc] w2 fun e w' => e = .returned (.bool true) ∧ Rest w ((ws.map Prod.fst).take C) (.slice va C vc) (.slice wa WL wc) (ws.map Prod.fst) g ((ep : Int), (I : Int)) w') := by
          have h0 := lists_same w2 _ _ _ _ hR.1 (hR.2.1.take (k := C) (by rw [List.length_map]; have := HL2.out; omega)) (by rw [← HC.out.2.2]; have := HC.out; omega)
          rw [decide_eq_true rfl] at h0
          refine Calls.mono h0 ?_
          rintro e w' ⟨rfl, hb⟩
          exact ⟨rfl, hR.below hb⟩
        clear hR KT
        go_wp2_with fail
        refine KS.out.mono ?_
        rintro e w3 ⟨rfl, hR⟩
        obtain ⟨-, -, s3, hS3, hz3, ht3⟩ := hR
        have KC : Hid (Calls Try.prog 19 #[.pointer (some ⟨g, 0, none⟩), .int .i64 (ep : Int), .int .i64 (I : Int)] w3 fun e w' => e = .returned (.int .i64 0) ∧ w' = w3) := by
          have h0 := count_solo hS3 ((ep : Int), (I : Int)) HAB.out.2
          rw [hz3] at h0
          exact h0
        have KT2 : Hid (Calls Try.prog 13 #[.pointer (some ⟨g, 0, none⟩), .int .i64 (ep : Int), .int .i64 (I : Int)] w3 fun e w' => ∃ va vc, e = .returned (.slice va 0 vc) ∧ Below w.heap.size w w') := by
          refine (take_solo hS3 (by omega) ((ep : Int), (I : Int)) HAB.out.2).mono ?_
          rintro e w' ⟨vo, rfl, h1, h2⟩
          rw [ht3] at h2
          obtain ⟨va, vc, rfl, _, _⟩ := h2.lst.shape
          exact ⟨va, vc, rfl, h1.bel⟩
        clear hS3 hz3 ht3 KS
        go_wp2_with fail
        refine KC.out.mono ?_
        rintro e w3 ⟨rfl, rfl⟩
        go_wp2_with fail
        refine KT2.out.mono ?_
        rintro e w4 ⟨va2, vc2, rfl, hb4⟩
        have KA : Hid (Calls Try.prog 9 #[] w4 fun e w' => e = .returned (.bool true) ∧ Below w.heap.size w w') := by
          refine (awake_ok w4).mono ?_
          rintro e w' ⟨rfl, hb⟩
          exact ⟨rfl, hb4.trans (hb.mono hb4.size)⟩
        clear KC KT2 hb4
        go_wp2_with fail
        refine KA.out.mono ?_
        rintro e w5 ⟨rfl, hb5⟩
        go_wp2
        go_ret
        exact ⟨rfl, hb5⟩
end Go.Proofs.Yteehkekmaikeiaa
