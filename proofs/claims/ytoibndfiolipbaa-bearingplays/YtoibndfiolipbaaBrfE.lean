/-
  The contracts of the document's Fresh, Offsets and Near.
-/
import Derived.Test.YtoibndfiolipbaaBrfD
import Derived.Test.YtoibndfiolipbaaBrgG
namespace Go.Proofs.Ytoibndfiolipbaa
open Go.ChangeShapes Go.WideShapes Go.ChangeAt Go.RowKit
set_option maxRecDepth 20000

/-- One more told of, as the document writes it down. -/
theorem row_moreI {w W : World} {a : Option Addr} {k c : Nat} {xs : List Int} (h : Row EI W (.slice a k c) xs) (hl : xs.length ≤ 999) (hb : Below w.heap.size w W) (ho : ∀ p, (Value.slice a k c).ownBlock = some p → w.heap.size ≤ p) (x : Int) :
    ∃ a' k' c' W', (Builtin.append_ #[25, 25] 25 #[.slice a k c, .slice (some ⟨W.heap.size, 0, none⟩) 1 1]).run Try.prog (W.alloc (.cells #[.int .i64 x] 3)) = .ok (.slice a' k' c') W' ∧ Row EI W' (.slice a' k' c') (xs ++ [x]) ∧ Below w.heap.size w W' ∧ (∀ p, (Value.slice a' k' c').ownBlock = some p → w.heap.size ≤ p) := by
  obtain ⟨sl', W', hrun, hr, ha, h2⟩ := (h.alloc (.cells #[.int .i64 x] 3)).pushI hl x W.heap.size (Boxed.new W 3 (.int .i64 x)).cell
  obtain ⟨sa, sc, hsl, _⟩ := hr.shape
  subst hsl
  have hb1 : Below w.heap.size w (W.alloc (.cells #[.int .i64 x] 3)) := hb.alloc hb.size _
  refine ⟨_, _, _, W', hrun, hr, ha.below hb1 ho hb1.size, fun p hp => ?_⟩
  rcases h2 p hp with h3 | h3
  · exact ho p h3
  · exact Nat.le_trans hb1.size h3
theorem row_moreV {w W : World} {a : Option Addr} {k c : Nat} {xs : List (Int × Int)} (h : Row EV W (.slice a k c) xs) (hl : xs.length ≤ 999) (hb : Below w.heap.size w W) (ho : ∀ p, (Value.slice a k c).ownBlock = some p → w.heap.size ≤ p) (x y : Int) :
    ∃ a' k' c' W', (Builtin.append_ #[26, 26] 26 #[.slice a k c, .slice (some ⟨W.heap.size, 0, none⟩) 1 1]).run Try.prog (W.alloc (.cells #[.int .i64 x, .int .i64 y] 39)) = .ok (.slice a' k' c') W' ∧ Row EV W' (.slice a' k' c') (xs ++ [(x, y)]) ∧ Below w.heap.size w W' ∧ (∀ p, (Value.slice a' k' c').ownBlock = some p → w.heap.size ≤ p) := by
  have hp := (Pair.new W x y).facts
  obtain ⟨sl', W', hrun, hr, ha, h2⟩ := (h.alloc (.cells #[.int .i64 x, .int .i64 y] 39)).pushV hl (x, y) W.heap.size hp.1 hp.2.1
  obtain ⟨sa, sc, hsl, _⟩ := hr.shape
  subst hsl
  have hb1 : Below w.heap.size w (W.alloc (.cells #[.int .i64 x, .int .i64 y] 39)) := hb.alloc hb.size _
  refine ⟨_, _, _, W', hrun, hr, ha.below hb1 ho hb1.size, fun p hp => ?_⟩
  rcases h2 p hp with h3 | h3
  · exact ho p h3
  · exact Nat.le_trans hb1.size h3

set_option maxHeartbeats 3200000 in
theorem dfresh_ok (w : World) (g q : Nat) (v : Bt) (h : Rd w g q v) (ok : v.ok) (t : Int) :
    Calls Try.prog 21 #[.pointer (some ⟨g, 0, none⟩), .int .i64 t] w fun e w' => ∃ sl, e = .returned sl ∧ Row EI w' sl (frU v t v.c.n.toNat) ∧ (∀ k, sl.ownBlock = some k → w.heap.size ≤ k) ∧ Below w.heap.size w w' := by
  obtain ⟨N, hN⟩ : ∃ N : Nat, v.c.n = (N : Int) := ⟨v.c.n.toNat, by have := (right_of ok.r).n0; omega⟩
  have hnt : v.c.n.toNat = N := by rw [hN]; rfl
  have hN8 : N ≤ 8 := by have := (right_of ok.r).n1; omega
  rw [hnt]
  have HW : Hid (Rd w g q v ∧ v.ok ∧ v.c.n = (N : Int) ∧ N ≤ 8) := ⟨h, ok, hN, hN8⟩
  clear h ok hN hnt hN8
  go_enter Try.func21, Try.ntmps21
  go_wp2
  go_loopw [5, 6] (fun u i wr => ∃ (j : Nat) (a : Option Addr) (k c : Nat), j ≤ N ∧ u = .slice a k c ∧ i = .int .i64 (j : Int) ∧ Row EI wr (.slice a k c) (frU v t j) ∧ (∀ p, (Value.slice a k c).ownBlock = some p → w.heap.size ≤ p) ∧ Below w.heap.size w wr) (fun _ i _ => N - (intOf i).toNat)
  case atStart => exact ⟨0, none, 0, 0, Nat.zero_le _, rfl, rfl, Row.nil _ _, (fun p hp => by cases hp), Below.refl _ _⟩
  case round =>
    obtain ⟨j, a, k, c, hj, rfl, rfl, hr, ho, hb⟩ := hrel
    have hrd := HW.out.1.below hb
    have c0 : wr.cell? ⟨g, 0, none⟩ = some (.int .i64 (N : Int)) := by rw [← HW.out.2.2.1]; exact hrd.at'.cell 0 rfl
    by_cases hlt : (j : Int) < (N : Int)
    · have K := dat_ok wr g q v hrd HW.out.2.1 (j : Int) t
      have HJ : Hid (j < N) := by show j < N; omega
      have hfr : frU v t (j + 1) = frU v t j ++ (if (atA v (j : Int) t).e = 0 then [(j : Int)] else []) := rfl
      have hlen := fr_len v t j
      have HR : Hid (Row EI wr (.slice a k c) (frU v t j) ∧ (∀ p, (Value.slice a k c).ownBlock = some p → w.heap.size ≤ p) ∧ Below w.heap.size w wr ∧ (frU v t j).length ≤ 999) := ⟨hr, ho, hb, by have := HW.out.2.2.2; omega⟩
      have HFR : Hid (frU v t (j + 1) = frU v t j ++ (if (atA v (j : Int) t).e = 0 then [(j : Int)] else [])) := hfr
      have e9 : IntKind.i64.wrap ((j : Int) + 1) = ((j + 1 : Nat) : Int) := by have := HW.out.2.2.2; rw [wrap_in (by omega) (by omega)]; omega
      generalize atA v (j : Int) t = X at *
      obtain ⟨x, y, z⟩ := X
      dsimp only at K HFR
      clear hr ho hb hfr hlen hj hrd
      go_wp2_with fail
      refine K.mono ?_
      rintro e w2 ⟨rfl, hb2⟩
      clear K c0
      go_upto_region 6 with fail
      have hb3 : Below wr.heap.size wr (w2.alloc (.cells #[.int .i64 x, .int .i64 y] 39)) := hb2.alloc hb2.size _
      have H3 : Hid (Row EI (w2.alloc (.cells #[.int .i64 x, .int .i64 y] 39)) (.slice a k c) (frU v t j) ∧ Below w.heap.size w (w2.alloc (.cells #[.int .i64 x, .int .i64 y] 39))) := ⟨HR.out.1.below hb3, HR.out.2.2.1.trans (hb3.mono HR.out.2.2.1.size)⟩
      generalize w2.alloc (.cells #[.int .i64 x, .int .i64 y] 39) = w3 at *
      generalize w2.heap.size = pq at *
      clear hb2 hb3 w2
      by_cases hz : z = 0
      · subst hz
        have hfr2 : frU v t (j + 1) = frU v t j ++ [(j : Int)] := by rw [HFR.out]; rfl
        obtain ⟨a2, k2, c2, w4, hrun, hr4, hb4, ho4⟩ := row_moreI H3.out.1 HR.out.2.2.2 H3.out.2 HR.out.2.1 (j : Int)
        rw [← hfr2] at hr4
        have HRN : Hid ((Builtin.append_ #[25, 25] 25 #[.slice a k c, .slice (some ⟨w3.heap.size, 0, none⟩) 1 1]).run Try.prog (w3.alloc (.cells #[.int .i64 (j : Int)] 3)) = .ok (.slice a2 k2 c2) w4) := hrun
        have H4 : Hid (Row EI w4 (.slice a2 k2 c2) (frU v t (j + 1)) ∧ (∀ p, (Value.slice a2 k2 c2).ownBlock = some p → w.heap.size ≤ p) ∧ Below w.heap.size w w4) := ⟨hr4, ho4, hb4⟩
        clear hfr2 hrun hr4 hb4 ho4 H3 HR HFR
        go_wp2_with (at_builtin; refine wpList_append_run rfl _ _ 25 rfl _ _ _ rfl rfl HRN.out ?_)
        go_roundw
        case rel => exact ⟨j + 1, a2, k2, c2, HJ.out, rfl, rfl, H4.out.1, H4.out.2.1, H4.out.2.2⟩
        case measure => have := HJ.out; simp [intOf]; omega
      · have H4 : Hid (Row EI w3 (.slice a k c) (frU v t (j + 1)) ∧ (∀ p, (Value.slice a k c).ownBlock = some p → w.heap.size ≤ p) ∧ Below w.heap.size w w3) := by
          refine ⟨?_, HR.out.2.1, H3.out.2⟩
          rw [HFR.out, if_neg hz, List.append_nil]; exact H3.out.1
        clear H3 HR HFR
        go_wp2
        go_roundw
        case rel => exact ⟨j + 1, a, k, c, HJ.out, rfl, rfl, H4.out.1, H4.out.2.1, H4.out.2.2⟩
        case measure => have := HJ.out; simp [intOf]; omega
    · have hjN : j = N := by omega
      rw [hjN] at hr
      have HE : Hid (Row EI wr (.slice a k c) (frU v t N) ∧ (∀ p, (Value.slice a k c).ownBlock = some p → w.heap.size ≤ p) ∧ Below w.heap.size w wr) := ⟨hr, ho, hb⟩
      clear hr ho hb hjN hj hrd
      go_wp2
      go_ret
      exact ⟨_, rfl, HE.out⟩

set_option maxHeartbeats 3200000 in
theorem doffs_ok (w : World) (g q : Nat) (v : Bt) (h : Rd w g q v) (ok : v.ok) (t : Int) :
    Calls Try.prog 23 #[.pointer (some ⟨g, 0, none⟩), .int .i64 t] w fun e w' => ∃ sl, e = .returned sl ∧ Row EV w' sl (ofU v t v.c.n.toNat) ∧ (∀ k, sl.ownBlock = some k → w.heap.size ≤ k) ∧ Below w.heap.size w w' := by
  obtain ⟨N, hN⟩ : ∃ N : Nat, v.c.n = (N : Int) := ⟨v.c.n.toNat, by have := (right_of ok.r).n0; omega⟩
  have hnt : v.c.n.toNat = N := by rw [hN]; rfl
  have hN8 : N ≤ 8 := by have := (right_of ok.r).n1; omega
  rw [hnt]
  have HW : Hid (Rd w g q v ∧ v.ok ∧ v.c.n = (N : Int) ∧ N ≤ 8) := ⟨h, ok, hN, hN8⟩
  have hbz : ∀ W, (Instr.build 39 #[]).run Try.prog W = .ok (.agg #[.int .i64 0, .int .i64 0]) W := fun W => by kernel_rfl
  clear h ok hN hnt hN8
  go_enter Try.func23, Try.ntmps23
  go_wp2
  go_loopw [5, 6] (fun u i wr => ∃ (j : Nat) (a : Option Addr) (k c : Nat), j ≤ N ∧ u = .slice a k c ∧ i = .int .i64 (j : Int) ∧ Row EV wr (.slice a k c) (ofU v t j) ∧ (∀ p, (Value.slice a k c).ownBlock = some p → w.heap.size ≤ p) ∧ Below w.heap.size w wr) (fun _ i _ => N - (intOf i).toNat)
  case atStart => exact ⟨0, none, 0, 0, Nat.zero_le _, rfl, rfl, Row.nil _ _, (fun p hp => by cases hp), Below.refl _ _⟩
  case round =>
    obtain ⟨j, a, k, c, hj, rfl, rfl, hr, ho, hb⟩ := hrel
    have hrd := HW.out.1.below hb
    have c0 : wr.cell? ⟨g, 0, none⟩ = some (.int .i64 (N : Int)) := by rw [← HW.out.2.2.1]; exact hrd.at'.cell 0 rfl
    by_cases hlt : (j : Int) < (N : Int)
    · have K := dat_ok wr g q v hrd HW.out.2.1 (j : Int) t
      have HJ : Hid (j < N) := by show j < N; omega
      have hlen := of_len v t j
      have HR : Hid (Row EV wr (.slice a k c) (ofU v t j) ∧ (∀ p, (Value.slice a k c).ownBlock = some p → w.heap.size ≤ p) ∧ Below w.heap.size w wr ∧ (ofU v t j).length ≤ 999) := ⟨hr, ho, hb, by have := HW.out.2.2.2; omega⟩
      have HFR : Hid (ofU v t (j + 1) = ofU v t j ++ (if (j : Int) = v.i then [(0, 0)] else if (atA v (j : Int) t).e = 0 then [((atA v (j : Int) t).a, (atA v (j : Int) t).b)] else [])) := rfl
      have e9 : IntKind.i64.wrap ((j : Int) + 1) = ((j + 1 : Nat) : Int) := by have := HW.out.2.2.2; rw [wrap_in (by omega) (by omega)]; omega
      generalize atA v (j : Int) t = X at *
      obtain ⟨x, y, z⟩ := X
      dsimp only at K HFR
      clear hr ho hb hlen hj hrd
      go_wp2_with fail
      refine K.mono ?_
      rintro e w2 ⟨rfl, hb2⟩
      clear K c0
      go_upto_region 6 with fail
      have hb3 : Below wr.heap.size wr (w2.alloc (.cells #[.int .i64 x, .int .i64 y] 39)) := hb2.alloc hb2.size _
      have H3 : Hid (Row EV (w2.alloc (.cells #[.int .i64 x, .int .i64 y] 39)) (.slice a k c) (ofU v t j) ∧ Below w.heap.size w (w2.alloc (.cells #[.int .i64 x, .int .i64 y] 39))) := ⟨HR.out.1.below hb3, HR.out.2.2.1.trans (hb3.mono HR.out.2.2.1.size)⟩
      have c10 := (HW.out.1.below H3.out.2).at'.cell 10 rfl
      obtain ⟨y0, y1, y2, y3⟩ := (Pair.new w2 x y).facts
      generalize w2.alloc (.cells #[.int .i64 x, .int .i64 y] 39) = w3 at *
      generalize w2.heap.size = pq at *
      obtain ⟨I, hI⟩ : ∃ I, I = v.i := ⟨_, rfl⟩
      rw [← hI] at c10 HFR
      clear hb2 hb3 w2 hI
      by_cases hji : (j : Int) = I
      · have hfr2 : ofU v t (j + 1) = ofU v t j ++ [(0, 0)] := by rw [HFR.out, if_pos hji]
        obtain ⟨a2, k2, c2, w4, hrun, hr4, hb4, ho4⟩ := row_moreV H3.out.1 HR.out.2.2.2 H3.out.2 HR.out.2.1 0 0
        rw [← hfr2] at hr4
        subst hji
        have HRN : Hid ((Builtin.append_ #[26, 26] 26 #[.slice a k c, .slice (some ⟨w3.heap.size, 0, none⟩) 1 1]).run Try.prog (w3.alloc (.cells #[.int .i64 0, .int .i64 0] 39)) = .ok (.slice a2 k2 c2) w4) := hrun
        have H4 : Hid (Row EV w4 (.slice a2 k2 c2) (ofU v t (j + 1)) ∧ (∀ p, (Value.slice a2 k2 c2).ownBlock = some p → w.heap.size ≤ p) ∧ Below w.heap.size w w4) := ⟨hr4, ho4, hb4⟩
        clear hfr2 hrun hr4 hb4 ho4 H3 HR HFR
        go_wp2_with (at_builtin; refine wpList_append_run rfl _ _ 26 rfl _ _ _ rfl rfl HRN.out ?_)
        go_roundw
        case rel => exact ⟨j + 1, a2, k2, c2, HJ.out, rfl, rfl, H4.out.1, H4.out.2.1, H4.out.2.2⟩
        case measure => have := HJ.out; simp [intOf]; omega
      · by_cases hz : z = 0
        · subst hz
          have hfr2 : ofU v t (j + 1) = ofU v t j ++ [(x, y)] := by rw [HFR.out, if_neg hji]; rfl
          obtain ⟨a2, k2, c2, w4, hrun, hr4, hb4, ho4⟩ := row_moreV H3.out.1 HR.out.2.2.2 H3.out.2 HR.out.2.1 x y
          rw [← hfr2] at hr4
          have HRN : Hid ((Builtin.append_ #[26, 26] 26 #[.slice a k c, .slice (some ⟨w3.heap.size, 0, none⟩) 1 1]).run Try.prog (w3.alloc (.cells #[.int .i64 x, .int .i64 y] 39)) = .ok (.slice a2 k2 c2) w4) := hrun
          have H4 : Hid (Row EV w4 (.slice a2 k2 c2) (ofU v t (j + 1)) ∧ (∀ p, (Value.slice a2 k2 c2).ownBlock = some p → w.heap.size ≤ p) ∧ Below w.heap.size w w4) := ⟨hr4, ho4, hb4⟩
          clear hfr2 hrun hr4 hb4 ho4 H3 HR HFR
          go_wp2_with (at_builtin; refine wpList_append_run rfl _ _ 26 rfl _ _ _ rfl rfl HRN.out ?_)
          go_roundw
          case rel => exact ⟨j + 1, a2, k2, c2, HJ.out, rfl, rfl, H4.out.1, H4.out.2.1, H4.out.2.2⟩
          case measure => have := HJ.out; simp [intOf]; omega
        · have H4 : Hid (Row EV w3 (.slice a k c) (ofU v t (j + 1)) ∧ (∀ p, (Value.slice a k c).ownBlock = some p → w.heap.size ≤ p) ∧ Below w.heap.size w w3) := by
            refine ⟨?_, HR.out.2.1, H3.out.2⟩
            rw [HFR.out, if_neg hji, if_neg hz, List.append_nil]; exact H3.out.1
          clear H3 HR HFR y0 y1 y2 y3
          go_wp2
          go_roundw
          case rel => exact ⟨j + 1, a, k, c, HJ.out, rfl, rfl, H4.out.1, H4.out.2.1, H4.out.2.2⟩
          case measure => have := HJ.out; simp [intOf]; omega
    · have hjN : j = N := by omega
      rw [hjN] at hr
      have HE : Hid (Row EV wr (.slice a k c) (ofU v t N) ∧ (∀ p, (Value.slice a k c).ownBlock = some p → w.heap.size ≤ p) ∧ Below w.heap.size w wr) := ⟨hr, ho, hb⟩
      clear hr ho hb hjN hj hrd
      go_wp2
      go_ret
      exact ⟨_, rfl, HE.out⟩

theorem neR_in (v : Bt) (t : Int) : ∀ j : Nat, 1 ≤ neR v t j ∧ neR v t j ≤ j + 1
  | 0 => by simp [neR]
  | j + 1 => by
    have ih := neR_in v t j
    have hc : ((j + 1 : Nat) : Int) = (j : Int) + 1 := by omega
    rw [neR, hc]
    split <;> omega
theorem neU_neR {v : Bt} (ok : v.ok) (t : Int) : neU v t v.c.n.toNat = neR v t v.c.n.toNat := by
  have h := ne_same ok.i0 t v.c.n.toNat
  have h1 := ok.i1
  have h0 := ok.i0
  rw [if_pos (by omega), Int.add_zero] at h
  exact h

set_option maxHeartbeats 3200000 in
theorem dnear_ok (w : World) (g q : Nat) (v : Bt) (h : Rd w g q v) (ok : v.ok) (t : Int) :
    Calls Try.prog 19 #[.pointer (some ⟨g, 0, none⟩), .int .i64 t] w fun e w' => e = .returned (.int .i64 (neU v t v.c.n.toNat)) ∧ Below w.heap.size w w' := by
  rw [neU_neR ok]
  obtain ⟨N, hN⟩ : ∃ N : Nat, v.c.n = (N : Int) := ⟨v.c.n.toNat, by have := (right_of ok.r).n0; omega⟩
  have hnt : v.c.n.toNat = N := by rw [hN]; rfl
  have hN8 : N ≤ 8 := by have := (right_of ok.r).n1; omega
  have hE : v.c.e ≤ 9223372036854775807 := by have h1 := (right_of ok.r).e1; have h2 := (right_of ok.r).s1; omega
  rw [hnt]
  have HW : Hid (Rd w g q v ∧ v.ok ∧ v.c.n = (N : Int) ∧ N ≤ 8 ∧ v.c.e ≤ 9223372036854775807) := ⟨h, ok, hN, hN8, hE⟩
  clear h ok hN hnt hN8 hE
  go_enter Try.func19, Try.ntmps19
  go_wp2
  go_loopw [5, 6] (fun u i wr => ∃ (j : Nat), j ≤ N ∧ u = .int .i64 (neR v t j) ∧ i = .int .i64 (j : Int) ∧ Below w.heap.size w wr) (fun _ i _ => N - (intOf i).toNat)
  case atStart => exact ⟨0, Nat.zero_le _, rfl, rfl, Below.refl _ _⟩
  case round =>
    obtain ⟨j, hj, rfl, rfl, hb⟩ := hrel
    have hrd := HW.out.1.below hb
    have c0 : wr.cell? ⟨g, 0, none⟩ = some (.int .i64 (N : Int)) := by rw [← HW.out.2.2.1]; exact hrd.at'.cell 0 rfl
    have hin := neR_in v t j
    have HB : Hid (Below w.heap.size w wr) := hb
    by_cases hlt : (j : Int) < (N : Int)
    · have K := dat_ok wr g q v hrd HW.out.2.1 (j : Int) t
      have HJ : Hid (j < N) := by show j < N; omega
      have HFR : Hid (neR v t (j + 1) = neR v t j + (if (atA v (j : Int) t).e = 0 ∧ insideB (atA v (j : Int) t).a (atA v (j : Int) t).b v.c.e = true then 1 else 0)) := rfl
      have KI : Hid (∀ W, Calls Try.prog 42 #[.agg #[.int .i64 (atA v (j : Int) t).a, .int .i64 (atA v (j : Int) t).b], .int .i64 v.c.e] W fun e w' => e = .returned (.bool (insideB (atA v (j : Int) t).a (atA v (j : Int) t).b v.c.e)) ∧ Below W.heap.size W w') := fun W => refinside_ok W _ _ _ HW.out.2.2.2.2
      have e9 : IntKind.i64.wrap ((j : Int) + 1) = ((j + 1 : Nat) : Int) := by have := HW.out.2.2.2.1; rw [wrap_in (by omega) (by omega)]; omega
      obtain ⟨C, hC⟩ : ∃ C, C = neR v t j := ⟨_, rfl⟩
      obtain ⟨C2, hC2⟩ : ∃ C2, C2 = C + 1 := ⟨_, rfl⟩
      have e8 : IntKind.i64.wrap (C + 1) = C2 := by have := HW.out.2.2.2.1; rw [hC2]; exact wrap_in (by omega) (by omega)
      have HC2 : Hid (C2 = C + 1) := hC2
      rw [← hC]
      rw [← hC] at HFR
      generalize atA v (j : Int) t = X at *
      obtain ⟨x, y, z⟩ := X
      dsimp only at K HFR KI
      obtain ⟨E, hE⟩ : ∃ E, E = v.c.e := ⟨_, rfl⟩
      have HEq : Hid (E = v.c.e) := hE
      rw [← hE] at HFR KI
      generalize insideB x y E = bi at *
      clear hb hj hrd hin hC hC2 hE
      go_wp2_with fail
      refine K.mono ?_
      rintro e w2 ⟨rfl, hb2⟩
      clear K c0
      go_upto_region 6 with fail
      have hb3 : Below wr.heap.size wr (w2.alloc (.cells #[.int .i64 x, .int .i64 y] 39)) := hb2.alloc hb2.size _
      have H3 : Hid (Pair (w2.alloc (.cells #[.int .i64 x, .int .i64 y] 39)) w2.heap.size x y ∧ Below w.heap.size w (w2.alloc (.cells #[.int .i64 x, .int .i64 y] 39))) := ⟨Pair.new _ _ _, HB.out.trans (hb3.mono HB.out.size)⟩
      generalize w2.alloc (.cells #[.int .i64 x, .int .i64 y] 39) = w3 at *
      generalize w2.heap.size = pq at *
      clear hb2 hb3 w2 HB
      have HQ : Hid (∀ V, Below w3.heap.size w3 V → (V.cell? ⟨pq, 0, none⟩ = some (.int .i64 x) ∧ V.cell? ⟨pq, 1, none⟩ = some (.int .i64 y) ∧ V.cell? ⟨g, 5, none⟩ = some (.int .i64 E)) ∧ Below w.heap.size w V) := fun V hV => by
        have hbV := H3.out.2.trans (hV.mono H3.out.2.size)
        have hP := H3.out.1.below hV
        exact ⟨⟨hP.c0, hP.c1, by rw [HEq.out]; exact (HW.out.1.below hbV).at'.cell 5 rfl⟩, hbV⟩
      have hS0 := HQ.out w3.drew (Below.refl _ _).drew
      have HD : Hid (Below w3.heap.size w3 w3.drew) := (Below.refl _ _).drew
      clear H3
      by_cases hz : z = 0
      · subst hz
        refine wp_region_noPanic ?_
        refine wp_region_held (S := fun V => (V.cell? ⟨pq, 0, none⟩ = some (.int .i64 x) ∧ V.cell? ⟨pq, 1, none⟩ = some (.int .i64 y) ∧ V.cell? ⟨g, 5, none⟩ = some (.int .i64 E)) ∧ Below w.heap.size w V) (by kernel_rfl) ?_
        have hS := hS0
        refine any_take 0 ?vyan1 rfl (by kernel_rfl) (by kernel_rfl) (by kernel_rfl) (fun _ _ _ h => h) (by rfl) ?hyan1 hS ?_
        case hyan1 => (intro w hSw; (try dsimp only at hSw); go_split_ands; go_simp; (try with_reducible rfl))
        (try simp only [Act.put, List.setIfInBounds_toArray, List.set_cons_zero, List.set_cons_succ])
        refine any_take 1 ?vyan2 rfl (by kernel_rfl) (by kernel_rfl) (by kernel_rfl) (fun _ _ _ h => h) (by rfl) ?hyan2 hS ?_
        case hyan2 => (intro w hSw; (try dsimp only at hSw); go_split_ands; go_simp; (try with_reducible rfl))
        (try simp only [Act.put, List.setIfInBounds_toArray, List.set_cons_zero, List.set_cons_succ])
        refine any_take 2 ?vyan3 rfl (by kernel_rfl) (by kernel_rfl) (by kernel_rfl) (fun _ _ _ h => h) (by rfl) ?hyan3 hS ?_
        case hyan3 => (intro w hSw; (try dsimp only at hSw); go_split_ands; go_simp; (try with_reducible rfl))
        (try simp only [Act.put, List.setIfInBounds_toArray, List.set_cons_zero, List.set_cons_succ])
        refine any_take 3 ?vyan4 rfl (by kernel_rfl) (by kernel_rfl) (by kernel_rfl) (fun _ _ _ h => h) (by rfl) ?hyan4 hS ?_
        case hyan4 => (intro w hSw; (try dsimp only at hSw); go_split_ands; go_simp; (try with_reducible rfl))
        (try simp only [Act.put, List.setIfInBounds_toArray, List.set_cons_zero, List.set_cons_succ])
        refine any_take 4 ?vyan5 rfl (by kernel_rfl) (by kernel_rfl) (by kernel_rfl) (fun _ _ _ h => h) (by rfl) ?hyan5 hS ?_
        case hyan5 => (intro w hSw; (try dsimp only at hSw); go_split_ands; go_simp; (try with_reducible rfl))
        (try simp only [Act.put, List.setIfInBounds_toArray, List.set_cons_zero, List.set_cons_succ])
        refine any_take 5 ?vyan6 rfl (by kernel_rfl) (by kernel_rfl) (by kernel_rfl) (fun _ _ _ h => h) (by rfl) ?hyan6 hS ?_
        case hyan6 => (intro w hSw; (try dsimp only at hSw); go_split_ands; go_simp; (try with_reducible rfl))
        (try simp only [Act.put, List.setIfInBounds_toArray, List.set_cons_zero, List.set_cons_succ])
        refine any_take 6 ?vyan7 rfl (by kernel_rfl) (by kernel_rfl) (by kernel_rfl) (fun _ _ _ h => h) (by rfl) ?hyan7 hS ?_
        case hyan7 => (intro w hSw; (try dsimp only at hSw); go_split_ands; go_simp; (try with_reducible rfl))
        (try simp only [Act.put, List.setIfInBounds_toArray, List.set_cons_zero, List.set_cons_succ])
        refine any_take 7 ?vyan8 rfl (by kernel_rfl) (by kernel_rfl) (by kernel_rfl) (fun _ _ _ h => h) (by rfl) ?hyan8 hS ?_
        case hyan8 => (intro w hSw; (try dsimp only at hSw); go_split_ands; go_simp; (try with_reducible rfl))
        (try simp only [Act.put, List.setIfInBounds_toArray, List.set_cons_zero, List.set_cons_succ])
        refine any_take 8 ?vyan9 rfl (by kernel_rfl) (by kernel_rfl) (by kernel_rfl) (fun _ _ _ h => h) (by rfl) ?hyan9 hS ?_
        case hyan9 => (intro w hSw; (try dsimp only at hSw); go_split_ands; go_simp; (try with_reducible rfl))
        (try simp only [Act.put, List.setIfInBounds_toArray, List.set_cons_zero, List.set_cons_succ])
        refine any_one 9 rfl (by kernel_rfl) (by rfl) (fun K hK => ?_)
        clear hS
        go_simp
        refine (KI.out _).mono ?_
        rintro ev wc ⟨rfl, hbc⟩
        have hQ2 := HQ.out wc (HD.out.trans (hbc.mono HD.out.size))
        refine hK.out _ _ (hQ2) (fun hS => ?_)
        clear hK
        (try simp only [Act.put, List.setIfInBounds_toArray, List.set_cons_zero, List.set_cons_succ])
        refine any_take 10 ?vyan10 rfl (by kernel_rfl) (by kernel_rfl) (by kernel_rfl) (fun _ _ _ h => h) (by rfl) ?hyan10 hS ?_
        case hyan10 => (intro w hSw; (try dsimp only at hSw); go_split_ands; go_simp; (try with_reducible rfl))
        (try simp only [Act.put, List.setIfInBounds_toArray, List.set_cons_zero, List.set_cons_succ])
        refine wpAnyH_done (by kernel_rfl) ?_ _
        refine NoPanic.normal ?_
        have HBN : Hid (Below w.heap.size w wc) := hQ2.2
        clear hS hS0 hbc hQ2 HQ HD KI
        cases bi
        · have HE : Hid (neR v t (j + 1) = C) := by show neR v t (j + 1) = C; rw [HFR.out]; simp
          clear HFR
          go_wp2
          go_roundw
          case rel => exact ⟨j + 1, HJ.out, by rw [HE.out], rfl, HBN.out⟩
          case measure => have := HJ.out; simp [intOf]; omega
        · have HE : Hid (neR v t (j + 1) = C2) := by show neR v t (j + 1) = C2; rw [HFR.out, HC2.out]; simp
          clear HFR
          go_wp2
          go_roundw
          case rel => exact ⟨j + 1, HJ.out, by rw [HE.out], rfl, HBN.out⟩
          case measure => have := HJ.out; simp [intOf]; omega
      · have HE : Hid (neR v t (j + 1) = C) := by show neR v t (j + 1) = C; rw [HFR.out, if_neg (fun h => hz h.1), Int.add_zero]
        clear HFR KI
        have hzb : (z == 0) = false := by simpa using hz
        refine wp_region_noPanic ?_
        refine wp_region_held (S := fun V => (V.cell? ⟨pq, 0, none⟩ = some (.int .i64 x) ∧ V.cell? ⟨pq, 1, none⟩ = some (.int .i64 y) ∧ V.cell? ⟨g, 5, none⟩ = some (.int .i64 E)) ∧ Below w.heap.size w V) (by kernel_rfl) ?_
        have hS := hS0
        refine any_take 0 ?vnan1 rfl (by kernel_rfl) (by kernel_rfl) (by kernel_rfl) (fun _ _ _ h => h) (by rfl) ?hnan1 hS ?_
        case hnan1 => (intro w hSw; (try dsimp only at hSw); go_split_ands; go_simp; (try with_reducible rfl))
        (try simp only [Act.put, List.setIfInBounds_toArray, List.set_cons_zero, List.set_cons_succ])
        refine any_take 1 (Value.bool false) rfl (by kernel_rfl) (by kernel_rfl) (by kernel_rfl) (fun _ _ _ h => h) (by rfl) (by intro w hSw; (try dsimp only at hSw); go_split_ands; go_simp) hS ?_
        (try simp only [Act.put, List.setIfInBounds_toArray, List.set_cons_zero, List.set_cons_succ])
        refine any_take 2 ?vnan2 rfl (by kernel_rfl) (by kernel_rfl) (by kernel_rfl) (fun _ _ _ h => h) (by rfl) ?hnan2 hS ?_
        case hnan2 => (intro w hSw; (try dsimp only at hSw); go_split_ands; go_simp; (try with_reducible rfl))
        (try simp only [Act.put, List.setIfInBounds_toArray, List.set_cons_zero, List.set_cons_succ])
        refine any_skip 3 rfl (by kernel_rfl) (by kernel_rfl) (by kernel_rfl) (fun _ _ _ h => h) (by rfl) hS ?_
        (try simp only [Act.put, List.setIfInBounds_toArray, List.set_cons_zero, List.set_cons_succ])
        refine any_skip 4 rfl (by kernel_rfl) (by kernel_rfl) (by kernel_rfl) (fun _ _ _ h => h) (by rfl) hS ?_
        (try simp only [Act.put, List.setIfInBounds_toArray, List.set_cons_zero, List.set_cons_succ])
        refine any_skip 5 rfl (by kernel_rfl) (by kernel_rfl) (by kernel_rfl) (fun _ _ _ h => h) (by rfl) hS ?_
        (try simp only [Act.put, List.setIfInBounds_toArray, List.set_cons_zero, List.set_cons_succ])
        refine any_skip 6 rfl (by kernel_rfl) (by kernel_rfl) (by kernel_rfl) (fun _ _ _ h => h) (by rfl) hS ?_
        (try simp only [Act.put, List.setIfInBounds_toArray, List.set_cons_zero, List.set_cons_succ])
        refine any_skip 7 rfl (by kernel_rfl) (by kernel_rfl) (by kernel_rfl) (fun _ _ _ h => h) (by rfl) hS ?_
        (try simp only [Act.put, List.setIfInBounds_toArray, List.set_cons_zero, List.set_cons_succ])
        refine any_skip 8 rfl (by kernel_rfl) (by kernel_rfl) (by kernel_rfl) (fun _ _ _ h => h) (by rfl) hS ?_
        (try simp only [Act.put, List.setIfInBounds_toArray, List.set_cons_zero, List.set_cons_succ])
        refine any_skip 9 rfl (by kernel_rfl) (by kernel_rfl) (by kernel_rfl) (fun _ _ _ h => h) (by rfl) hS ?_
        (try simp only [Act.put, List.setIfInBounds_toArray, List.set_cons_zero, List.set_cons_succ])
        refine any_take 10 ?vnan3 rfl (by kernel_rfl) (by kernel_rfl) (by kernel_rfl) (fun _ _ _ h => h) (by rfl) ?hnan3 hS ?_
        case hnan3 => (intro w hSw; (try dsimp only at hSw); go_split_ands; go_simp; (try with_reducible rfl))
        (try simp only [Act.put, List.setIfInBounds_toArray, List.set_cons_zero, List.set_cons_succ])
        refine wpAnyH_done (by kernel_rfl) ?_ _
        refine NoPanic.normal ?_
        obtain ⟨W2, hW2⟩ : ∃ W2, W2 = w3.drew := ⟨_, rfl⟩
        rw [show ({ heap := w3.heap, tape := w3.tape, drawn := w3.drawn + 1, os := w3.os, output := w3.output } : World) = W2 from hW2.symm]
        have HBN : Hid (Below w.heap.size w W2) := by rw [hW2]; exact hS0.2
        clear hS hS0 hW2 HQ HD
        go_wp2
        go_roundw
        case rel => exact ⟨j + 1, HJ.out, by rw [HE.out], rfl, HBN.out⟩
        case measure => have := HJ.out; simp [intOf]; omega
    · have hjN : j = N := by omega
      subst hjN
      clear hb hj hrd hin
      go_wp2
      go_ret
      exact ⟨rfl, HB.out⟩
end Go.Proofs.Ytoibndfiolipbaa
