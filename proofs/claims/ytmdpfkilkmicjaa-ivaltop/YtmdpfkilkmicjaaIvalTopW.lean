/-
  The walk of IvalTop, out of the contracts.
-/
import Derived.Test.YtmdpfkilkmicjaaMostP
import Derived.Test.YtmdpfkilkmicjaaIvalMakesW
namespace Go.Proofs.Ytmdpfkilkmicjaa
open Go.ChangeShapes Go.WideShapes Go.ChangeAt Go.RowKit

/-- What lies in memory between two rounds: what Most has told. -/
def TopM (w : World) (g : Nat) (lo hi : Int) (W : World) : Prop := Below w.heap.size w W ∧ Pair W g lo hi
theorem TopM.below {w W W' : World} {g : Nat} {lo hi : Int} (h : TopM w g lo hi W) (hb : Below W.heap.size W W') : TopM w g lo hi W' := ⟨h.1.trans (hb.mono h.1.size), h.2.below hb⟩
/-- .. and within a round: the element, too. -/
def TopS (w : World) (g : Nat) (lo hi : Int) (b o : Nat) (x y : Int) (W : World) : Prop :=
  (W.cell? ⟨b, o, none⟩ = some (.int .i64 x) ∧ W.cell? ⟨b, o + 1, none⟩ = some (.int .i64 y) ∧ W.cell? ⟨g, 0, none⟩ = some (.int .i64 lo)) ∧ TopM w g lo hi W
theorem TopS.below {w W W' : World} {g b o : Nat} {lo hi x y : Int} (h : TopS w g lo hi b o x y W) (hb : Below W.heap.size W W') : TopS w g lo hi b o x y W' := by
  obtain ⟨⟨h1, h2, h3⟩, h4⟩ := h
  have h5 := h4.below hb
  exact ⟨⟨by rw [hb.cell (p := ⟨b, o, none⟩) (World.block_lt_of_cell? W _ h1), h1], by rw [hb.cell (p := ⟨b, o + 1, none⟩) (World.block_lt_of_cell? W _ h2), h2], h5.2.c0⟩, h5⟩
theorem TopS.drew {w W : World} {g b o : Nat} {lo hi x y : Int} (h : TopS w g lo hi b o x y W) : TopS w g lo hi b o x y W.drew := ⟨h.1, h.2.1.drew, h.2.2⟩

theorem any_snoc (L : List (Int × Int)) (j : Nat) (x : Int × Int) (hx : L[j]? = some x) : (L.take (j + 1)).any (fun x => rightB x.1 x.2) = ((L.take j).any (fun x => rightB x.1 x.2) || rightB x.1 x.2) := by
  rw [List.take_add_one, hx, List.any_append]
  simp

/-- One more, or as many. -/
theorem step_cnt {L : List (Int × Int)} {j : Nat} {x : Int × Int} (hx : L[j]? = some x) (hl : L.length ≤ 200) (n : Int) :
    (holdsB x.1 x.2 n = true ∧ IntKind.i64.wrap (cntN (L.take j) n + 1) = cntN (L.take (j + 1)) n) ∨ (holdsB x.1 x.2 n = false ∧ cntN (L.take (j + 1)) n = cntN (L.take j) n) := by
  have h1 := cntN_snoc L j x hx n
  have h2 := cntN_nonneg (L.take j) n
  have h3 := cntN_le (L.take j) n
  have h4 : (L.take j).length ≤ L.length := by simp; omega
  cases hh : holdsB x.1 x.2 n
  · rw [hh, if_neg (by simp)] at h1
    exact .inr ⟨rfl, by omega⟩
  · rw [hh, if_pos rfl] at h1
    exact .inl ⟨rfl, by rw [h1, IntKind.wrap_i64]; omega⟩

set_option maxHeartbeats 6400000 in
set_option maxRecDepth 20000 in
theorem top_walk (a : Option Addr) (ca : Nat) (L : List (Int × Int)) (v : Int) (w : World) (hs : Ivals w a ca L) : Calls Try.prog 8 #[.slice a L.length ca, .int .i64 v] w fun e w' => e = .returned (.bool true) ∧ Below w.heap.size w w' := by
  have H9 : Hid (∀ W, Calls Try.prog 25 #[] W fun e w' => e = .returned (.bool true) ∧ Below W.heap.size W w') := awake_ok
  have hlen := hs.len
  by_cases hl : 200 < L.length
  · have g1 : (200 : Int) < (L.length : Int) := by omega
    clear hs
    go_enter Try.func8, Try.ntmps8
    go_wp2_with fail
    refine (H9.out _).mono ?_
    rintro e w1 ⟨rfl, hb⟩
    go_wp2
    go_ret
    exact ⟨rfl, hb⟩
  · have g1 : ¬ (200 : Int) < (L.length : Int) := by omega
    have K1 := mostp_ok w a ca L hs (by omega)
    have HS : Hid (∀ W, Below w.heap.size w W → Ivals W a ca L) := fun W hb => hs.below hb
    have HR : Hid (∀ W x y, Calls Try.prog 19 #[.agg #[.int .i64 x, .int .i64 y]] W fun e w' => e = .returned (.bool (rightB x y)) ∧ Below W.heap.size W w') := fun W x y => isright_ok W x y
    have HH : Hid (∀ W x y n, Calls Try.prog 21 #[.agg #[.int .i64 x, .int .i64 y], .int .i64 n] W fun e w' => e = .returned (.bool (holdsB x y n)) ∧ Below W.heap.size W w') := fun W x y n => holds_ok W x y n
    clear hs
    go_enter Try.func8, Try.ntmps8
    go_wp2_with fail
    refine K1.mono ?_
    rintro e w1 ⟨lo, hi, n, rfl, hM, hb⟩
    have HM : Hid (MostIs L lo hi n) := hM
    have HT : Hid (TopM w w1.heap.size lo hi (w1.alloc (.cells #[.int .i64 lo, .int .i64 hi] 23))) := ⟨hb.alloc hb.size _, Pair.new w1 lo hi⟩
    clear K1 hb hM
    go_wp2
    go_loopw [7, 8, 9, 10] (fun s t u z wr => ∃ j : Nat, j ≤ L.length ∧ s = .bool ((L.take j).any (fun x => rightB x.1 x.2)) ∧ t = .int .i64 (cntN (L.take j) lo) ∧ u = .int .i64 (cntN (L.take j) v) ∧ z = .int .i64 (j : Int) ∧ TopM w w1.heap.size lo hi wr) (fun _ _ _ z _ => L.length - (intOf z).toNat)
    case atStart => exact ⟨0, Nat.zero_le _, rfl, rfl, rfl, rfl, HT.out⟩
    case round =>
      obtain ⟨j, hj, rfl, rfl, rfl, rfl, hT⟩ := hrel
      have HT2 : Hid (TopM w w1.heap.size lo hi wr) := hT
      clear hT HT
      by_cases hlt : j < L.length
      · obtain ⟨x, hx⟩ : ∃ x, L[j]? = some x := ⟨L[j], by simp [hlt]⟩
        obtain ⟨b1, o1, ha, hc1, hc2⟩ := (HS.out _ HT2.out.1).get hx
        have hA := step_cnt hx (by omega) lo
        have hB := step_cnt hx (by omega) v
        have hN := any_snoc L j x hx
        subst ha
        obtain ⟨x1, x2⟩ := x
        simp only [] at hc1 hc2 hA hB hN
        have HV0 : Hid (TopS w w1.heap.size lo hi b1 (o1 + j * 2) x1 x2 wr) := ⟨⟨hc1, hc2, HT2.out.2.c0⟩, HT2.out⟩
        have HX : Hid (∀ W, Calls Try.prog 19 #[.agg #[.int .i64 x1, .int .i64 x2]] W fun e w' => e = .returned (.bool (rightB x1 x2)) ∧ Below W.heap.size W w') := fun W => HR.out W x1 x2
        have HY1 : Hid (∀ W, Calls Try.prog 21 #[.agg #[.int .i64 x1, .int .i64 x2], .int .i64 lo] W fun e w' => e = .returned (.bool (holdsB x1 x2 lo)) ∧ Below W.heap.size W w') := fun W => HH.out W x1 x2 lo
        have HY2 : Hid (∀ W, Calls Try.prog 21 #[.agg #[.int .i64 x1, .int .i64 x2], .int .i64 v] W fun e w' => e = .returned (.bool (holdsB x1 x2 v)) ∧ Below W.heap.size W w') := fun W => HH.out W x1 x2 v
        obtain ⟨A2, hA2⟩ : ∃ A, A = cntN (L.take (j + 1)) lo := ⟨_, rfl⟩
        obtain ⟨B2, hB2⟩ : ∃ A, A = cntN (L.take (j + 1)) v := ⟨_, rfl⟩
        obtain ⟨N2, hN2⟩ : ∃ A, A = (L.take (j + 1)).any (fun x => rightB x.1 x.2) := ⟨_, rfl⟩
        have HA2 : Hid (A2 = cntN (L.take (j + 1)) lo) := hA2
        have HB2 : Hid (B2 = cntN (L.take (j + 1)) v) := hB2
        have HN : Hid (N2 = (L.take (j + 1)).any (fun x => rightB x.1 x.2)) := hN2
        rw [← hA2] at hA
        rw [← hB2] at hB
        rw [← hN2] at hN
        generalize cntN (L.take j) lo = A at *
        generalize cntN (L.take j) v = B at *
        generalize (L.take j).any (fun x => rightB x.1 x.2) = N at *
        generalize rightB x1 x2 = r at *
        generalize holdsB x1 x2 lo = h1 at *
        generalize holdsB x1 x2 v = h2 at *
        have g2 : (j : Int) < (L.length : Int) := by omega
        have g3 : (0 : Int) ≤ (j : Int) := Int.natCast_nonneg _
        have HJ : Hid (j < L.length) := hlt
        clear hx hlt hA2 hB2 hN2 HM HS HR HH HT2
        cases N
        · rw [Bool.false_or] at hN
          subst hN
          go_wp2_with fail
          refine (HX.out _).mono ?_
          rintro e w2 ⟨rfl, hb⟩
          have HV : Hid (TopS w w1.heap.size lo hi b1 (o1 + j * 2) x1 x2 w2) := HV0.out.below hb
          clear HX hb hc1 hc2 HV0
          rcases hA with ⟨rfl, hA⟩ | ⟨rfl, rfl⟩ <;> rcases hB with ⟨rfl, hB⟩ | ⟨rfl, rfl⟩
          all_goals
            go_wp2
            go_region_held3 (fun W => (W.cell? ⟨b1, o1 + j * 2, none⟩ = some (.int .i64 x1) ∧ W.cell? ⟨b1, o1 + j * 2 + 1, none⟩ = some (.int .i64 x2) ∧ W.cell? ⟨w1.heap.size, 0, none⟩ = some (.int .i64 lo)) ∧ TopM w w1.heap.size lo hi W)
              (first | exact HV.out | assumption | exact HV.out.drew | exact TopS.drew (by assumption) | exact TopS.below (by assumption) (by assumption))
              (first | (go_at_call 21; refine (HY1.out _).mono ?_; rintro e w9 ⟨rfl, hb9⟩))
            rename_i hh
            have HV2 : Hid (TopS w w1.heap.size lo hi b1 (o1 + j * 2) x1 x2 _) := hh
            obtain ⟨⟨q0, q1, _⟩, _⟩ := HV2.out
            clear HV HY1 hh hb9
            go_wp2_with fail
            refine (HY2.out _).mono ?_
            rintro e w4 ⟨rfl, hb⟩
            have HV3 : Hid (TopM w w1.heap.size lo hi w4) := HV2.out.2.below hb
            clear HY2 HV2 hb q0 q1
            go_wp2
            go_roundw
            case rel => exact ⟨j + 1, HJ.out, by rw [HN.out], by rw [HA2.out], by rw [HB2.out], by first | go_num | (congr 1; omega), HV3.out⟩
            case measure => have := HJ.out; simp [intOf]; omega
        · rw [Bool.true_or] at hN
          subst hN
          have HV : Hid (TopS w w1.heap.size lo hi b1 (o1 + j * 2) x1 x2 wr) := HV0.out
          clear HX hc1 hc2 HV0
          rcases hA with ⟨rfl, hA⟩ | ⟨rfl, rfl⟩ <;> rcases hB with ⟨rfl, hB⟩ | ⟨rfl, rfl⟩
          all_goals
            go_wp2
            go_region_held3 (fun W => (W.cell? ⟨b1, o1 + j * 2, none⟩ = some (.int .i64 x1) ∧ W.cell? ⟨b1, o1 + j * 2 + 1, none⟩ = some (.int .i64 x2) ∧ W.cell? ⟨w1.heap.size, 0, none⟩ = some (.int .i64 lo)) ∧ TopM w w1.heap.size lo hi W)
              (first | exact HV.out | assumption | exact HV.out.drew | exact TopS.drew (by assumption) | exact TopS.below (by assumption) (by assumption))
              (first | (go_at_call 21; refine (HY1.out _).mono ?_; rintro e w9 ⟨rfl, hb9⟩))
            rename_i hh
            have HV2 : Hid (TopS w w1.heap.size lo hi b1 (o1 + j * 2) x1 x2 _) := hh
            obtain ⟨⟨q0, q1, _⟩, _⟩ := HV2.out
            clear HV HY1 hh hb9
            go_wp2_with fail
            refine (HY2.out _).mono ?_
            rintro e w4 ⟨rfl, hb⟩
            have HV3 : Hid (TopM w w1.heap.size lo hi w4) := HV2.out.2.below hb
            clear HY2 HV2 hb q0 q1
            go_wp2
            go_roundw
            case rel => exact ⟨j + 1, HJ.out, by rw [HN.out], by rw [HA2.out], by rw [HB2.out], by first | go_num | (congr 1; omega), HV3.out⟩
            case measure => have := HJ.out; simp [intOf]; omega
      · have hjl : j = L.length := by omega
        rw [show L.take j = L by rw [hjl]; exact List.take_of_length_le (Nat.le_refl _)]
        rw [most_some HM.out]
        have hv := HM.out.1 v
        have hcs : (n = 0 ∧ (0 < n) = False) ∨ (0 < n ∧ cntN L lo = n) := by
          rcases HM.out.2 with h | h
          · exact .inl ⟨h.1, by simp [h.1]⟩
          · exact .inr ⟨h.1, h.2.1⟩
        have bel := HT2.out.1
        generalize cntN L v = B at *
        generalize cntN L lo = A at *
        clear HM HS HR HH HT2
        rcases hcs with ⟨rfl, h0⟩ | ⟨h0, rfl⟩
        · simp only [Int.lt_irrefl, decide_false]
          clear h0
          go_wp2_with fail
          refine (H9.out _).mono ?_
          rintro e w2 ⟨rfl, hb⟩
          go_wp2
          go_ret
          exact ⟨by first | rfl | simp, bel.trans (hb.mono bel.size)⟩
        · simp only [h0, decide_true]
          go_wp2_with fail
          refine (H9.out _).mono ?_
          rintro e w2 ⟨rfl, hb⟩
          go_wp2
          go_ret
          exact ⟨by first | rfl | simp, bel.trans (hb.mono bel.size)⟩
end Go.Proofs.Ytmdpfkilkmicjaa
