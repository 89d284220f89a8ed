/-
  The contracts of cmp.Compare, of the closure that orders two banks, and of slices.MaxFunc on one or two of them.

  The contract of newest.
-/
import Derived.Test.YtjmbioedpghopaaBankC
namespace Go.Proofs.Ytjmbioedpghopaa
open Go.ChangeShapes Go.WideShapes Go.ChangeAt Go.RowKit

theorem nan_ok (w : World) (a : Int) : Calls Try.prog 82 #[.int .u32 a] w fun e w' => e = .returned (.bool false) ∧ w' = w := by
  go_enter Try.func82, Try.ntmps82
  go_wp2
  go_ret
  exact ⟨by first | rfl | simp, rfl⟩
/-- What Compare tells. -/
def cmpN (a b : Nat) : Int := if a < b then -1 else if b < a then 1 else 0
theorem compare_ok (w : World) (a b : Nat) : Calls Try.prog 77 #[.int .u32 (a : Int), .int .u32 (b : Int)] w fun e w' => e = .returned (.int .i64 (cmpN a b)) ∧ w' = w := by
  have k1 := nan_ok w a
  have k2 := nan_ok w b
  have h : (a < b ∧ cmpN a b = -1) ∨ (¬ a < b ∧ b < a ∧ cmpN a b = 1) ∨ (¬ a < b ∧ ¬ b < a ∧ cmpN a b = 0) := by
    unfold cmpN; split
    · exact .inl ⟨by assumption, rfl⟩
    · split
      · exact .inr (.inl ⟨by assumption, by assumption, rfl⟩)
      · exact .inr (.inr ⟨by assumption, by assumption, rfl⟩)
  rcases h with ⟨h1, h2⟩ | ⟨h1, h2, h3⟩ | ⟨h1, h2, h3⟩
  all_goals
    first | rw [h2] | rw [h3]
    go_enter Try.func77, Try.ntmps77
    go_wp2_with fail
    refine k1.mono ?_
    rintro e w1 ⟨rfl, rfl⟩
    clear k1
    go_wp2_with fail
    refine k2.mono ?_
    rintro e w1 ⟨rfl, rfl⟩
    clear k2
    go_wp2
    go_ret
    exact ⟨by first | rfl | simp, rfl⟩

/-- Two boxes behind w. -/
def Twos (w : World) (x y : Value) (W : World) : Prop := (W.cell? ⟨w.heap.size, 0, none⟩ = some x ∧ W.cell? ⟨w.heap.size + 1, 0, none⟩ = some y) ∧ w.heap.size + 1 < W.heap.size ∧ Below w.heap.size w W
theorem Twos.drew {w W : World} {x y : Value} (h : Twos w x y W) : Twos w x y W.drew := ⟨h.1, h.2.1, h.2.2.drew⟩
theorem Twos.same {w W : World} {x y : Value} (h : Twos w x y W) (W' : World) (e : W' = W) : Twos w x y W' := by rw [e]; exact h

set_option maxHeartbeats 1600000 in
set_option maxRecDepth 20000 in
theorem order_ok (w : World) (d1 c1 d2 c2 m : Nat) (l1 l2 : List UInt8) (i1 i2 : Int) (h1 : RowAt w d1 c1 l1) (h2 : RowAt w d2 c2 l2) (e1 : l1.length = m) (e2 : l2.length = m) (hm : 5 ≤ m) :
    Calls Try.prog 76 #[.agg #[.slice (some ⟨d1, 0, none⟩) m c1, .int .i64 i1], .agg #[.slice (some ⟨d2, 0, none⟩) m c2, .int .i64 i2]] w fun e w' => e = .returned (.int .i64 (cmpN (numL l1) (numL l2))) ∧ Below w.heap.size w w' := by
  obtain ⟨x, hx⟩ : ∃ x, x = numL l1 := ⟨_, rfl⟩
  obtain ⟨y, hy⟩ : ∃ y, y = numL l2 := ⟨_, rfl⟩
  have K1 : Hid (∀ W, Twos w (.slice (some ⟨d1, 0, none⟩) m c1) (.slice (some ⟨d2, 0, none⟩) m c2) W → Calls Try.prog 67 #[.slice (some ⟨d1, 0, none⟩) m c1] W fun e w' => e = .returned (.int .u32 (x : Int)) ∧ w' = W) := fun W hb => number_ok W d1 c1 l1 m (h1.below hb.2.2) e1 hm x hx
  have K2 : Hid (∀ W, Twos w (.slice (some ⟨d1, 0, none⟩) m c1) (.slice (some ⟨d2, 0, none⟩) m c2) W → Calls Try.prog 67 #[.slice (some ⟨d2, 0, none⟩) m c2] W fun e w' => e = .returned (.int .u32 (y : Int)) ∧ w' = W) := fun W hb => number_ok W d2 c2 l2 m (h2.below hb.2.2) e2 hm y hy
  have K3 : Hid (∀ W, Calls Try.prog 77 #[.int .u32 (x : Int), .int .u32 (y : Int)] W fun e w' => e = .returned (.int .i64 (cmpN x y)) ∧ w' = W) := fun W => compare_ok W x y
  rw [← hx, ← hy]
  have H0 : Hid (Twos w (.slice (some ⟨d1, 0, none⟩) m c1) (.slice (some ⟨d2, 0, none⟩) m c2) ((w.alloc (.cells #[.slice (some ⟨d1, 0, none⟩) m c1, .int .i64 i1] 121)).alloc (.cells #[.slice (some ⟨d2, 0, none⟩) m c2, .int .i64 i2] 121))) := by
    refine ⟨⟨((Cont.new w (.slice (some ⟨d1, 0, none⟩) m c1) (.int .i64 i1)).alloc _).c0, ?_⟩, by simp, ((Below.refl _ _).alloc (Nat.le_refl _) _).alloc (by simp) _⟩
    rw [show w.heap.size + 1 = (w.alloc (.cells #[.slice (some ⟨d1, 0, none⟩) m c1, .int .i64 i1] 121)).heap.size by simp]
    exact (Cont.new (w.alloc (.cells #[.slice (some ⟨d1, 0, none⟩) m c1, .int .i64 i1] 121)) (.slice (some ⟨d2, 0, none⟩) m c2) (.int .i64 i2)).c0
  obtain ⟨c, hc⟩ : ∃ c, c = cmpN x y := ⟨_, rfl⟩
  rw [← hc] at K3 ⊢
  clear h1 h2 e1 e2 hx hy hc hm
  go_enter Try.func76, Try.ntmps76
  go_wp2
  go_region_held3 (fun W => (W.cell? ⟨w.heap.size, 0, none⟩ = some (.slice (some ⟨d1, 0, none⟩) m c1) ∧ W.cell? ⟨w.heap.size + 1, 0, none⟩ = some (.slice (some ⟨d2, 0, none⟩) m c2)) ∧ w.heap.size + 1 < W.heap.size ∧ Below w.heap.size w W)
    (first | exact H0.out | assumption | exact H0.out.drew | exact Twos.drew (by assumption))
    (first | (go_at_call 67; (with_reducible refine (K1.out _ ?_).mono ?_); (focus (first | exact H0.out | assumption | exact H0.out.drew | exact Twos.drew (by assumption))); rintro e w9 ⟨rfl, rfl⟩)
           | (go_at_call 67; (with_reducible refine (K2.out _ ?_).mono ?_); (focus (first | exact H0.out | assumption | exact H0.out.drew | exact Twos.drew (by assumption))); rintro e w9 ⟨rfl, rfl⟩)
           | (go_at_call 77; refine (K3.out _).mono ?_; rintro e w9 ⟨rfl, rfl⟩))
  go_wp2
  go_ret
  exact ⟨rfl, H0.out.2.2.drew⟩

/-- The cells of what stands in a bank, in a list of such. -/
def ItAt (w : World) (gg k : Nat) (X Y : Value) : Prop := w.cell? ⟨gg, k, none⟩ = some X ∧ w.cell? ⟨gg, k + 1, none⟩ = some Y
theorem ItAt.below {w w' : World} {gg k : Nat} {X Y : Value} (h : ItAt w gg k X Y) (hb : Below w.heap.size w w') : ItAt w' gg k X Y :=
  ⟨by rw [hb.cell (World.block_lt_of_cell? w _ h.1)]; exact h.1, by rw [hb.cell (World.block_lt_of_cell? w _ h.2)]; exact h.2⟩

set_option maxHeartbeats 1600000 in
set_option maxRecDepth 20000 in
theorem max1_ok (w : World) (gg cap d m c : Nat) (i : Int) (hx : ItAt w gg 0 (.slice (some ⟨d, 0, none⟩) m c) (.int .i64 i)) (_hc : 1 ≤ cap) :
    Calls Try.prog 75 #[.slice (some ⟨gg, 0, none⟩) 1 cap, .func (.func 76) #[] #[]] w fun e w' => e = .returned (.agg #[.slice (some ⟨d, 0, none⟩) m c, .int .i64 i]) ∧ Below w.heap.size w w' := by
  have hb : Below w.heap.size w (w.alloc (.cells #[.slice none 0 0, .int .i64 0] 121)) := (Below.refl _ _).alloc (Nat.le_refl _) _
  obtain ⟨x0, x1⟩ := hx.below hb
  clear hx
  go_enter Try.func75, Try.ntmps75
  go_wp2
  obtain ⟨W, hW⟩ : ∃ W, W = (w.alloc (.cells #[.slice none 0 0, .int .i64 0] 121)).alloc (.cells #[.slice (some ⟨d, 0, none⟩) m c, .int .i64 i] 121) := ⟨_, rfl⟩
  rw [← hW]
  have H1 : Hid (Cont W w.heap.size (.slice none 0 0) (.int .i64 0)) := by rw [hW]; exact (Cont.new w _ _).alloc _
  have H2 : Hid (Cont W (w.heap.size + 1) (.slice (some ⟨d, 0, none⟩) m c) (.int .i64 i)) := by
    rw [hW, show w.heap.size + 1 = (w.alloc (.cells #[.slice none 0 0, .int .i64 0] 121)).heap.size by simp]; exact Cont.new _ _ _
  have hbW : Below w.heap.size w W := by rw [hW]; exact hb.alloc (by simp) _
  clear hW hb x0 x1
  go_loopw [6] (fun u wr => u = .int .i64 1 ∧ wr = W) (fun _ _ => 0)
  case atStart => exact ⟨rfl, rfl⟩
  case round =>
    obtain ⟨rfl, rfl⟩ := hrel
    obtain ⟨y0, y1, y2, y3⟩ := H1.out.facts
    obtain ⟨z0, z1, z2, z3⟩ := H2.out.facts
    go_wp2
    refine bodyPost_ret (res_cont rfl rfl (H1.out.set _ _)) rfl ?_
    exact ⟨rfl, below_pair hbW (Nat.le_refl _) _ _⟩

/-- Four cells, behind W0. -/
def Fours (W0 : World) (gg h : Nat) (a b c d : Value) (W : World) : Prop := (W.cell? ⟨gg, 2, none⟩ = some a ∧ W.cell? ⟨gg, 3, none⟩ = some b ∧ W.cell? ⟨h, 0, none⟩ = some c ∧ W.cell? ⟨h, 1, none⟩ = some d) ∧ Below W0.heap.size W0 W
theorem Fours.drew {W0 W : World} {gg h : Nat} {a b c d : Value} (k : Fours W0 gg h a b c d W) : Fours W0 gg h a b c d W.drew := ⟨k.1, k.2.drew⟩
theorem Fours.below {W0 W W' : World} {gg h : Nat} {a b c d : Value} (k : Fours W0 gg h a b c d W) (hb : Below W.heap.size W W') : Fours W0 gg h a b c d W' := by
  obtain ⟨⟨h1, h2, h3, h4⟩, h5⟩ := k
  exact ⟨⟨by rw [hb.cell (World.block_lt_of_cell? W _ h1)]; exact h1, by rw [hb.cell (World.block_lt_of_cell? W _ h2)]; exact h2, by rw [hb.cell (World.block_lt_of_cell? W _ h3)]; exact h3, by rw [hb.cell (World.block_lt_of_cell? W _ h4)]; exact h4⟩, h5.trans (hb.mono h5.size)⟩

theorem cmp_pos (a b : Nat) : decide ((0 : Int) < cmpN a b) = decide (b < a) := by
  unfold cmpN
  by_cases h1 : a < b
  · rw [if_pos h1]
    have : ¬ b < a := by omega
    simp [this]
  · rw [if_neg h1]
    by_cases h2 : b < a
    · rw [if_pos h2]; simp [h2]
    · rw [if_neg h2]; simp [h2]

set_option maxHeartbeats 3200000 in
set_option maxRecDepth 20000 in
theorem max2_ok (w : World) (gg cap m d1 c1 d2 c2 : Nat) (i1 i2 : Int) (l1 l2 : List UInt8) (hx : ItAt w gg 0 (.slice (some ⟨d1, 0, none⟩) m c1) (.int .i64 i1)) (hy : ItAt w gg 2 (.slice (some ⟨d2, 0, none⟩) m c2) (.int .i64 i2)) (_hc : 2 ≤ cap)
    (r1 : RowAt w d1 c1 l1) (r2 : RowAt w d2 c2 l2) (e1 : l1.length = m) (e2 : l2.length = m) (hm : 5 ≤ m) :
    Calls Try.prog 75 #[.slice (some ⟨gg, 0, none⟩) 2 cap, .func (.func 76) #[] #[]] w fun e w' => e = .returned (if numL l1 < numL l2 then .agg #[.slice (some ⟨d2, 0, none⟩) m c2, .int .i64 i2] else .agg #[.slice (some ⟨d1, 0, none⟩) m c1, .int .i64 i1]) ∧ Below w.heap.size w w' := by
  have hb : Below w.heap.size w (w.alloc (.cells #[.slice none 0 0, .int .i64 0] 121)) := (Below.refl _ _).alloc (Nat.le_refl _) _
  obtain ⟨x0, x1⟩ := hx.below hb
  obtain ⟨R, hR⟩ : ∃ R, R = if numL l1 < numL l2 then Value.agg #[.slice (some ⟨d2, 0, none⟩) m c2, .int .i64 i2] else .agg #[.slice (some ⟨d1, 0, none⟩) m c1, .int .i64 i1] := ⟨_, rfl⟩
  rw [← hR]
  have HR : Hid (R = if numL l1 < numL l2 then Value.agg #[.slice (some ⟨d2, 0, none⟩) m c2, .int .i64 i2] else .agg #[.slice (some ⟨d1, 0, none⟩) m c1, .int .i64 i1]) := hR
  have K : Hid (∀ W, Below w.heap.size w W → Calls Try.prog 76 #[.agg #[.slice (some ⟨d2, 0, none⟩) m c2, .int .i64 i2], .agg #[.slice (some ⟨d1, 0, none⟩) m c1, .int .i64 i1]] W fun e w' => e = .returned (.int .i64 (cmpN (numL l2) (numL l1))) ∧ Below W.heap.size W w') := fun W h => order_ok W d2 c2 d1 c1 m l2 l1 i2 i1 (r2.below h) (r1.below h) e2 e1 hm
  have HY : Hid (ItAt w gg 2 (.slice (some ⟨d2, 0, none⟩) m c2) (.int .i64 i2)) := hy
  clear hx hy r1 r2 e1 e2 hR
  go_enter Try.func75, Try.ntmps75
  go_wp2
  obtain ⟨W, hW⟩ : ∃ W, W = (w.alloc (.cells #[.slice none 0 0, .int .i64 0] 121)).alloc (.cells #[.slice (some ⟨d1, 0, none⟩) m c1, .int .i64 i1] 121) := ⟨_, rfl⟩
  rw [← hW]
  have H1 : Hid (Cont W w.heap.size (.slice none 0 0) (.int .i64 0)) := by rw [hW]; exact (Cont.new w _ _).alloc _
  have H2 : Hid (Cont W (w.heap.size + 1) (.slice (some ⟨d1, 0, none⟩) m c1) (.int .i64 i1)) := by
    rw [hW, show w.heap.size + 1 = (w.alloc (.cells #[.slice none 0 0, .int .i64 0] 121)).heap.size by simp]; exact Cont.new _ _ _
  have hbW : Below w.heap.size w W := by rw [hW]; exact hb.alloc (by simp) _
  have hY := HY.out.below hbW
  have H0 : Hid (Fours W gg (w.heap.size + 1) (.slice (some ⟨d2, 0, none⟩) m c2) (.int .i64 i2) (.slice (some ⟨d1, 0, none⟩) m c1) (.int .i64 i1) W) := ⟨⟨hY.1, hY.2, H2.out.c0, H2.out.c1⟩, Below.refl _ _⟩
  clear hW hb x0 x1 hY HY
  go_loopw [6] (fun u wr => (u = .int .i64 1 ∧ wr = W) ∨ (u = .int .i64 2 ∧ ∃ (d c : Nat) (i : Int), .agg #[.slice (some ⟨d, 0, none⟩) m c, .int .i64 i] = R ∧ Cont wr (w.heap.size + 1) (.slice (some ⟨d, 0, none⟩) m c) (.int .i64 i) ∧ Cont wr w.heap.size (.slice none 0 0) (.int .i64 0) ∧ Below w.heap.size w wr)) (fun u _ => 2 - (intOf u).toNat)
  case atStart => exact .inl ⟨rfl, rfl⟩
  case round =>
    rcases hrel with ⟨rfl, rfl⟩ | ⟨rfl, d, c, i, hXY, C1, C0, hbe⟩
    · obtain ⟨⟨f0, f1, f2, f3⟩, _⟩ := H0.out
      have K1 : Hid (∀ V, Fours wr gg (w.heap.size + 1) (.slice (some ⟨d2, 0, none⟩) m c2) (.int .i64 i2) (.slice (some ⟨d1, 0, none⟩) m c1) (.int .i64 i1) V → Calls Try.prog 76 #[.agg #[.slice (some ⟨d2, 0, none⟩) m c2, .int .i64 i2], .agg #[.slice (some ⟨d1, 0, none⟩) m c1, .int .i64 i1]] V fun e w' => e = .returned (.int .i64 (cmpN (numL l2) (numL l1))) ∧ Below V.heap.size V w' ∧ Below wr.heap.size wr w') := fun V h => by
        refine (K.out V (hbW.trans (h.2.mono hbW.size))).mono ?_
        rintro e w' ⟨h1, h2⟩
        exact ⟨h1, h2, h.2.trans (h2.mono h.2.size)⟩
      obtain ⟨cc, hcc⟩ : ∃ cc, cc = cmpN (numL l2) (numL l1) := ⟨_, rfl⟩
      rw [← hcc] at K1
      have hpos : decide ((0 : Int) < cc) = decide (numL l1 < numL l2) := by rw [hcc, cmp_pos]
      clear hcc
      go_wp2
      go_region_held3 (fun V => (V.cell? ⟨gg, 2, none⟩ = some (.slice (some ⟨d2, 0, none⟩) m c2) ∧ V.cell? ⟨gg, 3, none⟩ = some (.int .i64 i2) ∧ V.cell? ⟨w.heap.size + 1, 0, none⟩ = some (.slice (some ⟨d1, 0, none⟩) m c1) ∧ V.cell? ⟨w.heap.size + 1, 1, none⟩ = some (.int .i64 i1)) ∧ Below wr.heap.size wr V)
        (first | exact H0.out | assumption | exact H0.out.drew | exact Fours.drew (by assumption) | exact Fours.below (by assumption) (by assumption))
        (first | (go_at_call 76; (with_reducible refine (K1.out _ ?_).mono ?_); (focus (first | exact H0.out | assumption | exact H0.out.drew | exact Fours.drew (by assumption) | exact Fours.below (by assumption) (by assumption))); rintro e w9 ⟨rfl, hb9, hbr⟩))
      have HC1 : Hid (Cont w9 w.heap.size (.slice none 0 0) (.int .i64 0)) := H1.out.below hbr
      have HC2 : Hid (Cont w9 (w.heap.size + 1) (.slice (some ⟨d1, 0, none⟩) m c1) (.int .i64 i1)) := H2.out.below hbr
      obtain ⟨q0, q1, q2, q3⟩ := HC2.out.facts
      have s0 : w9.cell? ⟨gg, 2, none⟩ = some (.slice (some ⟨d2, 0, none⟩) m c2) := by rw [hbr.cell (World.block_lt_of_cell? _ _ f0)]; exact f0
      have s1 : w9.cell? ⟨gg, 3, none⟩ = some (.int .i64 i2) := by rw [hbr.cell (World.block_lt_of_cell? _ _ f1)]; exact f1
      have hb7 : Below w.heap.size w w9 := hbW.trans (hbr.mono hbW.size)
      clear H0 H1 H2 K1 K f0 f1 f2 f3 hb9 hbr hbW
      by_cases hlt : numL l1 < numL l2
      · rw [decide_eq_true hlt] at hpos
        replace hpos : (0 : Int) < cc := of_decide_eq_true hpos
        have HR2 : Hid (Value.agg #[.slice (some ⟨d2, 0, none⟩) m c2, .int .i64 i2] = R) := by rw [HR.out, if_pos hlt]; exact (rfl : _ = _)
        clear HR
        go_wp2
        go_roundw
        case rel => exact .inr ⟨rfl, d2, c2, i2, HR2.out, HC2.out.set _ _, (HC1.out.other (by omega) _ _).other (by omega) _ _, below_pair hb7 (by omega) _ _⟩
        case measure => simp [intOf]
      · rw [decide_eq_false hlt] at hpos
        replace hpos : ¬ (0 : Int) < cc := of_decide_eq_false hpos
        have HR2 : Hid (Value.agg #[.slice (some ⟨d1, 0, none⟩) m c1, .int .i64 i1] = R) := by rw [HR.out, if_neg hlt]; exact (rfl : _ = _)
        clear HR
        go_wp2
        go_roundw
        case rel => exact .inr ⟨rfl, d1, c1, i1, HR2.out, HC2.out, HC1.out, hb7⟩
        case measure => simp [intOf]
    · have HC1 : Hid (Cont wr w.heap.size (.slice none 0 0) (.int .i64 0)) := C0
      obtain ⟨y0, y1, y2, y3⟩ := C0.facts
      obtain ⟨z0, z1, z2, z3⟩ := C1.facts
      have HXY : Hid (Value.agg #[.slice (some ⟨d, 0, none⟩) m c, .int .i64 i] = R) := hXY
      clear H0 H1 H2 K HR C0 C1 hXY
      go_wp2
      refine bodyPost_ret (res_cont rfl rfl (HC1.out.set _ _)) rfl ?_
      exact ⟨by rw [HXY.out], below_pair hbe (Nat.le_refl _) _ _⟩
end Go.Proofs.Ytjmbioedpghopaa

namespace Go.Proofs.Ytjmbioedpghopaa
open Go.ChangeShapes Go.WideShapes Go.ChangeAt Go.RowKit

theorem own_none {w : World} {B : Nat} {v : Value} (h : w.ownsRow B 121 2 v 0 []) : ∃ a cap, v = .slice a 0 cap := by
  rcases h.2 with ⟨rfl, _⟩ | ⟨g, cap, cur, rfl, _⟩
  · exact ⟨none, 0, rfl⟩
  · exact ⟨_, cap, rfl⟩
theorem own_one {w : World} {B : Nat} {v X Y : Value} (h : w.ownsRow B 121 2 v 1 [X, Y]) : ∃ gg cap, v = .slice (some ⟨gg, 0, none⟩) 1 cap ∧ 1 ≤ cap ∧ ItAt w gg 0 X Y := by
  rcases h.2 with ⟨rfl, h0⟩ | ⟨g, cap, cur, rfl, _, _, hc, _⟩
  · omega
  · refine ⟨g, cap, rfl, hc, ?_, ?_⟩
    · have := h.cells (g := g) rfl 0 X rfl; rwa [Addr.add_lit] at this
    · have := h.cells (g := g) rfl 1 Y rfl; rwa [Addr.add_lit] at this
theorem own_two {w : World} {B : Nat} {v X Y Z U : Value} (h : w.ownsRow B 121 2 v 2 [X, Y, Z, U]) : ∃ gg cap, v = .slice (some ⟨gg, 0, none⟩) 2 cap ∧ 2 ≤ cap ∧ ItAt w gg 0 X Y ∧ ItAt w gg 2 Z U := by
  rcases h.2 with ⟨rfl, h0⟩ | ⟨g, cap, cur, rfl, _, _, hc, _⟩
  · omega
  · refine ⟨g, cap, rfl, hc, ⟨?_, ?_⟩, ?_, ?_⟩
    · have := h.cells (g := g) rfl 0 X rfl; rwa [Addr.add_lit] at this
    · have := h.cells (g := g) rfl 1 Y rfl; rwa [Addr.add_lit] at this
    · have := h.cells (g := g) rfl 2 Z rfl; rwa [Addr.add_lit] at this
    · have := h.cells (g := g) rfl 3 U rfl; rwa [Addr.add_lit] at this

theorem RowAt.pair {w : World} {d cd : Nat} {l : List UInt8} (h : RowAt w d cd l) {g : Nat} {x y : Value} (hc : Cont w g x y) (u v : Value) : RowAt ((w.setCell ⟨g, 0, none⟩ u).setCell ⟨g, 1, none⟩ v) d cd l := by
  have hne : d ≠ g := by
    rintro rfl
    obtain ⟨cur, h1, _⟩ := h
    unfold Cont at hc
    rw [h1] at hc
    simp at hc
  exact h.keep (by rw [heap_setCell_other _ _ _ _ hne, heap_setCell_other _ _ _ _ hne])
/-- Which of two rows is the newest. -/
def newR (x y : List UInt8) : Option Nat := if (wholeB x && (!wholeB y || decide (numL y ≤ numL x))) = true then some 0 else if wholeB y = true then some 1 else none
def newI (s : PS) (A N : Nat) : Option Nat := newR (rowL s A N 0) (rowL s A N 1)
theorem newI_le {s : PS} {A N k : Nat} (h : newI s A N = some k) : k ≤ 1 := by
  unfold newI newR at h
  split at h
  · simp at h; omega
  · split at h
    · simp at h; omega
    · simp at h

/-- What newest answers. -/
def NewIs (w : World) (s : PS) (A N : Nat) (e : Ending) (w' : World) : Prop :=
  (newI s A N = none ∧ e = .returned (.tuple #[.agg #[.slice none 0 0, .int .i64 0], .bool false, .int .i64 0]) ∧ Below w.heap.size w w') ∨
  ∃ (k d c : Nat), newI s A N = some k ∧ e = .returned (.tuple #[.agg #[.slice (some ⟨d, 0, none⟩) (N + 8) c, .int .i64 (k : Int)], .bool true, .int .i64 0]) ∧ RowAt w' d c (rowL s A N k) ∧ Below w.heap.size w w'

/-- What a list of those holds. -/
theorem those_cases {x y : List UInt8} {L : List It} (h : L.map (·.2.2) = ([(x, 0), (y, 1)] : List (List UInt8 × Nat)).filter (fun q => wholeB q.1)) :
    (L = [] ∧ newR x y = none) ∨ (∃ d c, L = [(d, c, x, 0)] ∧ newR x y = some 0) ∨ (∃ d c, L = [(d, c, y, 1)] ∧ newR x y = some 1) ∨
    ∃ d1 c1 d2 c2, L = [(d1, c1, x, 0), (d2, c2, y, 1)] ∧ newR x y = if numL x < numL y then some 1 else some 0 := by
  unfold newR
  cases hx : wholeB x <;> cases hy : wholeB y
  · simp [hx, hy] at h; left; simp [h]
  · simp [hx, hy] at h
    right; right; left
    obtain ⟨d, c, h⟩ := h
    exact ⟨d, c, h, by simp⟩
  · simp [hx, hy] at h
    right; left
    obtain ⟨d, c, h⟩ := h
    exact ⟨d, c, h, by simp⟩
  · simp [hx, hy] at h
    right; right; right
    match L, h with
    | [(d1, c1, x', i'), (d2, c2, y', j')], h =>
      simp at h
      obtain ⟨⟨rfl, rfl⟩, rfl, rfl⟩ := h
      refine ⟨d1, c1, d2, c2, rfl, ?_⟩
      by_cases hlt : numL x' < numL y'
      · have : ¬ numL y' ≤ numL x' := by omega
        simp [hlt, this]
      · have : numL y' ≤ numL x' := by omega
        simp [hlt, this]

theorem newest_ok (w : World) (b g A N : Nat) (s : PS) (F : Nat → Prop) (hP : PF w g s F) (hB : BA w b g A N) (hd : s.dead = false) (hA : A + 2 * (N + 8) ≤ s.b.length) (hN : N ≤ 64) (hs4 : s.b.length ≤ 4096) :
    Calls Try.prog 65 #[.pointer (some ⟨b, 0, none⟩)] w fun e w' => NewIs w s A N e w' := by
  have hb : Below w.heap.size w (w.alloc (.cells #[.slice none 0 0, .int .i64 0] 121)) := (Below.refl _ _).alloc (Nat.le_refl _) _
  have hs := those_ok "carillon/bank.whole" 74 wholeB whole_run whole_call (fun W d cd m l h1 h2 h3 h4 => bwhole_ok W d cd m l h1 h2 h3 h4) _ b g A N s F (pf_kept.below hP hb) (hB.below hb) hd hA hN hs4
  have HC : Hid (Cont (w.alloc (.cells #[.slice none 0 0, .int .i64 0] 121)) w.heap.size (.slice none 0 0) (.int .i64 0)) := Cont.new w (.slice none 0 0) (.int .i64 0)
  have l0 := rowL_len s A N 0 (by omega) hA
  have l1 := rowL_len s A N 1 (by omega) hA
  obtain ⟨x, hx⟩ : ∃ x, x = rowL s A N 0 := ⟨_, rfl⟩
  obtain ⟨y, hy⟩ : ∃ y, y = rowL s A N 1 := ⟨_, rfl⟩
  have HX : Hid (x = rowL s A N 0 ∧ y = rowL s A N 1 ∧ x.length = N + 8 ∧ y.length = N + 8) := ⟨hx, hy, by rw [hx]; exact l0, by rw [hy]; exact l1⟩
  clear hP hB hd hA hs4 hN l0 l1
  go_enter Try.func65, Try.ntmps65
  go_wp2_with fail
  refine hs.mono ?_
  rintro e w1 ⟨v, L, rfl, hown, hrows, hmap, hb1⟩
  have HC2 : Hid (Cont w1 w.heap.size (.slice none 0 0) (.int .i64 0)) := HC.out.below hb1
  have hb2 := hb.trans (hb1.mono hb.size)
  clear hs HC hb1
  rw [twoL, ← hx, ← hy] at hmap
  have hnew : newI s A N = newR x y := by unfold newI; rw [← hx, ← hy]
  clear hx hy
  have key : (newI s A N = none ∧ ∃ a cap, v = .slice a 0 cap) ∨ ∃ (d c k gg n cap : Nat), v = .slice (some ⟨gg, 0, none⟩) n cap ∧ 1 ≤ n ∧ n ≤ 2 ∧ newI s A N = some k ∧ RowAt w1 d c (rowL s A N k) ∧
      Calls Try.prog 75 #[v, .func (.func 76) #[] #[]] w1 fun e w' => e = .returned (.agg #[.slice (some ⟨d, 0, none⟩) (N + 8) c, .int .i64 (k : Int)]) ∧ Below w1.heap.size w1 w' := by
    obtain ⟨hx, hy, lx, ly⟩ := HX.out
    rcases those_cases hmap with ⟨rfl, hn⟩ | ⟨d, c, rfl, hn⟩ | ⟨d, c, rfl, hn⟩ | ⟨d1, c1, d2, c2, rfl, hn⟩
    · exact .inl ⟨hnew.trans hn, own_none hown⟩
    · obtain ⟨gg, cap, rfl, hcap, hit⟩ := own_one hown
      have hr := hrows _ (List.mem_singleton.2 rfl)
      exact .inr ⟨d, c, 0, gg, 1, cap, rfl, by omega, by omega, hnew.trans hn, by rw [← hx]; exact hr, max1_ok w1 gg cap d (N + 8) c _ hit hcap⟩
    · obtain ⟨gg, cap, rfl, hcap, hit⟩ := own_one hown
      have hr := hrows _ (List.mem_singleton.2 rfl)
      exact .inr ⟨d, c, 1, gg, 1, cap, rfl, by omega, by omega, hnew.trans hn, by rw [← hy]; exact hr, max1_ok w1 gg cap d (N + 8) c _ hit hcap⟩
    · obtain ⟨gg, cap, rfl, hcap, hit, hit2⟩ := own_two hown
      have hr := hrows (d1, c1, x, 0) (by simp)
      have hr2 := hrows (d2, c2, y, 1) (by simp)
      have hm := max2_ok w1 gg cap (N + 8) d1 c1 d2 c2 _ _ x y hit hit2 hcap hr hr2 lx ly (by omega)
      by_cases hlt : numL x < numL y
      · rw [if_pos hlt] at hm hn
        exact .inr ⟨d2, c2, 1, gg, 2, cap, rfl, by omega, by omega, hnew.trans hn, by rw [← hy]; exact hr2, hm⟩
      · rw [if_neg hlt] at hm hn
        exact .inr ⟨d1, c1, 0, gg, 2, cap, rfl, by omega, by omega, hnew.trans hn, by rw [← hx]; exact hr, hm⟩
  clear hown hrows hmap hnew HX
  rcases key with ⟨hn, a, cap, rfl⟩ | ⟨d, c, k, gg, n, cap, rfl, hn1, hn2, hn, hr, hmx⟩
  · obtain ⟨x0, x1, x2, x3⟩ := HC2.out.facts
    have HN : Hid (newI s A N = none) := hn
    clear hn
    go_wp2
    refine bodyPost_ret (res_cont3 rfl rfl (HC2.out.set _ _)) rfl ?_
    exact .inl ⟨HN.out, rfl, below_pair hb2 (Nat.le_refl _) _ _⟩
  · have HN : Hid (newI s A N = some k) := hn
    have dn : ((n : Int) == 0) = false := by simp; omega
    have HR : Hid (RowAt w1 d c (rowL s A N k)) := hr
    clear hn hr
    go_wp2_with fail
    refine hmx.mono ?_
    rintro e w2 ⟨rfl, hb3⟩
    have HR2 : Hid (RowAt w2 d c (rowL s A N k)) := HR.out.below hb3
    have HC3 : Hid (Cont (w2.alloc (.cells #[.slice (some ⟨d, 0, none⟩) (N + 8) c, .int .i64 (k : Int)] 121)) w.heap.size (.slice none 0 0) (.int .i64 0)) := (HC2.out.below hb3).alloc _
    obtain ⟨x0, x1, x2, x3⟩ := HC3.out.facts
    have hb4 := hb2.trans (hb3.mono hb2.size)
    clear hmx HR hb3 HC2 hb2
    go_wp2
    refine bodyPost_ret (res_cont3 rfl rfl (HC3.out.set _ _)) rfl ?_
    exact .inr ⟨k, d, c, HN.out, rfl, (HR2.out.below ((Below.refl _ _).alloc (Nat.le_refl _) _)).pair HC3.out _ _, below_pair (hb4.alloc hb4.size _) (Nat.le_refl _) _ _⟩

theorem newest_none (w : World) (b g A N : Nat) (s : PS) (F : Nat → Prop) (hP : PF w g s F) (hB : BA w b g A N) (hd : s.dead = false) (hA : A + 2 * (N + 8) ≤ s.b.length) (hN : N ≤ 64) (hs4 : s.b.length ≤ 4096) (hn : newI s A N = none) :
    Calls Try.prog 65 #[.pointer (some ⟨b, 0, none⟩)] w fun e w' => e = .returned (.tuple #[.agg #[.slice none 0 0, .int .i64 0], .bool false, .int .i64 0]) ∧ Below w.heap.size w w' := by
  refine (newest_ok w b g A N s F hP hB hd hA hN hs4).mono ?_
  rintro e w' (⟨_, h⟩ | ⟨k, d, c, h, _⟩)
  · exact h
  · rw [hn] at h; cases h
theorem newest_some (w : World) (b g A N : Nat) (s : PS) (F : Nat → Prop) (hP : PF w g s F) (hB : BA w b g A N) (hd : s.dead = false) (hA : A + 2 * (N + 8) ≤ s.b.length) (hN : N ≤ 64) (hs4 : s.b.length ≤ 4096) (k : Nat) (hn : newI s A N = some k) :
    Calls Try.prog 65 #[.pointer (some ⟨b, 0, none⟩)] w fun e w' => ∃ d c, e = .returned (.tuple #[.agg #[.slice (some ⟨d, 0, none⟩) (N + 8) c, .int .i64 (k : Int)], .bool true, .int .i64 0]) ∧ RowAt w' d c (rowL s A N k) ∧ Below w.heap.size w w' := by
  refine (newest_ok w b g A N s F hP hB hd hA hN hs4).mono ?_
  rintro e w' (⟨h, _⟩ | ⟨k', d, c, h, h1⟩)
  · rw [hn] at h; cases h
  · rw [hn] at h
    cases h
    exact ⟨d, c, h1⟩
end Go.Proofs.Ytjmbioedpghopaa
