/-
  The walk of IvalGrows, out of the contracts.
-/
import Derived.Test.YtmdpfkilkmicjaaIvalMakesW
import Derived.Test.YtmdpfkilkmicjaaRateBeatsW
namespace Go.Proofs.Ytmdpfkilkmicjaa
open Go.ChangeShapes Go.WideShapes Go.ChangeAt Go.RowKit

/-- What was so is so later, over plain numbers. -/
theorem grow_holds {a b at' A B n k : Int} (h0 : 0 ≤ k) (h1 : k ≤ 49) (hA0 : n * (100 - k) ≤ A) (hA1 : A ≤ n * (100 + k)) (hB0 : n * (100 - k) ≤ B) (hB1 : B ≤ n * (100 + k))
    (hh : holdsB a b at' = true) (hr : rightB (a - spreadN A k) (b + spreadN A k) = true) : holdsB (a - spreadN A k) (b + spreadN A k) (at' + B - A) = true := by
  have g := both_hold h0 h1 hA0 hA1 hB0 hB1
  have s := spread_holds g.1 g.2
  have h := of_decide_eq_true hh
  rw [holdsB_eq hr]
  apply decide_eq_true
  omega

/-- The three ways that the end goes. -/
theorem grows_cases {a b at' A B n k : Int} (h0 : 0 ≤ k) (h1 : k ≤ 49) (hm : mayB A k = true) (hA0 : n * (100 - k) ≤ A) (hA1 : A ≤ n * (100 + k)) (hB0 : n * (100 - k) ≤ B) (hB1 : B ≤ n * (100 + k)) :
    growV a b A k = errV 1 ∨ (∃ x y, growV a b A k = okV x y ∧ holdsB a b at' = false) ∨
      ∃ x y, growV a b A k = okV x y ∧ holdsB a b at' = true ∧ holdsB x y (at' + B - A) = true ∧ -1099511627776 ≤ at' ∧ at' ≤ 1099511627776 := by
  unfold growV makeV
  by_cases hr : rightB a b = true
  · by_cases hs : rightB (a - spreadN A k) (b + spreadN A k) = true
    · rw [if_pos ⟨hm, hr⟩, if_pos hs]
      right
      cases hh : holdsB a b at'
      · exact .inl ⟨_, _, rfl, rfl⟩
      · have h := of_decide_eq_true hh
        exact .inr ⟨_, _, rfl, rfl, grow_holds h0 h1 hA0 hA1 hB0 hB1 hh hs, by omega, by omega⟩
    · rw [if_pos ⟨hm, hr⟩, if_neg hs]; exact .inl rfl
  · rw [if_neg (fun h => hr h.2)]; exact .inl rfl

set_option maxHeartbeats 6400000 in
set_option maxRecDepth 20000 in
theorem grows_walk (a b at' : Int) (p : Option Addr) (cp : Nat) (l : List Int) (q : Option Addr) (cq : Nat) (m : List Int) (d : Int) (w : World) (hs : Nums .i8 w p cp l) (ht : Nums .i8 w q cq m) (hd : (Lit.int .u8 d).wf = true) :
    Calls Try.prog 7 #[.agg #[.int .i64 a, .int .i64 b], .int .i64 at', .slice p l.length cp, .slice q m.length cq, .int .u8 d] w fun e w' => e = .returned (.bool true) ∧ Below w.heap.size w w' := by
  have gd := bounds_u8 hd
  have hlen := hs.len
  have hlem := ht.len
  obtain ⟨k, hk⟩ : ∃ k, k = d % 50 := ⟨_, rfl⟩
  have h3 : 0 ≤ k ∧ k ≤ 49 := by omega
  have e1 : d.tmod 50 = k := by rw [hk]; exact Int.tmod_eq_emod_of_nonneg gd.1
  have E1 : d % 50 = k := hk.symm
  have w3 : IntKind.i64.wrap k = k := by rw [IntKind.wrap_i64]; omega
  have w4 : IntKind.u8.wrap k = k := by rw [IntKind.wrap_u8]; omega
  have HS : Hid (Nums .i8 w p cp l) := hs
  have HT : Hid (Nums .i8 w q cq m) := ht
  have HG : Hid (∀ W t k, Calls Try.prog 15 #[.agg #[.int .i64 a, .int .i64 b], .int .i64 t, .int .i64 k] W fun e w' => e = .returned (growV a b t k) ∧ Below W.heap.size W w') := fun W t k => grow_ok W a b t k
  have HP : Hid (∀ W t k, Calls Try.prog 30 #[.int .i64 t, .int .i64 k] W fun e w' => e = .returned (ansN t k (spreadN t k)) ∧ w' = W) := fun W t k => spread_ok W t k
  have HH : Hid (∀ W x y n, Calls Try.prog 21 #[.agg #[.int .i64 x, .int .i64 y], .int .i64 n] W fun e w' => e = .returned (.bool (holdsB x y n)) ∧ Below W.heap.size W w') := fun W x y n => holds_ok W x y n
  have H9 : Hid (∀ W, Calls Try.prog 25 #[] W fun e w' => e = .returned (.bool true) ∧ Below W.heap.size W w') := awake_ok
  clear hs ht hd hk gd
  go_enter Try.func7, Try.ntmps7
  go_wp2
  go_loopw [12, 13, 14] (fun u v z wr => ∃ j : Nat, j ≤ l.length ∧ j ≤ m.length ∧ j ≤ 1000 ∧ u = .int .i64 (goneN k (l.take j)) ∧ v = .int .i64 (goneN k (m.take j)) ∧ z = .int .i64 (j : Int) ∧ wr = w.alloc (.cells #[.int .i64 a, .int .i64 b] 23)) (fun _ _ z _ => 1000 - (intOf z).toNat)
  case atStart => exact ⟨0, Nat.zero_le _, Nat.zero_le _, by omega, rfl, rfl, rfl, rfl⟩
  case round =>
    obtain ⟨j, hj, hjm, hj1, rfl, rfl, rfl, rfl⟩ := hrel
    have hsm := goneN_small k h3.1 h3.2 (l.take j) (by simp; omega)
    have hsn := goneN_small k h3.1 h3.2 (m.take j) (by simp; omega)
    have hbd := goneN_bounds k h3.1 (l.take j)
    rw [show (l.take j).length = j by simp; omega] at hbd
    have hbe := goneN_bounds k h3.1 (m.take j)
    rw [show (m.take j).length = j by simp; omega] at hbe
    by_cases hlt : j < l.length ∧ j < m.length ∧ j < 1000
    · obtain ⟨x, hxa⟩ : ∃ x, l[j]? = some x := ⟨l[j], by simp [hlt.1]⟩
      obtain ⟨z, hxb⟩ : ∃ x, m[j]? = some x := ⟨m[j], by simp [hlt.2.1]⟩
      obtain ⟨b1, o1, rfl, hc1⟩ := HS.out.get hxa
      obtain ⟨b2, o2, rfl, hc2⟩ := HT.out.get hxb
      have L1 : b1 < w.heap.size := World.block_lt_of_cell? w _ hc1
      have L2 : b2 < w.heap.size := World.block_lt_of_cell? w _ hc2
      have hwxa := bounds_i8 (HS.out.wf x (List.mem_of_getElem? hxa))
      have hwxb := bounds_i8 (HT.out.wf z (List.mem_of_getElem? hxb))
      have hnexta : goneN k (l.take (j + 1)) = goneN k (l.take j) + beatN k x := by rw [take_snoc l j x hxa, goneN_snoc]
      obtain ⟨A, hA⟩ : ∃ A, A = goneN k (l.take j) := ⟨_, rfl⟩
      obtain ⟨A2, hA2⟩ : ∃ A, A = goneN k (l.take (j + 1)) := ⟨_, rfl⟩
      have hbba := beatN_bounds k x h3.1
      obtain ⟨y1, hy1⟩ : ∃ y, y = if x < -k then -k else x := ⟨_, rfl⟩
      obtain ⟨y2, hy2⟩ : ∃ y, y = if k < y1 then k else y1 := ⟨_, rfl⟩
      have hbea : beatN k x = 100 + y2 := by rw [hy2, hy1]; rfl
      obtain ⟨ta, hta⟩ : ∃ t, t = 100 + y2 := ⟨_, rfl⟩
      rw [← hA, ← hA2, hbea, ← hta] at hnexta
      rw [← hA] at hsm ⊢
      rw [hbea, ← hta] at hbba
      have c1a : IntKind.i64.wrap x = x := by rw [IntKind.wrap_i64]; omega
      have c3a : (if x < -k then -k else x) = y1 := hy1.symm
      have c4a : (if k < y1 then k else y1) = y2 := hy2.symm
      have c5a : IntKind.i64.wrap (100 + y2) = ta := by rw [← hta, IntKind.wrap_i64]; omega
      have c6a : IntKind.i64.wrap (A + ta) = A2 := by rw [← hnexta, IntKind.wrap_i64]; omega
      have HA2 : Hid (A2 = goneN k (l.take (j + 1))) := hA2
      have hnextb : goneN k (m.take (j + 1)) = goneN k (m.take j) + beatN k z := by rw [take_snoc m j z hxb, goneN_snoc]
      obtain ⟨B, hB⟩ : ∃ A, A = goneN k (m.take j) := ⟨_, rfl⟩
      obtain ⟨B2, hB2⟩ : ∃ A, A = goneN k (m.take (j + 1)) := ⟨_, rfl⟩
      have hbbb := beatN_bounds k z h3.1
      obtain ⟨z1, hz1⟩ : ∃ y, y = if z < -k then -k else z := ⟨_, rfl⟩
      obtain ⟨z2, hz2⟩ : ∃ y, y = if k < z1 then k else z1 := ⟨_, rfl⟩
      have hbeb : beatN k z = 100 + z2 := by rw [hz2, hz1]; rfl
      obtain ⟨tb, htb⟩ : ∃ t, t = 100 + z2 := ⟨_, rfl⟩
      rw [← hB, ← hB2, hbeb, ← htb] at hnextb
      rw [← hB] at hsn ⊢
      rw [hbeb, ← htb] at hbbb
      have c1b : IntKind.i64.wrap z = z := by rw [IntKind.wrap_i64]; omega
      have c3b : (if z < -k then -k else z) = z1 := hz1.symm
      have c4b : (if k < z1 then k else z1) = z2 := hz2.symm
      have c5b : IntKind.i64.wrap (100 + z2) = tb := by rw [← htb, IntKind.wrap_i64]; omega
      have c6b : IntKind.i64.wrap (B + tb) = B2 := by rw [← hnextb, IntKind.wrap_i64]; omega
      have HB2 : Hid (B2 = goneN k (m.take (j + 1))) := hB2
      have c2 : IntKind.i64.wrap (-k) = -k := by rw [IntKind.wrap_i64]; omega
      have g1 : (j : Int) < (l.length : Int) := by omega
      have g1b : (j : Int) < (m.length : Int) := by omega
      have g2 : (j : Int) < 1000 := by omega
      have g3 : (0 : Int) ≤ (j : Int) := Int.natCast_nonneg _
      have HJ : Hid (j < l.length ∧ j < m.length ∧ j < 1000) := hlt
      clear hxa hwxa hnexta hA hA2 hbba hy1 hy2 hbea hta hxb hwxb hnextb hB hB2 hbbb hz1 hz2 hbeb htb hsm hsn hbd hbe hlt
      go_wp2
      go_roundw
      case rel => exact ⟨j + 1, HJ.out.1, HJ.out.2.1, HJ.out.2.2, by rw [HA2.out], by rw [HB2.out], by first | go_num | (congr 1; omega), trivial⟩
      case measure => have := HJ.out; simp [intOf]; omega
    · have hm := mayB_of h3.1 h3.2 hsm.1 (by omega : goneN k (l.take j) ≤ 1099511627776)
      have hx2 := fun W => HP.out W (goneN k (l.take j)) k
      have hx1 := fun W => HG.out W (goneN k (l.take j)) k
      rw [show ansN (goneN k (l.take j)) k (spreadN (goneN k (l.take j)) k) = .tuple #[.int .i64 (spreadN (goneN k (l.take j)) k), .int .i64 0] from if_pos hm] at hx2
      have hcs := grows_cases (a := a) (b := b) (at' := at') h3.1 h3.2 hm hbd.1 hbd.2 hbe.1 hbe.2
      have hlt' : ¬ j < l.length ∨ (j < l.length ∧ ¬ j < m.length) ∨ (j < l.length ∧ j < m.length ∧ ¬ j < 1000) := by omega
      generalize spreadN (goneN k (l.take j)) k = S at *
      generalize growV a b (goneN k (l.take j)) k = V at *
      generalize goneN k (l.take j) = A at *
      generalize goneN k (m.take j) = B at *
      have HX1 : Hid (∀ W, Calls Try.prog 15 #[.agg #[.int .i64 a, .int .i64 b], .int .i64 A, .int .i64 k] W fun e w' => e = .returned V ∧ Below W.heap.size W w') := hx1
      have HX2 : Hid (∀ W, Calls Try.prog 30 #[.int .i64 A, .int .i64 k] W fun e w' => e = .returned (.tuple #[.int .i64 S, .int .i64 0]) ∧ w' = W) := hx2
      clear hx1 hx2 hm hbd hbe hlt HG HP HS HT
      have HBx : Hid (∀ w1, Below (w.alloc (.cells #[.int .i64 a, .int .i64 b] 23)).heap.size (w.alloc (.cells #[.int .i64 a, .int .i64 b] 23)) w1 → Pair w1 w.heap.size a b ∧ Below w.heap.size w w1) := fun w1 hb => boxes1 hb
      rcases hcs with hV | ⟨x, y, hV, hh⟩ | ⟨x, y, hV, hh, hg, r0, r1⟩
      · rw [hV, errV] at HX1
        clear hV hsm hsn HH
        rcases hlt' with g1 | ⟨g1, g2⟩ | ⟨g1, g2, g4⟩
        all_goals
          go_wp2_with fail
          refine (HX1.out _).mono ?_
          rintro e w1 ⟨rfl, hb⟩
          obtain ⟨P1, bel⟩ := HBx.out _ hb
          clear P1 hb HBx HX1
          go_wp2_with fail
          refine (HX2.out _).mono ?_
          rintro e w2 ⟨rfl, rfl⟩
          clear HX2
          have bel2 := bel.alloc bel.size (.cells #[.int .i64 0, .int .i64 0] 23)
          go_wp2_with fail
          refine (H9.out _).mono ?_
          rintro e w3 ⟨rfl, hb⟩
          go_wp2
          go_ret
          exact ⟨rfl, bel2.trans (hb.mono bel2.size)⟩
      · rw [hV, okV] at HX1
        have HH1 := fun W => HH.out W a b at'
        rw [hh] at HH1
        have HH2 : Hid (∀ W, Calls Try.prog 21 #[.agg #[.int .i64 a, .int .i64 b], .int .i64 at'] W fun e w' => e = .returned (.bool false) ∧ Below W.heap.size W w') := HH1
        clear hV hsm hsn HH HH1 hh
        rcases hlt' with g1 | ⟨g1, g2⟩ | ⟨g1, g2, g4⟩
        all_goals
          go_wp2_with fail
          refine (HX1.out _).mono ?_
          rintro e w1 ⟨rfl, hb⟩
          obtain ⟨P1, bel⟩ := HBx.out _ hb
          obtain ⟨f0, f1, _, _⟩ := P1.facts
          have l1 := P1.lt
          clear P1 hb HBx HX1
          go_wp2_with fail
          refine (HX2.out _).mono ?_
          rintro e w2 ⟨rfl, rfl⟩
          clear HX2
          have bel2 := bel.alloc bel.size (.cells #[.int .i64 x, .int .i64 y] 23)
          go_wp2_with fail
          refine (HH2.out _).mono ?_
          rintro e w3 ⟨rfl, hb⟩
          clear HH2
          have bel3 := bel2.trans (hb.mono bel2.size)
          clear bel bel2 hb f0 f1
          go_wp2_with fail
          refine (H9.out _).mono ?_
          rintro e w4 ⟨rfl, hb⟩
          go_wp2
          go_ret
          exact ⟨rfl, bel3.trans (hb.mono bel3.size)⟩
      · rw [hV, okV] at HX1
        have HH1 := fun W => HH.out W a b at'
        rw [hh] at HH1
        have HH2 : Hid (∀ W, Calls Try.prog 21 #[.agg #[.int .i64 a, .int .i64 b], .int .i64 at'] W fun e w' => e = .returned (.bool true) ∧ Below W.heap.size W w') := HH1
        have HH3 := fun W => HH.out W x y (at' + B - A)
        rw [hg] at HH3
        obtain ⟨u, hu⟩ : ∃ u, u = at' + B := ⟨_, rfl⟩
        obtain ⟨v, hv⟩ : ∃ v, v = u - A := ⟨_, rfl⟩
        rw [← hu, ← hv] at HH3
        have e5 : IntKind.i64.wrap (at' + B) = u := by rw [hu, IntKind.wrap_i64]; omega
        have e6 : IntKind.i64.wrap (u - A) = v := by rw [hv, IntKind.wrap_i64]; omega
        have HH4 : Hid (∀ W, Calls Try.prog 21 #[.agg #[.int .i64 x, .int .i64 y], .int .i64 v] W fun e w' => e = .returned (.bool true) ∧ Below W.heap.size W w') := HH3
        clear hV hsm hsn HH HH1 HH3 hh hg hu hv r0 r1
        rcases hlt' with g1 | ⟨g1, g2⟩ | ⟨g1, g2, g4⟩
        all_goals
          go_wp2_with fail
          refine (HX1.out _).mono ?_
          rintro e w1 ⟨rfl, hb⟩
          obtain ⟨P1, bel⟩ := HBx.out _ hb
          obtain ⟨f0, f1, _, _⟩ := P1.facts
          have l1 := P1.lt
          clear P1 hb HBx HX1
          go_wp2_with fail
          refine (HX2.out _).mono ?_
          rintro e w2 ⟨rfl, rfl⟩
          clear HX2
          have bel2 := bel.alloc bel.size (.cells #[.int .i64 x, .int .i64 y] 23)
          go_wp2_with fail
          refine (HH2.out _).mono ?_
          rintro e w3 ⟨rfl, hb⟩
          clear HH2
          obtain ⟨k0, k1, _, _⟩ := ((Pair.new w1 x y).below hb).facts
          have bel3 := bel2.trans (hb.mono bel2.size)
          clear bel bel2 hb f0 f1
          go_wp2_with fail
          refine (HH4.out _).mono ?_
          rintro e w4 ⟨rfl, hb⟩
          clear HH4
          have bel4 := bel3.trans (hb.mono bel3.size)
          clear bel3 hb
          go_wp2_with fail
          refine (H9.out _).mono ?_
          rintro e w5 ⟨rfl, hb⟩
          go_wp2
          go_ret
          exact ⟨rfl, bel4.trans (hb.mono bel4.size)⟩
end Go.Proofs.Ytmdpfkilkmicjaa
