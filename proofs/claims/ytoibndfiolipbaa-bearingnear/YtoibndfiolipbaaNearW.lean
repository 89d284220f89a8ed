/-
  The law: as many are near as are told within E, and itself; in the end nobody else is.
-/
import Derived.Test.YtoibndfiolipbaaBrgS
import Derived.Test.YtoibndfiolipbaaIvals
namespace Go.Proofs.Ytoibndfiolipbaa
open Go.ChangeShapes Go.WideShapes Go.ChangeAt Go.RowKit

theorem at_cong {v v' : Bt} (hc : v'.c = v.c) (hi : v'.i = v.i) {f : Int} (hk : v'.K f = v.K f) (t : Int) : atA v' f t = atA v f t := by
  unfold atA mayF otherB
  rw [hc, hi, hk]
theorem at_none {v : Bt} {f : Int} (h : v.K f = none) (t : Int) : ¬ (atA v f t).e = 0 := by
  unfold atA
  rw [h]
  split
  · show ¬ (6 : Int) = 0; decide
  · show ¬ (1 : Int) = 0; decide
theorem neR_cong {v v' : Bt} (hc : v'.c = v.c) (hi : v'.i = v.i) (t : Int) : ∀ j : Nat, (∀ k : Nat, k < j → v'.K (k : Int) = v.K (k : Int)) → neR v' t j = neR v t j
  | 0, _ => rfl
  | j + 1, h => by
    rw [neR, neR, neR_cong hc hi t j (fun k hk => h k (by omega)), at_cong hc hi (h j (by omega)), hc]
theorem neR_none {v : Bt} {j : Nat} (t : Int) (h : ¬ (atA v (j : Int) t).e = 0) : neR v t (j + 1) = neR v t j := by
  rw [neR, if_neg (fun q => h q.1), Int.add_zero]
theorem neR_in (v : Bt) (t : Int) : ∀ j : Nat, 1 ≤ neR v t j ∧ neR v t j ≤ j + 1
  | 0 => by simp [neR]
  | j + 1 => by
    have ih := neR_in v t j
    have hc : ((j + 1 : Nat) : Int) = (j : Int) + 1 := by omega
    rw [neR, hc]
    split <;> omega
/-- What the table holds behind j puts. -/
structure Nv (v : Bt) (j : Nat) : Prop where
  c : v.c = usualC
  i : v.i = 1
  hi : ∀ x : Int, (j : Int) ≤ x → v.K x = none
  at' : ∀ x k, v.K x = some k → k.t = 100
theorem Nv.new : Nv (newT usualC 1) 0 := ⟨rfl, rfl, fun _ _ => rfl, fun _ _ h => by cases h⟩
theorem Nv.skip {v : Bt} {j : Nat} (h : Nv v j) : Nv v (j + 1) := ⟨h.c, h.i, fun x hx => h.hi x (by omega), h.at'⟩
theorem Nv.put {v : Bt} {j : Nat} (h : Nv v j) (a b : Int) : Nv (putV v j a b 100) (j + 1) := by
  refine ⟨by rw [putV_c]; exact h.c, by rw [putV_i]; exact h.i, fun x hx => ?_, fun x k hk => ?_⟩
  · unfold putV
    split
    · show (if x = (j : Int) then _ else v.K x) = none
      rw [if_neg (by omega)]; exact h.hi x (by omega)
    · exact h.hi x (by omega)
  · unfold putV at hk
    split at hk
    · have hk' : (if x = (j : Int) then some (⟨_, _, 100⟩ : Kw) else v.K x) = some k := hk
      split at hk'
      · cases hk'; rfl
      · exact h.at' x k hk'
    · exact h.at' x k hk
theorem Nv.same {v : Bt} {j : Nat} (a b t : Int) : neR (putV v j a b 100) t j = neR v t j :=
  neR_cong (putV_c _ _ _ _ _) (putV_i _ _ _ _ _) t j fun k hk => by
    unfold putV
    split
    · show (if (k : Int) = (j : Int) then _ else v.K k) = v.K k
      rw [if_neg (by omega)]
    · rfl
theorem Nv.end' {v : Bt} {j : Nat} (h : Nv v j) (t : Int) : ∀ m : Nat, neR v t (j + m) = neR v t j
  | 0 => rfl
  | m + 1 => by
    have e : j + (m + 1) = j + m + 1 := by omega
    rw [e, neR_none t (at_none (h.hi _ (by omega)) t), h.end' t m]
theorem Nv.three {v : Bt} {j : Nat} (h : Nv v j) (hj : j ≤ 3) (t : Int) : neU v t v.c.n.toNat = neR v t j := by
  have e0 : v.c.n.toNat = 3 := by rw [h.c]; rfl
  have e1 := ne_same (v := v) (by rw [h.i]; decide) t 3
  rw [h.i, if_pos (by decide)] at e1
  have e2 := h.end' t (3 - j)
  rw [show j + (3 - j) = 3 by omega] at e2
  rw [e0]; omega
theorem Nv.late {v : Bt} {j : Nat} (h : Nv v j) (f : Int) : ¬ (atA v f 100000).e = 0 := by
  cases hk : v.K f with
  | none => exact at_none hk _
  | some k =>
    have ht := h.at' f k hk
    unfold atA
    rw [hk]
    split
    · show ¬ (freA v.c k 100000).e = 0
      have hr : rndN v.c = 1200 := by rw [h.c]; decide +kernel
      unfold freA
      rw [ht, hr, if_pos (by right; decide)]
      show ¬ (6 : Int) = 0; decide
    · show ¬ (1 : Int) = 0; decide
theorem Nv.lateN {v : Bt} {j : Nat} (h : Nv v j) : ∀ m : Nat, neR v 100000 m = 1 ∧ frU v 100000 m = []
  | 0 => ⟨rfl, rfl⟩
  | m + 1 => by
    obtain ⟨h1, h2⟩ := h.lateN m
    refine ⟨by rw [neR_none _ (h.late _), h1], ?_⟩
    rw [frU, h2, if_neg (h.late _)]; rfl
theorem Nv.last {v : Bt} {j : Nat} (h : Nv v j) : neU v 100000 v.c.n.toNat = 1 := by
  have e0 : v.c.n.toNat = 3 := by rw [h.c]; rfl
  have e1 := ne_same (v := v) (by rw [h.i]; decide) 100000 3
  rw [h.i, if_pos (by decide), (h.lateN 3).1] at e1
  rw [e0]; omega
theorem bounds_u16 {x : Int} (h : (Lit.int .u16 x).wf = true) : 0 ≤ x ∧ x < 65536 := by
  simp [Lit.wf, IntKind.min, IntKind.max, IntKind.signed, IntKind.bits] at h; omega

set_option maxHeartbeats 3200000 in
set_option maxRecDepth 20000 in
theorem near_walk (a0 : Option Addr) (c0 : Nat) (L : List (Int × Int)) (x1 : Int) (w : World) (s0 : Ivals w a0 c0 L) (w1 : (Lit.int .u16 x1).wf = true) : Calls Try.prog 5 #[.slice a0 L.length c0, .int .u16 x1] w fun e w' => e = .returned (.bool true) ∧ Below w.heap.size w w' := by
  have hx := bounds_u16 w1
  obtain ⟨T, hT⟩ : ∃ T, T = 100 + x1 := ⟨_, rfl⟩
  have e1 : IntKind.i64.wrap x1 = x1 := wrap_in (by omega) (by omega)
  have e2 : IntKind.i64.wrap (100 + x1) = T := by rw [hT]; exact wrap_in (by omega) (by omega)
  have HL : Hid (Ivals w a0 c0 L) := s0
  have k1 := usual_ok w
  clear s0 w1 hx hT
  go_enter Try.func5, Try.ntmps5
  go_wp2_with fail
  refine k1.mono ?_
  rintro e w1 ⟨rfl, hb1⟩
  clear k1
  obtain ⟨W1, hst, hC, hbW⟩ : ∃ W1, (Instr.storeAt 23 (.pointer (some ⟨w1.heap.size, 0, none⟩)) (.agg (cfC usualC))).run Try.prog (w1.alloc (.cells (cfC Cf.zero) 23)) = .ok () W1 ∧ CfAt W1 w1.heap.size usualC ∧ Below w.heap.size w W1 :=
    ⟨_, (CfAt.new w1 Cf.zero).stores usualC, (CfAt.new w1 Cf.zero).stored usualC, below_setRow (hb1.alloc hb1.size _) hb1.size _⟩
  have HC : Hid (CfAt W1 w1.heap.size usualC ∧ Below w.heap.size w W1) := ⟨hC, hbW⟩
  have HST : Hid ((Instr.storeAt 23 (.pointer (some ⟨w1.heap.size, 0, none⟩)) (.agg (cfC usualC))).run Try.prog (w1.alloc (.cells (cfC Cf.zero) 23)) = .ok () W1) := hst
  have HLd : Hid ((Instr.loadAt 23 (.pointer (some ⟨w1.heap.size, 0, none⟩))).run Try.prog W1 = .ok (.agg (cfC usualC)) W1) := hC.loads
  have k2 := solo_new W1 W1 (Below.refl _ _) usualC 1 (by decide)
  clear hst hC hbW hb1
  go_wp2_with (first | (refine wpList_store_run rfl 23 _ _ rfl _ _ rfl rfl HST.out ?_) | (refine wpList_gload_run rfl 23 _ rfl _ _ rfl HLd.out ?_) | fail)
  refine k2.mono ?_
  rintro e W2 ⟨g, rfl, hS2⟩
  have HS2 : Hid (Solo W1 W2 g (newT usualC 1) 0) := hS2
  generalize w1.heap.size = q at *
  clear k2 HLd hS2 HST
  go_wp2
  go_loopw [8, 9] (fun u i wr => ∃ (j n : Nat) (v : Bt), j ≤ L.length ∧ j ≤ 3 ∧ n ≤ j ∧ u = .int .i64 (neR v T j) ∧ i = .int .i64 (j : Int) ∧ Nv v j ∧ Solo W1 wr g v n) (fun _ i _ => 3 - (intOf i).toNat)
  case atStart => exact ⟨0, 0, _, Nat.zero_le _, by omega, Nat.le_refl _, rfl, rfl, Nv.new, HS2.out⟩
  case round =>
    obtain ⟨j, n, v, hjl, hj3, hnj, rfl, rfl, hv, hs⟩ := hrel
    obtain ⟨A, hA⟩ : ∃ A, A = neR v T j := ⟨_, rfl⟩
    rw [← hA]
    have HA : Hid (A = neR v T j) := hA
    have HV : Hid (Nv v j ∧ n ≤ j ∧ j ≤ 3) := ⟨hv, hnj, hj3⟩
    have H1 : Hid (Solo W1 wr g v n) := hs
    clear hA hv hnj HS2
    have end_ : ∀ (d0 : (j : Int) < (L.length : Int) → ¬ (j : Int) < 3), True := fun _ => trivial
    clear end_
    by_cases hlt : (j : Int) < (L.length : Int) ∧ (j : Int) < 3
    · obtain ⟨g1, g2⟩ := hlt
      have g3 : (0 : Int) ≤ (j : Int) := Int.natCast_nonneg _
      obtain ⟨⟨xa, xb⟩, hx⟩ : ∃ x, L[j]? = some x := ⟨_, List.getElem?_eq_getElem (by omega)⟩
      have hbel : Below w.heap.size w wr := HC.out.2.trans (H1.out.low.mono HC.out.2.size)
      obtain ⟨b, off, ha, hc1, hc2⟩ := (HL.out.below hbel).get hx
      dsimp only at hc1 hc2
      subst ha
      have HJ : Hid (j < L.length ∧ j < 3) := ⟨by omega, by omega⟩
      have e9 : IntKind.i64.wrap ((j : Int) + 1) = ((j + 1 : Nat) : Int) := by rw [wrap_in (by omega) (by omega)]; omega
      by_cases hj1 : j = 1
      · have HE : Hid (Nv v (j + 1) ∧ neR v T (j + 1) = A) := ⟨HV.out.1.skip, by rw [HA.out, neR_none]; rw [hj1, show ((1 : Nat) : Int) = v.i by rw [HV.out.1.i]; rfl, at_own]; decide⟩
        subst hj1
        clear hx hbel hc1 hc2 hjl hj3
        go_wp2
        go_roundw
        case rel => exact ⟨2, n, v, by have := HJ.out; omega, by omega, by have := HV.out; omega, by rw [HE.out.2], by rfl, HE.out.1, H1.out⟩
        case measure => decide
      · have hj1' : ¬ (j : Int) = 1 := by omega
        have hb1 : ((j : Int) != 1) = true := by simpa using hj1'
        have KP := H1.out.put (by have := HV.out; omega) (j : Int) xa xb 100
        have HVN := HV.out.1.put xa xb
        have hsm := Nv.same (v := v) (j := j) xa xb T
        have HP : Hid (¬ putE v (j : Int) xa xb 100 = 0 → neR (putV v (j : Int) xa xb 100) T (j + 1) = A) := fun he => by
          have hn : (putV v (j : Int) xa xb 100) = v := by rw [putV, if_neg he]
          rw [hn, neR_none T (at_none (HV.out.1.hi _ (by omega)) T), HA.out]
        have HSM : Hid (neR (putV v (j : Int) xa xb 100) T j = A) := by rw [HA.out]; exact hsm
        have HN2 : Hid (Nv (putV v (j : Int) xa xb 100) (j + 1)) := HVN
        generalize putV v (j : Int) xa xb 100 = v2 at *
        generalize putE v (j : Int) xa xb 100 = pe at *
        clear hx hbel hjl hj3 HVN hsm H1
        have KA : Hid (∀ W, Solo W1 W g v2 (n + 1) → Calls Try.prog 14 #[.pointer (some ⟨g, 0, none⟩), .int .i64 (j : Int), .int .i64 T] W fun e w' => e = .returned (.tuple #[.agg #[.int .i64 (atA v2 (j : Int) T).a, .int .i64 (atA v2 (j : Int) T).b], .int .i64 (atA v2 (j : Int) T).e]) ∧ Solo W1 w' g v2 (n + 1)) := fun W hW => hW.at _ _
        have KI : Hid (∀ W, Calls Try.prog 26 #[.agg #[.int .i64 (atA v2 (j : Int) T).a, .int .i64 (atA v2 (j : Int) T).b], .int .i64 400] W fun e w' => e = .returned (.bool (insideB (atA v2 (j : Int) T).a (atA v2 (j : Int) T).b 400)) ∧ Below W.heap.size W w') := fun W => inside_ok W _ _ 400 (by decide)
        have HX : Hid (neR v2 T (j + 1) = A + (if (atA v2 (j : Int) T).e = 0 ∧ insideB (atA v2 (j : Int) T).a (atA v2 (j : Int) T).b 400 = true then 1 else 0)) := by
          show neR v2 T (j + 1) = _
          have hce : v2.c.e = 400 := by rw [HN2.out.c]; rfl
          rw [neR, HSM.out, show inB v2.c (atA v2 (j : Int) T) = insideB (atA v2 (j : Int) T).a (atA v2 (j : Int) T).b 400 from by unfold inB insideB; rw [hce]]
        have HA1 : Hid (1 ≤ A ∧ A ≤ 4) := by
          have := neR_in v T j
          rw [← HA.out] at this
          have := HJ.out
          show 1 ≤ A ∧ A ≤ 4
          omega
        generalize atA v2 (j : Int) T = X at *
        obtain ⟨x, y, z⟩ := X
        dsimp only at KA KI HX
        generalize insideB x y 400 = bi at *
        by_cases hpe : pe = 0
        · subst hpe
          clear HP
          go_wp2_with fail
          refine KP.mono ?_
          rintro e W5 ⟨rfl, hS5⟩
          have KA1 := KA.out W5 hS5
          clear KP KA hS5 hc1 hc2
          go_wp2_with fail
          refine KA1.mono ?_
          rintro e W6 ⟨rfl, hS6⟩
          clear KA1
          go_upto_region 11 with fail
          have H7 : Hid (Solo W1 (W6.alloc (.cells #[.int .i64 x, .int .i64 y] 39)) g v2 (n + 1)) := hS6.below (Go.Joins.below_alloc1 _ _)
          have hP7 := Pair.new W6 x y
          generalize W6.alloc (.cells #[.int .i64 x, .int .i64 y] 39) = W7 at *
          generalize W6.heap.size = pq at *
          obtain ⟨y0, y1, y2, y3⟩ := hP7.facts
          have c5 : W7.cell? ⟨q, 5, none⟩ = some (.int .i64 400) := (HC.out.1.below H7.out.low).c5
          clear hP7 hS6 W6
          by_cases hz : z = 0
          · subst hz
            go_wp2_with fail
            refine (KI.out _).mono ?_
            rintro e W8 ⟨rfl, hb8⟩
            have H8 : Hid (Solo W1 W8 g v2 (n + 1)) := H7.out.below hb8
            clear hb8 H7 KI y0 y1 y2 y3 c5
            cases bi
            · have HE : Hid (neR v2 T (j + 1) = A) := by show neR v2 T (j + 1) = A; rw [HX.out]; simp
              clear HX
              go_wp2
              go_roundw
              case rel => exact ⟨j + 1, n + 1, v2, HJ.out.1, HJ.out.2, by have := HV.out; omega, by rw [HE.out], rfl, HN2.out, H8.out⟩
              case measure => have := HJ.out; simp [intOf]; omega
            · obtain ⟨A2, hA2⟩ : ∃ A2, A2 = A + 1 := ⟨_, rfl⟩
              have e8 : IntKind.i64.wrap (A + 1) = A2 := by have := HA1.out; rw [hA2]; exact wrap_in (by omega) (by omega)
              have HE : Hid (neR v2 T (j + 1) = A2) := by show neR v2 T (j + 1) = A2; rw [HX.out]; simp [hA2]
              clear HX hA2
              go_wp2
              go_roundw
              case rel => exact ⟨j + 1, n + 1, v2, HJ.out.1, HJ.out.2, by have := HV.out; omega, by rw [HE.out], rfl, HN2.out, H8.out⟩
              case measure => have := HJ.out; simp [intOf]; omega
          · have HE : Hid (neR v2 T (j + 1) = A) := by show neR v2 T (j + 1) = A; rw [HX.out, if_neg (fun h => hz h.1), Int.add_zero]
            clear HX KI y0 y1 y2 y3 c5
            go_wp2
            go_roundw
            case rel => exact ⟨j + 1, n + 1, v2, HJ.out.1, HJ.out.2, by have := HV.out; omega, by rw [HE.out], rfl, HN2.out, H7.out⟩
            case measure => have := HJ.out; simp [intOf]; omega
        · have HE : Hid (neR v2 T (j + 1) = A) := HP.out hpe
          have hb2 : (pe == 0) = false := by simpa using hpe
          clear HP HX KI KA
          go_wp2_with fail
          refine KP.mono ?_
          rintro e W5 ⟨rfl, hS5⟩
          have H5 : Hid (Solo W1 W5 g v2 (n + 1)) := hS5
          clear KP hS5 hc1 hc2
          go_wp2
          go_roundw
          case rel => exact ⟨j + 1, n + 1, v2, HJ.out.1, HJ.out.2, by have := HV.out; omega, by rw [HE.out], rfl, HN2.out, H5.out⟩
          case measure => have := HJ.out; simp [intOf]; omega
    · have K1 := H1.out.near T
      rw [HV.out.1.three HV.out.2.2 T, ← HA.out] at K1
      have K2 : Hid (∀ W, Solo W1 W g v n → Calls Try.prog 18 #[.pointer (some ⟨g, 0, none⟩), .int .i64 100000] W fun e w' => e = .returned (.int .i64 1) ∧ Solo W1 w' g v n) := fun W hW => by
        have := hW.near 100000
        rw [HV.out.1.last] at this
        exact this
      have K3 : Hid (∀ W, Solo W1 W g v n → Calls Try.prog 20 #[.pointer (some ⟨g, 0, none⟩), .int .i64 100000] W fun e w' => ∃ a c, e = .returned (.slice a 0 c) ∧ Solo W1 w' g v n) := fun W hW => by
        have := hW.fresh 100000
        rw [(HV.out.1.lateN _).2] at this
        refine this.mono ?_
        rintro e w' ⟨sl, rfl, hr, hS⟩
        obtain ⟨a, c, hsl, _⟩ := hr.shape
        exact ⟨a, c, by rw [hsl]; rfl, hS⟩
      have tail_ : True := trivial
      clear tail_ H1 HA
      by_cases hjl2 : (j : Int) < (L.length : Int)
      · have hj3' : ¬ (j : Int) < 3 := fun h => hlt ⟨hjl2, h⟩
        clear hlt hjl hj3
        go_wp2_with fail
        refine K1.mono ?_
        rintro e W3 ⟨rfl, hS3⟩
        have k2 := K2.out _ hS3
        clear K1 K2 hS3
        go_wp2_with fail
        refine k2.mono ?_
        rintro e W4 ⟨rfl, hS4⟩
        have k3 := K3.out _ hS4
        clear k2 K3 hS4
        go_wp2_with fail
        refine k3.mono ?_
        rintro e W5 ⟨a, c, rfl, hS5⟩
        have HB5 : Hid (Below w.heap.size w W5) := HC.out.2.trans (hS5.low.mono HC.out.2.size)
        have k4 := awake_ok W5
        clear k3 hS5
        go_wp2_with fail
        refine k4.mono ?_
        rintro e W6 ⟨rfl, hb6⟩
        have HB6 : Hid (Below w.heap.size w W6) := HB5.out.trans (hb6.mono HB5.out.size)
        clear k4 hb6
        go_wp2
        go_ret
        exact ⟨by first | rfl | simp, HB6.out⟩
      · clear hlt hjl hj3
        go_wp2_with fail
        refine K1.mono ?_
        rintro e W3 ⟨rfl, hS3⟩
        have k2 := K2.out _ hS3
        clear K1 K2 hS3
        go_wp2_with fail
        refine k2.mono ?_
        rintro e W4 ⟨rfl, hS4⟩
        have k3 := K3.out _ hS4
        clear k2 K3 hS4
        go_wp2_with fail
        refine k3.mono ?_
        rintro e W5 ⟨a, c, rfl, hS5⟩
        have HB5 : Hid (Below w.heap.size w W5) := HC.out.2.trans (hS5.low.mono HC.out.2.size)
        have k4 := awake_ok W5
        clear k3 hS5
        go_wp2_with fail
        refine k4.mono ?_
        rintro e W6 ⟨rfl, hb6⟩
        have HB6 : Hid (Below w.heap.size w W6) := HB5.out.trans (hb6.mono HB5.out.size)
        clear k4 hb6
        go_wp2
        go_ret
        exact ⟨by first | rfl | simp, HB6.out⟩
end Go.Proofs.Ytoibndfiolipbaa
