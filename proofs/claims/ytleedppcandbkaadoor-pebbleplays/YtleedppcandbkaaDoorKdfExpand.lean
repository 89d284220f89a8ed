/-
  The contracts of kdf.fit and kdf.Expand.
-/
import Derived.Test.YtleedppcandbkaaDoorKdfA
import Derived.Test.YtleedppcandbkaaDoorHmacB
namespace Go.Proofs.YtleedppcandbkaaDoor
open Go.ChangeShapes Go.WideShapes Go.ChangeAt Go.RowKit

theorem keyL_keyL (key : List UInt8) : keyL (keyL key) = keyL key := by
  have h := keyL_le key
  rw [keyL, if_neg (by omega)]
theorem hmacL_fit (key b : List UInt8) : hmacL (keyL key) b = hmacL key b := by
  unfold hmacL outK inK padK fillK; rw [keyL_keyL]
theorem tK_fit (key info : List UInt8) : ∀ i, tK (keyL key) info i = tK key info i
  | 0 => rfl
  | i + 1 => by rw [tK, tK, tK_fit key info i, hmacL_fit]
theorem catK_fit (key info : List UInt8) : ∀ i, catK (keyL key) info i = catK key info i
  | 0 => rfl
  | i + 1 => by rw [catK, catK, catK_fit key info i, tK_fit]

set_option maxHeartbeats 800000 in
set_option maxRecDepth 20000 in
theorem kfit_ok (w : World) (a : Option Addr) (ca : Nat) (key : List UInt8) (hF : FTab w) (hT : KTab w) (ha : Sees w a ca key) (hk : key.length ≤ 1048576) :
    Calls Tryd.prog 51 #[.slice a key.length ca] w fun e w' => ∃ d cd r, Hid (r = keyL key) ∧ e = .returned (.tuple #[.slice d r.length cd, .int .i64 0]) ∧ Sees w' d cd r ∧ Below w.heap.size w w' := by
  by_cases h : key.length ≤ 64
  · have hE : Hid (key = keyL key) := by rw [keyL, if_neg (by omega)]; exact rfl
    have HA : Hid (Sees w a ca key) := ha
    have d1 : (key.length : Int) ≤ 64 := by omega
    clear ha hF hT
    go_enter Tryd.func51, Tryd.ntmps51
    go_wp2
    go_ret2
    exact ⟨a, ca, key, hE, rfl, HA.out, Below.refl _ _⟩
  · have hof := of_ok w a ca key ha hF hT hk
    have hE : Hid (shaL key = keyL key) := by rw [keyL, if_pos (by omega)]; exact rfl
    have d1 : decide ((key.length : Int) ≤ 64) = false := by simp; omega
    clear ha hF hT
    go_enter Tryd.func51, Tryd.ntmps51
    go_wp2_with fail
    refine hof.mono ?_
    rintro e w1 ⟨d, cd, r, hr, rfl, hs, hb⟩
    have HR : Hid (r = keyL key) := by rw [hr.out, hE.out]; exact rfl
    clear hof hr hE
    go_wp2
    go_ret2
    exact ⟨d, cd, r, HR, rfl, hs, hb⟩

set_option maxHeartbeats 3200000 in
set_option maxRecDepth 20000 in
theorem expand_yes (w : World) (a : Option Addr) (ca : Nat) (key : List UInt8) (b : Option Addr) (cb : Nat) (info : List UInt8) (m : Nat) (hF : FTab w) (hT : KTab w) (ha : Sees w a ca key) (hb : Sees w b cb info) (hm : m ≤ 8160) (hi : info.length ≤ 1000) (hk : key.length ≤ 1048576) :
    Calls Tryd.prog 45 #[.slice a key.length ca, .slice b info.length cb, .int .i64 (m : Int)] w fun e w' => ∃ d cd r, Hid (r = expandL key info m) ∧ e = .returned (.tuple #[.slice d m cd, .int .i64 0]) ∧ r.length = m ∧ Sees w' d cd r ∧ Below w.heap.size w w' := by
  obtain ⟨i5, hi5, hz0, hz1, hz2⟩ := info_parts Tryd.info5
  have hfit := kfit_ok w a ca key hF hT ha hk
  have HB : Hid (Sees w b cb info) := hb
  have HF : Hid (FTab w) := hF
  have HT : Hid (KTab w) := hT
  have d1 : decide ((m : Int) < 0) = false := by simp
  have d2 : decide ((8160 : Int) < (m : Int)) = false := by simp; omega
  have d3 : decide ((1000 : Int) < (info.length : Int)) = false := by simp; omega
  clear ha hb hF hT
  go_enter Tryd.func45, Tryd.ntmps45
  go_wp2_with fail
  refine hfit.mono ?_
  rintro e w1 ⟨ad, ac, K, hK, rfl, hsK, hb1⟩
  have hKl : K.length ≤ 64 := by rw [hK.out]; exact keyL_le key
  have HE : Hid (∀ i, catK K info i = catK key info i) := fun i => by rw [hK.out]; exact catK_fit key info i
  have HTT : Hid (∀ i, tK K info i = tK key info i) := fun i => by rw [hK.out]; exact tK_fit key info i
  obtain ⟨q, hq⟩ : ∃ q, q = (m + 31) / 32 := ⟨_, rfl⟩
  have HQ : Hid (q = (m + 31) / 32) := hq
  have hq255 : q ≤ 255 := by omega
  have hqd : ((m : Int) + 32 - 1) / 32 = (q : Int) := by omega
  have HSK : Hid (Sees w1 ad ac K) := hsK
  clear hfit hK hq hsK
  go_wp2_with (at_make; refine wpList_make_own _ rfl _ _ 22 rfl w1.heap.size 5 i5 (.int .u8 0) 1 Tryd.underlying22 hi5 hz0 hz1 _ _ _ (32 * q) rfl rfl ?b1 ?b2 ?b3 (Nat.le_refl _) ?_)
  case b1 => push_cast; omega
  case b2 => rw [hz2]; omega
  case b3 => unfold maxLen; omega
  intro w2 hown2 hgrow2
  have hb2 : Below w1.heap.size w1 w2 := (Below.refl _ _).grown hgrow2 (Nat.le_refl _) (by intro k h; cases h)
  have HF1 : Hid (FTab w1) := HF.out.below hb1
  have HT1 : Hid (KTab w1) := HT.out.below hb1
  have HB1 : Hid (Sees w1 b cb info) := HB.out.below hb1
  have HQ1 : Hid (∀ k, k ≤ q → ¬ k < q → m ≤ 32 * k) := fun k h1 h2 => by have := HQ.out; omega
  clear hgrow2 HF HT HB hqd HQ hz0 hz1 hz2 hi5 i5
  go_wp2
  go_loopw [8, 10, 11, 12, 38] (fun er v t _ j wr => ∃ (k : Nat) (td : Option Addr) (tc : Nat) (T : List UInt8), k ≤ q ∧ er = .int .i64 0 ∧ j = .int .i64 (k : Int) ∧ wr.ownsRow w1.heap.size 5 1 v (32 * k) ((catK K info k).map cellOf) ∧ t = .slice td T.length tc ∧ Hid (T = tK K info k) ∧ T.length ≤ 32 ∧ Sees wr td tc T ∧ Below w1.heap.size w1 wr)
    (fun _ _ _ _ j _ => q - (intOf j).toNat)
  case atStart => exact ⟨0, none, 0, [], by omega, rfl, rfl, hown2, rfl, rfl, by simp, Sees.nil' _, hb2⟩
  case round =>
    obtain ⟨k, td, tc, T, hkq, rfl, rfl, own, rfl, hTT, hTl, hsT, bel⟩ := hrel
    have hcl : (catK K info k).length = 32 * k := catK_length K info k
    obtain ⟨C, hC⟩ : ∃ C, C = catK K info k := ⟨_, rfl⟩
    rw [← hC] at own hcl
    obtain ⟨d, cd, hv, hsC⟩ := Sees.of_own own
    rw [hcl] at hv
    subst hv
    clear hown2 hb2
    by_cases hlt : k < q
    · obtain ⟨x3, hx3⟩ : ∃ x : UInt8, x = UInt8.ofNat (k + 1) := ⟨_, rfl⟩
      have ex3 : IntKind.u8.wrap ((k : Int) + 1) = (x3.toNat : Int) := by
        rw [hx3, UInt8.toNat_ofNat', IntKind.wrap_u8]; omega
      obtain ⟨w2', hw2'⟩ : ∃ w2', w2' = wr.alloc (.cells #[.int .u8 (x3.toNat : Int)] 5) := ⟨_, rfl⟩
      obtain ⟨w3, hw3⟩ : ∃ w3, w3 = w2'.alloc (.cells #[.slice td T.length tc, .slice b info.length cb, .slice (some ⟨wr.heap.size, 0, none⟩) 1 1] 22) := ⟨_, rfl⟩
      have hs2 : w2'.heap.size = wr.heap.size + 1 := by rw [hw2']; simp
      have hs3 : w3.heap.size = wr.heap.size + 2 := by rw [hw3]; simp [hs2]
      have hb23 : Below w2'.heap.size w2' w3 := by rw [hw3]; exact (Below.refl _ _).alloc (Nat.le_refl _) _
      have hbr2 : Below wr.heap.size wr w2' := by rw [hw2']; exact (Below.refl _ _).alloc (Nat.le_refl _) _
      have hbr3 : Below wr.heap.size wr w3 := hbr2.trans (hb23.mono hbr2.size)
      have hsx : Sees w3 (some ⟨wr.heap.size, 0, none⟩) 1 [x3] := by
        have h9 : Sees w2' (some ⟨wr.heap.size, 0, none⟩) 1 [x3] := by rw [hw2']; exact sees_lit wr [x3] 5 (0, 0) (by simp)
        exact h9.below hb23
      have bel3 := bel.trans (hbr3.mono bel.size)
      have hflat : flatP [(td, tc, T), (b, cb, info), (some ⟨wr.heap.size, 0, none⟩, 1, [x3])] = T ++ info ++ [x3] := by simp [flatP]
      have hcc := concat_own w3 (wr.heap.size + 1) [(td, tc, T), (b, cb, info), (some ⟨wr.heap.size, 0, none⟩, 1, [x3])] (fun j p hj => by
        have hrow := cell_of_row w3 (wr.heap.size + 1) j #[.slice td T.length tc, .slice b info.length cb, .slice (some ⟨wr.heap.size, 0, none⟩) 1 1] 22 (0, 0) (by rw [hw3, ← hs2]; exact heap_alloc_new w2' _)
        match j, hj with
        | 0, hj => simp at hj; subst hj; exact ⟨by rw [hrow]; rfl, hsT.below hbr3⟩
        | 1, hj => simp at hj; subst hj; exact ⟨by rw [hrow]; rfl, HB1.out.below bel3⟩
        | 2, hj => simp at hj; subst hj; exact ⟨by rw [hrow]; rfl, hsx⟩
        | j + 3, hj => simp at hj) (by omega) (by rw [hflat]; simp; omega) (by rw [hflat]; simp; omega) (by simp)
      rw [hflat] at hcc
      have hcc' : Calls Tryd.prog 53 #[.slice (some ⟨wr.heap.size + 1, 0, none⟩) 3 3] ((wr.alloc (.cells #[.int .u8 (x3.toNat : Int)] 5)).alloc (.cells #[.slice td T.length tc, .slice b info.length cb, .slice (some ⟨wr.heap.size, 0, none⟩) 1 1] 22)) fun e w' => ∃ d cd r, Hid (r = T ++ info ++ [x3]) ∧ e = .returned (.slice d r.length cd) ∧ Sees w' d cd r ∧ Below w3.heap.size w3 w' := by
        rw [← hw2', ← hw3]; exact hcc
      have HX3 : Hid (x3 = UInt8.ofNat (k + 1)) := hx3
      have own3 : Hid (w3.ownsRow w1.heap.size 5 1 (.slice d (32 * k) cd) (32 * k) (C.map cellOf)) := own_keepB own hbr3
      have hlt3 : Hid (∀ g, (Value.slice d (32 * k) cd).ownBlock = some g → g < w3.heap.size) := fun g h => Nat.lt_of_lt_of_le (own.lt _ h).2 hbr3.size
      have HCn : Hid (catK K info (k + 1) = C ++ tK K info (k + 1)) := by rw [hC]; exact rfl
      have BEL3 : Hid (Below w1.heap.size w1 w3) := bel3
      have hTX : Hid (hmacL K (T ++ info ++ [x3]) = tK K info (k + 1)) := by rw [hTT.out, hx3]; exact rfl
      have HXl : Hid ((T ++ info ++ [x3]).length ≤ 2000) := by
        have h9 : (T ++ info ++ [x3]).length ≤ 2000 := by simp; omega
        exact h9
      clear hcc hflat hsx hb23 hbr2 hbr3 hs2 hs3 hw3 hw2' hx3 own hC hsC hsT bel bel3 hTT hTl hcl
      go_wp2_with fail
      refine hcc'.mono ?_
      rintro e w4 ⟨xd, xc, X, hX, rfl, hsX, hb4⟩
      have bel4 := BEL3.out.trans (hb4.mono BEL3.out.size)
      have hof := hof_own w4 ad ac K xd xc X (HF1.out.below bel4) (HT1.out.below bel4) (HSK.out.below bel4) hsX (by omega) (by have := HXl.out; rw [← hX.out] at this; omega)
      have own4 : Hid (w4.ownsRow w1.heap.size 5 1 (.slice d (32 * k) cd) (32 * k) (C.map cellOf)) := own_keepB own3.out hb4
      have hlt4 : Hid (∀ g, (Value.slice d (32 * k) cd).ownBlock = some g → g < w4.heap.size) := fun g h => Nat.lt_of_lt_of_le (hlt3.out g h) hb4.size
      have HTX : Hid (hmacL K X = tK K info (k + 1)) := by rw [hX.out]; exact hTX.out
      have BEL4 : Hid (Below w1.heap.size w1 w4) := bel4
      clear hcc' hX hsX hb4 bel4 BEL3 own3 hlt3 HXl hTX ex3 HX3
      go_wp2_with fail
      refine hof.mono ?_
      rintro e w5 ⟨d5, c5, D, hD, rfl, hs5, hb5, ho5⟩
      obtain ⟨i5, hi5, hz0, hz1, hz2⟩ := info_parts Tryd.info5
      have bel5 := BEL4.out.trans (hb5.mono BEL4.out.size)
      have hDl : D.length = 32 := by rw [hD.out]; exact hmacL_length _ _
      have own5 := own_keepB own4.out hb5
      obtain ⟨ad5, rfl⟩ : ∃ ad5, d5 = some ad5 := by obtain ⟨b, off, h, _⟩ := hs5.at' (by intro h; rw [h] at hDl; simp at hDl); exact ⟨_, h⟩
      obtain ⟨v6, w6, hrun6, ho6, hg6, _⟩ := run_append_own (P := Tryd.prog) w5 w1.heap.size 22 22 5 i5 (.int .u8 0) 1 1 Tryd.underlying22 hi5 hz0 hz1 hz2 rfl (by omega) _ (32 * k) (C.map cellOf) own5 ad5 D.length c5 (D.map cellOf) (by simp) (hs5.news ad5 rfl) (bytes_oneCell D) (by unfold maxLen; omega) (by omega) bel5.size
      have bel6 : Below w1.heap.size w1 w6 := bel5.grown hg6 bel5.size (fun k hk => (own5.lt _ hk).1)
      have hs6 : Sees w6 (some ad5) c5 D := hs5.grown' hg6 (fun b' off hh _ hrow => by
        have h1 := (ho5.lt b' (by simp [Value.ownBlock] at hh ⊢; rw [hh])).1
        have h2 := hlt4.out b' hrow
        omega)
      have R6 : Hid ((Builtin.append_ #[22, 22] 22 #[.slice d (32 * k) cd, .slice (some ad5) D.length c5]).run Tryd.prog w5 = .ok v6 w6) := hrun6
      have own6 : Hid (w6.ownsRow w1.heap.size 5 1 v6 (32 * (k + 1)) ((catK K info (k + 1)).map cellOf)) := by
        rw [HCn.out, ← HTX.out, ← hD.out, List.map_append, show 32 * (k + 1) = 32 * k + D.length from by omega]; exact ho6
      have HD : Hid (D = tK K info (k + 1)) := by rw [hD.out, HTX.out]; exact rfl
      have HDl : Hid (D.length ≤ 32) := by rw [hDl]; exact Nat.le_refl _
      have HS6 : Hid (Sees w6 (some ad5) c5 D) := hs6
      have BEL6 : Hid (Below w1.heap.size w1 w6) := bel6
      clear hof hrun6 ho6 hg6 ho5 own4 own5 hs5 hs6 hb5 bel5 bel6 hlt4 hD hDl HCn HTX BEL4 hz0 hz1 hz2 hi5 i5
      go_wp2_with (at_builtin; refine wpList_append_run rfl _ _ 22 rfl _ _ _ rfl rfl R6.out ?_)
      go_roundw
      case rel => exact ⟨k + 1, some ad5, c5, D, by omega, rfl, by go_num, own6.out, rfl, HD, HDl.out, HS6.out, BEL6.out⟩
      case measure => simp [intOf]; omega
    · have hmk := HQ1.out k hkq hlt
      have hr : C.take m = expandL key info m := by rw [hC, HE.out k]; exact catK_take key info k m hmk
      have HR : Hid (C.take m = expandL key info m) := hr
      have hsm := hsC.take m
      have hlm : (C.take m).length = m := by rw [List.length_take, hcl]; omega
      have hfit := hsC.fits
      rw [hcl] at hfit
      have hsm' : Sees wr d m (C.take m) := ⟨by omega, by unfold maxLen; omega, fun h => by have := hsC.bare h; omega, hsm.at'⟩
      have BEL : Hid (Below w.heap.size w wr) := hb1.trans (bel.mono hb1.size)
      by_cases hk0 : k = 0
      · obtain rfl : m = 0 := by omega
        subst hk0
        clear hr hC hsT hTl hTT own hcl hsC hsm bel
        go_wp2
        go_ret2
        exact ⟨d, 0, C.take 0, HR, rfl, hlm, hsm', BEL.out⟩
      · obtain ⟨gb, go, rfl, _⟩ := hsC.at' (by intro h; rw [h] at hcl; simp at hcl; omega)
        have hnc : m ≤ cd := by omega
        clear hr hC hsT hTl hTT own hsC hsm bel
        go_wp2
        go_ret2
        exact ⟨_, m, C.take m, HR, rfl, hlm, hsm', BEL.out⟩

set_option maxHeartbeats 800000 in
set_option maxRecDepth 20000 in
theorem expand_no (w : World) (a : Option Addr) (ca : Nat) (key : List UInt8) (b : Option Addr) (cb : Nat) (info : List UInt8) (n : Int) (him : info.length ≤ 9223372036854775807) (h : n < 0 ∨ 8160 < n ∨ 1000 < info.length) :
    Calls Tryd.prog 45 #[.slice a key.length ca, .slice b info.length cb, .int .i64 n] w fun e w' => Says w w' e (expandP key info n) := by
  by_cases h1 : n < 0
  · have hE : expandP key info n = ([], 1) := by unfold expandP; rw [if_pos (.inl h1)]
    rw [hE]
    clear hE h
    go_enter Tryd.func45, Tryd.ntmps45
    go_wp2
    go_ret2
    exact Says.nothing 1 (Below.refl _ _)
  have d1 : decide (n < 0) = false := by simp; omega
  by_cases h2 : 8160 < n
  · have hE : expandP key info n = ([], 1) := by unfold expandP; rw [if_pos (.inr h2)]
    rw [hE]
    clear hE h
    go_enter Tryd.func45, Tryd.ntmps45
    go_wp2
    go_ret2
    exact Says.nothing 1 (Below.refl _ _)
  have d2 : decide (8160 < n) = false := by simp; omega
  have h3 : 1000 < info.length := by omega
  have hE : expandP key info n = ([], 2) := by unfold expandP; rw [if_neg (by omega), if_pos (.inl h3)]
  rw [hE]
  clear hE h
  go_enter Tryd.func45, Tryd.ntmps45
  go_wp2
  go_ret2
  exact Says.nothing 2 (Below.refl _ _)

theorem expand_any : KexpandOk := by
  intro w a ca key b cb info n hF hT ha hb hk
  have him : info.length ≤ 9223372036854775807 := by have := hb.fits; have := hb.room; unfold maxLen at this; omega
  by_cases h : n < 0 ∨ 8160 < n ∨ 1000 < info.length
  · exact expand_no w a ca key b cb info n him h
  · obtain ⟨m, rfl⟩ : ∃ m : Nat, n = m := ⟨n.toNat, by omega⟩
    have hE : expandP key info (m : Int) = (expandL key info m, 0) := by unfold expandP; rw [if_neg (by omega), if_neg (by omega)]; simp
    rw [hE]
    refine (expand_yes w a ca key b cb info m hF hT ha hb (by omega) (by omega) (by omega)).mono ?_
    rintro e w' ⟨d, cd, r, hr, rfl, hl, hs, hbl⟩
    exact ⟨d, cd, r, hr, by rw [hl]; rfl, hs, hbl⟩
end Go.Proofs.YtleedppcandbkaaDoor
