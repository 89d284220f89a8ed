/-
  The walk of BitsBack.
-/
import Derived.Test.YtapfcgklocflfaaBitsRd
namespace Go.Proofs.Ytapfcgklocflfaa
open Go.ChangeShapes Go.WideShapes Go.ChangeAt Go.RowKit

/-- The width and the number that are put k-th, and all bits ahead of them. -/
def mOf (ws : List UInt8) (k : Nat) : Nat := (ws.getD k 0).toNat % 65
def xOf (ns : List Int) (ws : List UInt8) (k : Nat) : Nat := (ns.getD k 0).toNat % 2 ^ mOf ws k
def allB (ns : List Int) (ws : List UInt8) : Nat → List Bool
  | 0 => []
  | k + 1 => allB ns ws k ++ bitsN (xOf ns ws k) (mOf ws k)
theorem mOf_le (ws : List UInt8) (k : Nat) : mOf ws k ≤ 64 := by unfold mOf; omega
theorem allB_len (ns : List Int) (ws : List UInt8) : ∀ k, (allB ns ws k).length ≤ 64 * k
  | 0 => by simp [allB]
  | k + 1 => by
    rw [allB, List.length_append, bitsN_length]
    have := allB_len ns ws k; have := mOf_le ws k; omega
theorem allB_pre (ns : List Int) (ws : List UInt8) : ∀ (K k : Nat), k ≤ K → ∃ t, allB ns ws K = allB ns ws k ++ t
  | 0, k, h => by obtain rfl : k = 0 := by omega
                  exact ⟨[], by simp⟩
  | K + 1, k, h => by
    rcases Nat.lt_or_ge k (K + 1) with h1 | h1
    · obtain ⟨t, ht⟩ := allB_pre ns ws K k (by omega)
      exact ⟨t ++ bitsN (xOf ns ws K) (mOf ws K), by rw [allB, ht, List.append_assoc]⟩
    · obtain rfl : k = K + 1 := by omega
      exact ⟨[], by simp⟩
/-- What was put k-th is got. -/
theorem back_get (ns : List Int) (ws : List UInt8) (K k : Nat) (h : k < K) : nextB (packL (allB ns ws K)) (allB ns ws k).length (mOf ws k) = bitsN (xOf ns ws k) (mOf ws k) ∧ (allB ns ws k).length + mOf ws k = (allB ns ws (k + 1)).length ∧ (allB ns ws (k + 1)).length ≤ 8 * (packL (allB ns ws K)).length := by
  obtain ⟨t, ht⟩ := allB_pre ns ws K (k + 1) h
  have h1 : (allB ns ws k).length + mOf ws k = (allB ns ws (k + 1)).length := by rw [allB, List.length_append, bitsN_length]
  have h2 : (allB ns ws (k + 1)).length ≤ (allB ns ws K).length := by rw [ht, List.length_append]; omega
  refine ⟨?_, h1, by rw [packL_length]; omega⟩
  unfold nextB
  rw [packL_bits, ht, allB, List.append_assoc, List.append_assoc, List.drop_left, List.take_append_of_le_length (by rw [bitsN_length]; exact Nat.le_refl _), List.take_of_length_le (by rw [bitsN_length]; exact Nat.le_refl _)]
theorem num_zeros : ∀ n, num (List.replicate n false) = 0
  | 0 => rfl
  | n + 1 => by rw [List.replicate_succ', num_snoc, num_zeros n]; rfl
theorem back_end (bs : List Bool) : endP (packL bs) bs.length = 0 := by
  unfold endP
  have h1 : 8 * (packL bs).length - bs.length = 8 * ((bs.length + 7) / 8) - bs.length := by rw [packL_length]
  rw [if_neg (by omega), if_pos]
  unfold nextB
  rw [packL_bits, List.drop_left, List.take_of_length_le (by simp; omega), num_zeros]
theorem xOf_lt (ns : List Int) (ws : List UInt8) (k : Nat) : xOf ns ws k < 2 ^ mOf ws k := Nat.mod_lt _ (Nat.two_pow_pos _)

set_option maxHeartbeats 6400000 in
set_option maxRecDepth 20000 in
theorem back_walk (a1 : Option Addr) (ca1 : Nat) (ns : List Int) (a2 : Option Addr) (ca2 : Nat) (ws : List UInt8) (w : World) (h1 : Nums .u64 w a1 ca1 ns) (h2 : Sees w a2 ca2 ws) (_ : ca2 ≤ 140737488351232) :
    Calls Try.prog 5 #[.slice a1 ns.length ca1, .slice a2 ws.length ca2] w fun e w' => e = .returned (.bool true) ∧ Below w.heap.size w w' := by
  have H1 : Hid (Nums .u64 w a1 ca1 ns) := h1
  have H2 : Hid (Sees w a2 ca2 ws) := h2
  have l1 := h1.len
  have l2 : ws.length ≤ 9223372036854775807 := by have := h2.fits; have := h2.room; unfold maxLen at this; omega
  have hnew := wnew_ok w
  -- what is read of the k-th
  have hread : ∀ k, k < ns.length → k < ws.length → ∃ (n x m : Nat) (y : UInt8) (nb no wb wo : Nat), a1 = some ⟨nb, no, none⟩ ∧ a2 = some ⟨wb, wo, none⟩ ∧ (∀ w', Below w.heap.size w w' → w'.cell? ⟨nb, no + k, none⟩ = some (.int .u64 (n : Int)) ∧ w'.cell? ⟨wb, wo + k, none⟩ = some (.int .u8 (y.toNat : Int))) ∧
      n < 18446744073709551616 ∧ y.toNat < 256 ∧ y.toNat % 65 = m ∧ m ≤ 64 ∧ m = mOf ws k ∧ x = xOf ns ws k ∧ (m < 64 → bits .and .u64 (n : Int) ((2 : Int) ^ m - 1) = (x : Int)) ∧ (¬ m < 64 → n = x) := by
    intro k k1 k2
    obtain ⟨z, hz⟩ : ∃ z, ns[k]? = some z := ⟨ns[k], by simp [k1]⟩
    obtain ⟨y, hy⟩ : ∃ y, ws[k]? = some y := ⟨ws[k], by simp [k2]⟩
    obtain ⟨nb, no, rfl, cn⟩ := H1.out.get hz
    obtain ⟨wb, wo, rfl, cw⟩ := H2.out.get hy
    have hzb := bounds_u64 (H1.out.wf z (List.mem_of_getElem? hz))
    obtain ⟨n, rfl⟩ : ∃ n : Nat, z = (n : Int) := ⟨z.toNat, by omega⟩
    have hm : mOf ws k = y.toNat % 65 := by unfold mOf; rw [List.getD_eq_getElem?_getD, hy]; rfl
    have hx : xOf ns ws k = n % 2 ^ (y.toNat % 65) := by unfold xOf; rw [hm, List.getD_eq_getElem?_getD, hz]; rfl
    refine ⟨n, xOf ns ws k, y.toNat % 65, y, nb, no, wb, wo, rfl, rfl, fun w' hb' => ⟨by rw [hb'.cell (p := ⟨nb, no + k, none⟩) (World.block_lt_of_cell? w _ cn)]; exact cn, by rw [hb'.cell (p := ⟨wb, wo + k, none⟩) (World.block_lt_of_cell? w _ cw)]; exact cw⟩, by omega, toNat_lt256 y, rfl, by omega, hm.symm, rfl, ?_, ?_⟩
    · intro hlt
      have hp : 2 ^ (y.toNat % 65) ≤ 2 ^ 63 := Nat.pow_le_pow_right (by omega) (by omega)
      have hp0 := Nat.two_pow_pos (y.toNat % 65)
      have e1 : (2 : Int) ^ (y.toNat % 65) - 1 = ((2 ^ (y.toNat % 65) - 1 : Nat) : Int) := by
        rw [Int.natCast_sub hp0]; simp
      rw [e1, u64_and_nat n _ (by omega) (by omega), Nat.and_two_pow_sub_one_eq_mod, hx]
    · intro hge
      have : y.toNat % 65 = 64 := by omega
      rw [hx, this, Nat.mod_eq_of_lt]; omega
  have HREAD : Hid (∀ k, k < ns.length → k < ws.length → ∃ (n x m : Nat) (y : UInt8) (nb no wb wo : Nat), a1 = some ⟨nb, no, none⟩ ∧ a2 = some ⟨wb, wo, none⟩ ∧ (∀ w', Below w.heap.size w w' → w'.cell? ⟨nb, no + k, none⟩ = some (.int .u64 (n : Int)) ∧ w'.cell? ⟨wb, wo + k, none⟩ = some (.int .u8 (y.toNat : Int))) ∧
      n < 18446744073709551616 ∧ y.toNat < 256 ∧ y.toNat % 65 = m ∧ m ≤ 64 ∧ m = mOf ws k ∧ x = xOf ns ws k ∧ (m < 64 → bits .and .u64 (n : Int) ((2 : Int) ^ m - 1) = (x : Int)) ∧ (¬ m < 64 → n = x)) := hread
  clear h1 h2 hread
  go_enter Try.func5, Try.ntmps5
  go_wp2_with fail
  refine hnew.mono ?_
  rintro e w1 ⟨b, F0, rfl, hM1, hb1, hF1⟩
  have HB0 : Hid (∃ F, RowB 62 [] w1 b (allB ns ws 0) F ∧ ∀ k, F k → w.heap.size ≤ k) := ⟨F0, hM1, hF1⟩
  clear hnew hM1 hF1
  go_wp2
  go_loopw [6, 7, 8] (fun i _ _ wr => ∃ k : Nat, k ≤ 100 ∧ k ≤ ns.length ∧ k ≤ ws.length ∧ i = .int .i64 k ∧ (∃ F, RowB 62 [] wr b (allB ns ws k) F ∧ ∀ k, F k → w.heap.size ≤ k) ∧ Below w.heap.size w wr) (fun i _ _ _ => 100 - (intOf i).toNat)
  case atStart => exact ⟨0, by omega, by omega, by omega, rfl, HB0.out, hb1⟩
  case round =>
    obtain ⟨k, hk, hk1, hk2, rfl, ⟨F, hm, hF⟩, bel⟩ := hrel
    clear HB0 hb1
    have hbl := allB_len ns ws k
    by_cases hall : k < ns.length ∧ k < ws.length ∧ k < 100
    · obtain ⟨k1, k2, k3⟩ := hall
      obtain ⟨n, x, m, y, nb, no, wb, wo, rfl, rfl, hc, hn, hy, hym, hm64, hmk, hxk, hand, hbig⟩ := HREAD.out k k1 k2
      obtain ⟨cn, cw⟩ := hc wr bel
      have hxl : x < 2 ^ m := by rw [hxk, hmk]; exact xOf_lt ns ws k
      have hx64 : x < 18446744073709551616 := Nat.lt_of_lt_of_le hxl (Nat.pow_le_pow_right (n := 2) (i := m) (j := 64) (by omega) hm64)
      have hput := wput_ok wr b (allB ns ws k) F x (m : Int) hm hx64 (by omega)
      have e1 : putP (allB ns ws k).length x (m : Int) = 0 := by unfold putP; rw [if_neg (by simp; omega), if_neg (by simp; omega)]
      have e2 : putB (allB ns ws k) x (m : Int) = allB ns ws (k + 1) := by unfold putB; rw [e1, allB, ← hmk, ← hxk]; rfl
      rw [e1, e2] at hput
      have ym1 : (y.toNat : Int) % 65 = (m : Int) := by omega
      have ym2 : (y.toNat : Int).tmod 65 = (m : Int) := by rw [Int.tmod_eq_emod_of_nonneg (by omega)]; exact ym1
      have wm : IntKind.i64.wrap (m : Int) = (m : Int) := by rw [IntKind.wrap_i64]; omega
      have HP : Hid (Calls Try.prog 9 #[.pointer (some ⟨b, 0, none⟩), .int .u64 (x : Int), .int .i64 (m : Int)] wr fun e w' => e = .returned (.int .i64 0) ∧ Left (RowB 62 []) wr F b (allB ns ws (k + 1)) w') := hput
      have HF : Hid (∀ k, F k → w.heap.size ≤ k) := hF
      have mm : min m 64 = m := by omega
      obtain ⟨q, hq⟩ : ∃ q : Nat, q = 2 ^ m := ⟨_, rfl⟩
      clear hput e1 e2 hm hF hc hmk hxk
      by_cases hlt : m < 64
      · have hp : q ≤ 9223372036854775808 := by rw [hq]; exact Nat.pow_le_pow_right (n := 2) (i := m) (j := 63) (by omega) (by omega)
        have hp0 : 0 < q := by rw [hq]; exact Nat.two_pow_pos m
        have eq1 : (2 : Int) ^ m = (q : Int) := by rw [hq]; simp
        have wq : IntKind.u64.wrap (q : Int) = (q : Int) := by rw [IntKind.wrap_u64]; omega
        have wq2 : IntKind.u64.wrap ((q : Int) - 1) = (q : Int) - 1 := by rw [IntKind.wrap_u64]; omega
        have ha := hand hlt
        rw [eq1] at ha
        clear hand hbig hq hxl
        go_wp2_with fail
        refine HP.out.mono ?_
        rintro e w2 ⟨rfl, hL⟩
        have bel2 := hL.below bel HF.out bel.size
        have HN : Hid (∃ F, RowB 62 [] w2 b (allB ns ws (k + 1)) F ∧ ∀ k, F k → w.heap.size ≤ k) := by
          obtain ⟨F2, hM2, _, hF2⟩ := hL
          exact ⟨F2, hM2, fun i hi => by
            rcases hF2 i hi with h | h
            · exact HF.out i h
            · have := bel.size; omega⟩
        clear hL HP
        go_wp2
        go_roundw
        case rel => exact ⟨k + 1, by omega, by omega, by omega, by go_num, HN.out, bel2⟩
        case measure => simp [intOf]; omega
      · have hnx := hbig hlt
        subst hnx
        clear hand hbig hq hxl
        go_wp2_with fail
        refine HP.out.mono ?_
        rintro e w2 ⟨rfl, hL⟩
        have bel2 := hL.below bel HF.out bel.size
        have HN : Hid (∃ F, RowB 62 [] w2 b (allB ns ws (k + 1)) F ∧ ∀ k, F k → w.heap.size ≤ k) := by
          obtain ⟨F2, hM2, _, hF2⟩ := hL
          exact ⟨F2, hM2, fun i hi => by
            rcases hF2 i hi with h | h
            · exact HF.out i h
            · have := bel.size; omega⟩
        clear hL HP
        go_wp2
        go_roundw
        case rel => exact ⟨k + 1, by omega, by omega, by omega, by go_num, HN.out, bel2⟩
        case measure => simp [intOf]; omega
    · have hdone := wdone_ok wr b (allB ns ws k) F hm (by omega)
      have HF : Hid (∀ k, F k → w.heap.size ≤ k) := hF
      obtain ⟨L, hL⟩ : ∃ L, L = (allB ns ws k).length := ⟨_, rfl⟩
      have HL : Hid (L ≤ 6400 ∧ L = (allB ns ws k).length) := ⟨by omega, hL⟩
      have hca : ¬ k < ns.length ∨ (k < ns.length ∧ ¬ k < ws.length) ∨ (k < ns.length ∧ k < ws.length ∧ ¬ k < 100) := by omega
      clear hm hF hall hL hbl
      rcases hca with hca | ⟨k1, hca⟩ | ⟨k1, k2, hca⟩
      all_goals
        go_wp2_with fail
        refine hdone.mono ?_
        rintro e w2 ⟨d, cd, r, hr, rfl, hs2, hb2⟩
        have hnr := rdnew_ok w2 d cd r hs2 (by rw [hr.out, packL_length]; have := HL.out; omega)
        have bel2 := bel.trans (hb2.mono bel.size)
        clear hdone hs2 hb2
        go_wp2_with fail
        refine hnr.mono ?_
        rintro e w3 ⟨g, G, rfl, hR3, hb3, hG3⟩
        have bel3 := bel2.trans (hb3.mono bel2.size)
        have HR0 : Hid (∃ G, RdM r w3 g (allB ns ws 0).length G ∧ ∀ k, G k → w.heap.size ≤ k) := ⟨G, hR3, fun i hi => by have := hG3 i hi; have := bel2.size; omega⟩
        clear hnr hR3 hG3 hb3 bel2 bel
        go_wp2
        go_loopw [10, 11, 12, 13, 14] (fun i _ _ _ _ wr => ∃ j : Nat, j ≤ k ∧ i = .int .i64 j ∧ (∃ G, RdM r wr g (allB ns ws j).length G ∧ ∀ k, G k → w.heap.size ≤ k) ∧ Below w.heap.size w wr) (fun i _ _ _ _ _ => k - (intOf i).toNat)
        case atStart => exact ⟨0, by omega, rfl, HR0.out, bel3⟩
        case round =>
          obtain ⟨j, hj, rfl, ⟨G4, hR4, hG4⟩, bel4⟩ := hrel
          clear HR0 bel3
          have hrl : r.length ≤ 1000 := by rw [hr.out, packL_length]; have := HL.out; omega
          by_cases hjk : j < k
          · have j1 : j < ns.length := by omega
            have j2 : j < ws.length := by omega
            obtain ⟨n, x, m, y, nb, no, wb, wo, rfl, rfl, hc, hn, hy, hym, hm64, hmk, hxk, hand, hbig⟩ := HREAD.out j j1 j2
            obtain ⟨cn, cw⟩ := hc wr bel4
            obtain ⟨b1, b2, b3⟩ := back_get ns ws k j hjk
            rw [← hr.out, ← hmk] at b1
            rw [← hmk] at b2
            rw [← hr.out] at b3
            have hget := rdget_ok r wr g (allB ns ws j).length G4 hR4 (by omega) (m : Int) (by omega)
            have e1 : getP (8 * r.length - (allB ns ws j).length) (m : Int) = 0 := by unfold getP; rw [if_neg (by omega), if_neg (by omega)]
            have e2 : getN r (allB ns ws j).length (m : Int) = x := by
              unfold getN
              rw [e1, if_pos rfl, Int.toNat_natCast, b1, num_bitsN, ← hxk, hxk, hmk, Nat.mod_eq_of_lt (xOf_lt ns ws j)]
            have e3 : getAt r (allB ns ws j).length (m : Int) = (allB ns ws (j + 1)).length := by unfold getAt; rw [e1, if_pos rfl, Int.toNat_natCast, b2]
            rw [e1, e2, e3] at hget
            have hxl : x < 18446744073709551616 := by
              have : x < 2 ^ m := by rw [hxk, hmk]; exact xOf_lt ns ws j
              exact Nat.lt_of_lt_of_le this (Nat.pow_le_pow_right (n := 2) (i := m) (j := 64) (by omega) hm64)
            have ym1 : (y.toNat : Int) % 65 = (m : Int) := by omega
            have ym2 : (y.toNat : Int).tmod 65 = (m : Int) := by rw [Int.tmod_eq_emod_of_nonneg (by omega)]; exact ym1
            have wm : IntKind.i64.wrap (m : Int) = (m : Int) := by rw [IntKind.wrap_i64]; omega
            have HP : Hid (Calls Try.prog 18 #[.pointer (some ⟨g, 0, none⟩), .int .i64 (m : Int)] wr fun e w' => e = .returned (.tuple #[.int .u64 (x : Int), .int .i64 0]) ∧ Left (RdM r) wr G4 g (allB ns ws (j + 1)).length w') := hget
            have HG : Hid (∀ k, G4 k → w.heap.size ≤ k) := hG4
            have mm : min m 64 = m := by omega
            obtain ⟨q, hq⟩ : ∃ q : Nat, q = 2 ^ m := ⟨_, rfl⟩
            clear hget e1 e2 e3 hR4 hG4 hc hmk hxk b1 b2 b3 hrl
            by_cases hlt : m < 64
            · have hp : q ≤ 9223372036854775808 := by rw [hq]; exact Nat.pow_le_pow_right (n := 2) (i := m) (j := 63) (by omega) (by omega)
              have hp0 : 0 < q := by rw [hq]; exact Nat.two_pow_pos m
              have eq1 : (2 : Int) ^ m = (q : Int) := by rw [hq]; simp
              have wq : IntKind.u64.wrap (q : Int) = (q : Int) := by rw [IntKind.wrap_u64]; omega
              have wq2 : IntKind.u64.wrap ((q : Int) - 1) = (q : Int) - 1 := by rw [IntKind.wrap_u64]; omega
              have ha := hand hlt
              rw [eq1] at ha
              clear hand hbig hq
              go_wp2_with fail
              refine HP.out.mono ?_
              rintro e w5 ⟨rfl, hL5⟩
              have bel5 := hL5.below bel4 HG.out bel4.size
              have HN : Hid (∃ G, RdM r w5 g (allB ns ws (j + 1)).length G ∧ ∀ k, G k → w.heap.size ≤ k) := by
                obtain ⟨G5, hM5, _, hG5⟩ := hL5
                exact ⟨G5, hM5, fun i hi => by
                  rcases hG5 i hi with h | h
                  · exact HG.out i h
                  · have := bel4.size; omega⟩
              clear hL5 HP
              go_wp2
              go_roundw
              case rel => exact ⟨j + 1, by omega, by go_num, HN.out, bel5⟩
              case measure => simp [intOf]; omega
            · have hnx := hbig hlt
              subst hnx
              clear hand hbig hq
              go_wp2_with fail
              refine HP.out.mono ?_
              rintro e w5 ⟨rfl, hL5⟩
              have bel5 := hL5.below bel4 HG.out bel4.size
              have HN : Hid (∃ G, RdM r w5 g (allB ns ws (j + 1)).length G ∧ ∀ k, G k → w.heap.size ≤ k) := by
                obtain ⟨G5, hM5, _, hG5⟩ := hL5
                exact ⟨G5, hM5, fun i hi => by
                  rcases hG5 i hi with h | h
                  · exact HG.out i h
                  · have := bel4.size; omega⟩
              clear hL5 HP
              go_wp2
              go_roundw
              case rel => exact ⟨j + 1, by omega, by go_num, HN.out, bel5⟩
              case measure => simp [intOf]; omega
          · obtain rfl : j = k := by omega
            have hend := rdend_ok r wr g (allB ns ws j).length G4 hR4 (by omega) (by rw [hr.out, packL_length]; omega)
            have e1 : endP r (allB ns ws j).length = 0 := by rw [hr.out]; exact back_end _
            rw [e1] at hend
            clear hR4 hG4 e1
            go_wp2_with fail
            refine hend.mono ?_
            rintro e w5 ⟨rfl, m5, rfl⟩
            have haw := awake6 wr_spec (wr.drewN m5)
            clear hend
            go_wp2_with fail
            refine haw.mono ?_
            rintro e w6 ⟨rfl, hb6⟩
            clear haw
            go_wp2
            go_ret
            exact ⟨rfl, bel4.trans (Below.mono ⟨hb6.os, hb6.tape, hb6.output, hb6.size, hb6.block⟩ bel4.size)⟩
end Go.Proofs.Ytapfcgklocflfaa
