/-
  The contract of row.part.
-/
import Derived.Test.YtoggjpkbbncbbaaBitsNum
import Derived.Test.YtoggjpkbbncbbaaCopyRow
namespace Go.Proofs.Ytoggjpkbbncbbaa
open Go.ChangeShapes Go.WideShapes Go.ChangeAt Go.RowKit

theorem part_even (l : List UInt8) (q n : Nat) (h : q + n ≤ l.length) : packL (nextB l (8 * q) (8 * n)) = (l.drop q).take n := by
  have e1 : nextB l (8 * q) (8 * n) = bitsOf ((l.drop q).take n) := by
    have e2 : bitsOf l = bitsOf (l.take q) ++ (bitsOf ((l.drop q).take n) ++ bitsOf ((l.drop q).drop n)) := by
      rw [← bitsOf_app, ← bitsOf_app, List.take_append_drop, List.take_append_drop]
    have e3 : (bitsOf (l.take q)).length = 8 * q := by rw [bitsOf_length, List.length_take, Nat.min_eq_left (by omega)]
    have e4 : (bitsOf ((l.drop q).take n)).length = 8 * n := by rw [bitsOf_length, List.length_take, List.length_drop, Nat.min_eq_left (by omega)]
    unfold nextB
    rw [e2, ← e3, List.drop_left, ← e4, List.take_left]
  rw [e1, packL_bytes]

set_option maxHeartbeats 3200000 in
set_option maxRecDepth 20000 in
theorem part_ok (l : List UInt8) (w : World) (b : Nat) (d : Option Addr) (cd : Nat) (hc : w.cell? ⟨b, 1, none⟩ = some (.slice d l.length cd)) (hs : Sees w d cd l) (hd : d = none ∨ ∃ g o, d = some ⟨g, o, none⟩) (hl : l.length ≤ 140737488355328) (A n : Nat) (hat : A + 8 * n ≤ 8 * l.length) :
    Calls Try.prog 46 #[.pointer (some ⟨b, 0, none⟩), .int .i64 (A : Int), .int .i64 (n : Int)] w fun e w' => ∃ cc r, Hid (r = packL (nextB l A (8 * n))) ∧ e = .returned (.slice (some ⟨w.heap.size, 0, none⟩) r.length cc) ∧ Sees w' (some ⟨w.heap.size, 0, none⟩) cc r ∧ Below w.heap.size w w' := by
  obtain ⟨i5, hi, hz0, hz1, hz2⟩ := info_parts Try.info5
  have hnl : n ≤ l.length := by omega
  have hbl : b < w.heap.size := World.block_lt_of_cell? w _ hc
  have HS : Hid (Sees w d cd l) := hs
  have HA : Hid (A + 8 * n ≤ 8 * l.length) := hat
  have hA : A ≤ 1125899906842624 := by omega
  obtain ⟨q, hq⟩ : ∃ q, q = A / 8 := ⟨_, rfl⟩
  obtain ⟨u, hu⟩ : ∃ u, u = A % 8 := ⟨_, rfl⟩
  have q1 : (A : Int) / 8 = (q : Int) := by omega
  have q2 : (A : Int).tdiv 8 = (q : Int) := by rw [Int.tdiv_eq_ediv_of_nonneg (by omega)]; exact q1
  have u1 : (A : Int) % 8 = (u : Int) := by omega
  have u2 : (A : Int).tmod 8 = (u : Int) := by rw [Int.tmod_eq_emod_of_nonneg (by omega)]; exact u1
  have HQ : Hid (A = 8 * q + u ∧ u < 8) := ⟨by omega, by omega⟩
  have hqn : q + n ≤ l.length := by omega
  clear hs hat hq hu
  go_enter Try.func46, Try.ntmps46
  go_wp2_with (at_make; refine wpList_make_full _ rfl _ _ 23 rfl w.heap.size 5 i5 (.int .u8 0) 1 Try.underlying23 hi hz0 hz1 .i64 .i64 _ _ n rfl rfl rfl rfl ?b2 ?b3 ?b4 ?_)
  case b2 => rw [hz2]; omega
  case b3 => unfold maxLen; omega
  case b4 => exact Nat.le_refl _
  intro w1 hown hgrow
  have hbel : Below w.heap.size w w1 := (Below.refl _ _).grown hgrow (Nat.le_refl _) (by intro k h; cases h)
  have ho0 : w1.ownsRow w.heap.size 5 1 (.slice (some ⟨w.heap.size, 0, none⟩) n n) n ((List.replicate n (0 : UInt8)).map cellOf) := by rw [← made_bytes]; simpa using hown
  have hc1 : w1.cell? ⟨b, 1, none⟩ = some (.slice d l.length cd) := by rw [hbel.cell (p := ⟨b, 1, none⟩) hbl]; exact hc
  have HS1 : Hid (Sees w1 d cd l) := HS.out.below hbel
  clear hgrow hown hc
  by_cases h0 : u = 0
  · subst h0
    have hpk : packL (nextB l A (8 * n)) = (l.drop q).take n := by rw [HQ.out.1, Nat.add_zero]; exact part_even l q n hqn
    obtain ⟨r, hr⟩ : ∃ r, r = (l.drop q).take n := ⟨_, rfl⟩
    have hrl : r.length = n := by rw [hr, List.length_take, List.length_drop]; omega
    have HR : Hid (r = packL (nextB l A (8 * n))) := by rw [hpk]; exact hr
    have hmod : (0 : Int) = ((0 : Nat) : Int) := rfl
    have hrs : r = [] → Sees w1 (some ⟨w.heap.size, 0, none⟩) 0 r := by rintro rfl; exact ⟨by simp, by simp, (fun h0 => by cases h0), fun h => absurd rfl h⟩
    rcases hd with rfl | ⟨g, o, rfl⟩
    · have hl0 : l.length = 0 := by have h1 := HS.out.bare rfl; have h2 := HS.out.fits; omega
      obtain rfl : n = 0 := by omega
      obtain rfl : q = 0 := by omega
      have hc0 : cd = 0 := HS.out.bare rfl
      subst hc0
      rw [hl0] at hc1
      have hr0 : r = [] := List.eq_nil_of_length_eq_zero hrl
      have HE := hrs hr0
      have HRL : Hid (r.length = 0) := hrl
      have HCP : Hid ((Builtin.copy_ #[23, 23] 3 #[.slice (some ⟨w.heap.size, 0, none⟩) 0 0, .slice none 0 0]).run Try.prog w1 = .ok (.int .i64 0) w1) := copy_nil _ _ _ _ _ _
      clear ho0 hr hpk hrl hmod hi hz0 hz1 hz2 hrs hr0
      go_wp2_with (first | refine wpList_copy_run rfl _ _ 23 rfl _ _ _ rfl rfl HCP.out ?_)
      go_ret
      exact ⟨_, r, HR, by rw [HRL.out]; rfl, HE, hbel⟩
    by_cases hcq : cd = q
    · subst hcq
      have hf := HS.out.fits
      obtain rfl : n = 0 := by omega
      have hr0 : r = [] := List.eq_nil_of_length_eq_zero hrl
      have HE := hrs hr0
      have HRL : Hid (r.length = 0) := hrl
      have hz : l.length - cd = 0 := by omega
      have hd1 : cd ≤ l.length := by omega
      have HCP : Hid ((Builtin.copy_ #[23, 23] 3 #[.slice (some ⟨w.heap.size, 0, none⟩) 0 0, .slice (some ⟨g, o, none⟩) 0 0]).run Try.prog w1 = .ok (.int .i64 0) w1) := copy_nil _ _ _ _ _ _
      clear ho0 hr hpk hrl hmod hi hz0 hz1 hz2 hrs hr0
      go_wp2_with (first | refine wpList_copy_run rfl _ _ 23 rfl _ _ _ rfl rfl HCP.out ?_)
      go_ret
      exact ⟨_, r, HR, by rw [HRL.out]; rfl, HE, hbel⟩
    · obtain ⟨cur, hg, hcs⟩ : ∃ cur : Array Value, w1.heap[w.heap.size]? = some (.cells cur 5 (0, 0)) ∧ cur.size = n := by
        rcases ho0.2 with ⟨h1, _⟩ | ⟨g1, c1, cur, he, _, hq1, _, _, hsz, _⟩
        · cases h1
        · simp only [Value.slice.injEq, Option.some.injEq, Addr.mk.injEq, and_true] at he
          obtain ⟨rfl, _, rfl⟩ := he
          exact ⟨cur, hq1, by simpa using hsz⟩
      obtain ⟨w2, hrun, hg2, hap, _⟩ := copy_row w1 w.heap.size 0 n n cur hg (by omega) _ _ _ (HS1.out.tail q (by omega)) n (by rw [List.length_drop]; omega)
      rw [List.length_drop] at hrun
      have HCP : Hid ((Builtin.copy_ #[23, 23] 3 #[.slice (some ⟨w.heap.size, 0, none⟩) n n, .slice (some ⟨g, o + q, none⟩) (l.length - q) (cd - q)]).run Try.prog w1 = .ok (.int .i64 (n : Int)) w2) := hrun
      clear hrun
      have HE : Hid (Sees w2 (some ⟨w.heap.size, 0, none⟩) n r ∧ Below w.heap.size w w2) := by
        refine ⟨⟨by omega, by unfold maxLen; omega, (fun h0 => by cases h0), fun _ => ⟨w.heap.size, 0, rfl, fun i x hx => ?_⟩⟩, hap.below hbel (fun k hk => by rw [hk]; exact Nat.le_refl _) hbel.size⟩
        rw [← hr, List.take_zero, List.nil_append] at hg2
        have hi' : i < r.length := (List.getElem?_eq_some_iff.1 hx).1
        rw [cell_of_row _ _ _ _ _ _ hg2]
        simp [List.getElem?_append, hi', cellOf, (List.getElem?_eq_some_iff.1 hx).2]
      have HRL : Hid (r.length = n) := hrl
      have hd1 : q ≤ l.length := by omega
      clear hg2 hap hg hcs ho0 hr hpk hrl hmod hi hz0 hz1 hz2
      go_wp2_with (first | refine wpList_copy_run rfl _ _ 23 rfl _ _ _ rfl rfl HCP.out ?_)
      go_ret
      exact ⟨_, r, HR, by rw [HRL.out]; rfl, HE.out.1, HE.out.2⟩
  · have dmod : ((u : Int) == 0) = false := by simp [h0]
    have HP0 : Hid (w1.ownsRow w.heap.size 5 1 (.slice (some ⟨w.heap.size, 0, none⟩) n n) n ((packL (nextB l A (8 * 0)) ++ List.replicate (n - 0) (0 : UInt8)).map cellOf)) := by
      have : packL (nextB l A (8 * 0)) = [] := by simp [nextB, packL, packN]
      rw [this]; exact ho0
    clear hi hz0 hz1 hz2 ho0
    go_wp2
    go_loopw [8, 26] (fun _ i wr => ∃ k : Nat, k ≤ n ∧ i = .int .i64 k ∧ wr.ownsRow w.heap.size 5 1 (.slice (some ⟨w.heap.size, 0, none⟩) n n) n ((packL (nextB l A (8 * k)) ++ List.replicate (n - k) (0 : UInt8)).map cellOf) ∧ Below w.heap.size w wr) (fun _ i _ => n - (intOf i).toNat)
    case atStart => exact ⟨0, Nat.zero_le _, rfl, HP0.out, hbel⟩
    case round =>
      obtain ⟨k, hk, rfl, ho, hbl2⟩ := hrel
      clear HP0
      by_cases hlt : k < n
      · have hkn : A + 8 * (k + 1) ≤ 8 * l.length := by have := HA.out; omega
        have hc2 : wr.cell? ⟨b, 1, none⟩ = some (.slice d l.length cd) := by rw [hbl2.cell (p := ⟨b, 1, none⟩) hbl, ← hbel.cell (p := ⟨b, 1, none⟩) hbl]; exact hc1
        have hnum := number_ok l wr b d cd hc2 (HS.out.below hbl2) hl (A + 8 * k) 8 (by omega) (by omega)
        obtain ⟨T, hT⟩ : ∃ T, T = num (nextB l (A + 8 * k) 8) := ⟨_, rfl⟩
        have hT8 : T < 256 := by
          have h1 := num_lt (nextB l (A + 8 * k) 8)
          rw [nextB_length _ _ _ (by omega), ← hT] at h1
          exact h1
        have hstep := pack_step l A k hkn
        have hlen : (packL (nextB l A (8 * k))).length = k := by rw [packL_length, nextB_length _ _ _ (by omega)]; omega
        have hset : (packL (nextB l A (8 * k)) ++ List.replicate (n - k) (0 : UInt8)).set k (UInt8.ofNat T) = packL (nextB l A (8 * (k + 1))) ++ List.replicate (n - (k + 1)) 0 := by
          rw [hstep, ← hT, show n - k = (n - (k + 1)) + 1 by omega, List.replicate_succ, List.set_append_right _ _ (by omega), hlen, Nat.sub_self, List.set_cons_zero, List.append_assoc]; rfl
        rw [← hT] at hnum
        have hTu : (UInt8.ofNat T).toNat = T := by rw [UInt8.toNat_ofNat']; omega
        have HST : Hid (∀ m, ((wr.drewN m).setCell ⟨w.heap.size, k, none⟩ (.int .u8 (T : Int))).ownsRow w.heap.size 5 1 (.slice (some ⟨w.heap.size, 0, none⟩) n n) n ((packL (nextB l A (8 * (k + 1))) ++ List.replicate (n - (k + 1)) (0 : UInt8)).map cellOf)) := fun m => by
          have h1 : (wr.drewN m).ownsRow w.heap.size 5 1 (.slice (some ⟨w.heap.size, 0, none⟩) n n) n ((packL (nextB l A (8 * k)) ++ List.replicate (n - k) (0 : UInt8)).map cellOf) := ho
          obtain ⟨h2, _⟩ := h1.stored k (.int .u8 (T : Int))
          rw [← hset, List.map_set]
          unfold cellOf
          rw [hTu]; exact h2
        have HBL : Hid (∀ m, Below w.heap.size w ((wr.drewN m).setCell ⟨w.heap.size, k, none⟩ (.int .u8 (T : Int)))) := fun m => (below_drewN hbl2 m).setCell (p := ⟨w.heap.size, k, none⟩) (Nat.le_refl _) _
        have hcx : ∃ z, Hid (∀ m, (wr.drewN m).cell? ⟨w.heap.size, k, none⟩ = some (.int .u8 z) ∧ (wr.drewN m).frozen? ⟨w.heap.size, k, none⟩ = false) := by
          obtain ⟨z, hz⟩ : ∃ z, (packL (nextB l A (8 * k)) ++ List.replicate (n - k) (0 : UInt8))[k]? = some z := by
            have : k < (packL (nextB l A (8 * k)) ++ List.replicate (n - k) (0 : UInt8)).length := by rw [List.length_append, hlen, List.length_replicate]; omega
            exact ⟨_, List.getElem?_eq_getElem this⟩
          refine ⟨(z.toNat : Int), fun m => ⟨?_, ?_⟩⟩
          · have h3 : wr.cell? ⟨w.heap.size, k, none⟩ = some (.int .u8 (z.toNat : Int)) := by rw [ho.cellAt k (by omega), List.getElem?_map, hz]; rfl
            exact h3
          · have h3 : wr.frozen? ⟨w.heap.size, k, none⟩ = false := ho.frozenAt k
            exact h3
        obtain ⟨z, hcx⟩ := hcx
        have wT : IntKind.u8.wrap (T : Int) = (T : Int) := by rw [IntKind.wrap_u8]; omega
        have hnum2 : Calls Try.prog 62 #[.pointer (some ⟨b, 0, none⟩), .int .i64 ((A : Int) + 8 * (k : Int)), .int .i64 8] wr fun e w' => e = .returned (.int .u64 (T : Int)) ∧ ∃ m, w' = wr.drewN m := by
          have e1 : ((A + 8 * k : Nat) : Int) = (A : Int) + 8 * (k : Int) := by omega
          rw [e1] at hnum; exact hnum
        clear hnum hset hstep hTu ho hbl2 hc2 hT hbel hc1
        go_wp2_with fail
        refine hnum2.mono ?_
        rintro e w2 ⟨rfl, m, rfl⟩
        obtain ⟨hcz, hfz⟩ := hcx.out m
        clear hnum2
        go_wp2
        go_roundw
        case rel => exact ⟨k + 1, by omega, by go_num, HST.out _, HBL.out _⟩
        case measure => simp [intOf]; omega
      · obtain rfl : k = n := by omega
        rw [Nat.sub_self, List.replicate_zero, List.append_nil] at ho
        obtain ⟨r, hr⟩ : ∃ r, r = packL (nextB l A (8 * k)) := ⟨_, rfl⟩
        have hrl : r.length = k := by rw [hr, packL_length, nextB_length _ _ _ HA.out]; omega
        rw [← hr] at ho
        have ho2 : wr.ownsRow w.heap.size 5 1 (.slice (some ⟨w.heap.size, 0, none⟩) k k) r.length (r.map cellOf) := by rw [hrl]; exact ho
        obtain ⟨c, cc, hv, hs⟩ := Sees.of_own ho
        simp only [Value.slice.injEq] at hv
        rw [← hv.1, ← hv.2.2] at hs
        have HR : Hid (r = packL (nextB l A (8 * k))) := hr
        have HPL : Hid (r.length = k) := hrl
        clear hv ho ho2 hr hrl
        go_wp2
        go_ret
        exact ⟨_, r, HR, by rw [HPL.out]; rfl, hs, hbl2⟩
end Go.Proofs.Ytoggjpkbbncbbaa
