/-
  The contracts of the program's Trim, Middle, Points, Clamp and Correct.
-/
import Derived.Test.YtfifcfdlmpgohaaFtmF
import Derived.Test.YtfifcfdlmpgohaaFtmN
namespace Go.Proofs.Ytfifcfdlmpgohaa
open Go.ChangeShapes Go.WideShapes Go.ChangeAt Go.RowKit
set_option maxRecDepth 20000

set_option maxHeartbeats 4000000 in
theorem trim_ok (w : World) (a : Option Addr) (c : Nat) (l : List Int) (f : Int) (hl : l.length ≤ 900) (hc : l.length ≤ c) (hs : LsO w a l) :
    Calls Try.prog 8 #[.slice a l.length c, .int .i64 f] w (TrP w l f) := by
  by_cases hf : f < 0
  · have he : trE l f = 1 := by unfold trE; rw [if_pos (Or.inl hf)]
    have HE : Hid (trE l f = 1) := he
    clear he hs hl hc
    go_enter Try.func8, Try.ntmps8
    go_wp2_with fail
    go_ret2
    exact TrP.bad HE.out (by decide) (Below.refl _ _)
  · have K := contains_ok w a c l hl hs
    cases hA : l.all isT
    · rw [hA] at K
      have HE : Hid (trE l f = 1) := by show trE l f = 1; unfold trE; rw [if_pos (Or.inr hA)]
      clear hs hl hc hA
      go_enter Try.func8, Try.ntmps8
      go_wp2_with fail
      refine K.mono ?_
      rintro e w2 ⟨rfl, hb⟩
      have HB : Hid (Below w.heap.size w w2) := hb
      clear K hb
      go_wp2
      go_ret2
      exact TrP.bad HE.out (by decide) HB.out
    · rw [hA] at K
      have ht : trE l f = if (l.length : Int) ≤ 2 * f then 6 else 0 := by unfold trE; rw [if_neg (by rw [hA]; simp; omega)]
      by_cases h2 : (l.length : Int) ≤ 2 * f
      · have HE : Hid (trE l f = 6) := by show trE l f = 6; rw [ht, if_pos h2]
        obtain ⟨g, hg⟩ : ∃ g, g = IntKind.i64.wrap ((l.length : Int) - f) := ⟨_, rfl⟩
        have e1 : IntKind.i64.wrap ((l.length : Int) - f) = g := hg.symm
        have h3 : g ≤ f := by rw [IntKind.wrap_i64] at hg; omega
        clear hs hl hc hA ht hg h2
        go_enter Try.func8, Try.ntmps8
        go_wp2_with fail
        refine K.mono ?_
        rintro e w2 ⟨rfl, hb⟩
        have HB : Hid (Below w.heap.size w w2) := hb
        clear K hb
        go_wp2
        go_ret2
        exact TrP.bad HE.out (by decide) HB.out
      · have e1 : IntKind.i64.wrap ((l.length : Int) - f) = (l.length : Int) - f := wrap_in (by omega) (by omega)
        have h3 : ¬ ((l.length : Int) - f ≤ f) := by omega
        have HE : Hid (trE l f = 0) := by show trE l f = 0; rw [ht, if_neg h2]
        have HF : Hid (0 ≤ f ∧ 2 * f < (l.length : Int)) := ⟨by omega, by omega⟩
        have K2 : Hid (∀ W, Below w.heap.size w W → Calls Try.prog 22 #[.slice a l.length c] W (OwnP W (fun M => M = srt l))) := fun W hW => inPlaces_ok l.length W a c l (Nat.le_refl _) hl hc (hs.below hW)
        clear hs hl hc hA ht h2
        go_enter Try.func8, Try.ntmps8
        go_wp2_with fail
        refine K.mono ?_
        rintro e w2 ⟨rfl, hb⟩
        have HB : Hid (Below w.heap.size w w2) := hb
        have K3 := K2.out w2 hb
        clear K K2 hb
        go_wp2_with fail
        refine K3.mono ?_
        rintro e w3 ⟨q, k, M, hM, rfl, hr, ho, hb3⟩
        have HB3 : Hid (Below w.heap.size w w3) := HB.out.trans (hb3.mono HB.out.size)
        have hMl : M.length = l.length := by rw [hM, srt_len]
        have hff := HF.out
        obtain ⟨L, la, lc, hL, hl1, hs1⟩ := hr.mid f.toNat (l.length - f.toNat) (by omega) (by omega)
        rw [show ((f.toNat : Nat) : Int) = f by omega, show ((l.length - f.toNat : Nat) : Int) = (l.length : Int) - f by omega] at hs1
        have HL : Hid (trV l f = L ∧ LsO w3 la L) := by
          refine ⟨?_, hl1⟩
          unfold trV
          rw [if_pos HE.out, hL, hM]
          congr 1
          omega
        have HS : Hid (∀ V, (Instr.sliceAt 22 (.slice q M.length k) (some (.int .i64 f)) (some (.int .i64 ((l.length : Int) - f))) none).run Try.prog V = .ok (.slice la L.length lc) V) := hs1
        clear K3 hM hr ho hb3 hMl hff hL hl1 hs1
        go_wp2_with (first | (refine wpList_slop_run rfl 22 _ _ _ _ rfl _ _ _ _ _ rfl rfl rfl rfl (HS.out _) ?_) | fail)
        go_ret2
        exact ⟨la, lc, by rw [HE.out, HL.out.1]; rfl, by rw [HL.out.1]; exact HL.out.2, HB3.out⟩

set_option maxHeartbeats 4000000 in
theorem pmiddle_ok (w : World) (a : Option Addr) (c : Nat) (l : List Int) (f : Int) (hl : l.length ≤ 900) (hc : l.length ≤ c) (hs : LsO w a l) :
    Calls Try.prog 10 #[.slice a l.length c, .int .i64 f] w fun e w' => e = .returned (.tuple #[.int .i64 (miV l f), .int .i64 (trE l f)]) ∧ Below w.heap.size w w' := by
  have K := trim_ok w a c l f hl hc hs
  by_cases hE : trE l f = 0
  · obtain ⟨m, n1, n2, n3, b1, b2, b3, b4⟩ := trV_ends hE
    have hle : trLo l f.toNat ≤ trHi l f.toNat := by
      have hsv : Srt (trV l f) := by
        unfold trV; rw [if_pos hE]
        exact ((srt_srt l).sublist (List.drop_sublist _ _)).sublist (List.take_sublist _ _)
      exact srt_get_le hsv (Nat.zero_le m) n2 n3
    have hmb : m ≤ 900 := by have := trV_len hE; omega
    rw [miV_of hE]
    unfold TrP at K
    rw [hE] at K ⊢
    generalize trV l f = T at *
    generalize trLo l f.toNat = A at *
    generalize trHi l f.toNat = B at *
    have HT : Hid (T[0]? = some A ∧ T[m]? = some B) := ⟨n2, n3⟩
    rw [n1] at K
    have hr : rightB A B = true := by simp only [rightB, decide_eq_true_eq]; omega
    have k2 := fun W => middle_ok W A B
    unfold middleV at k2
    rw [hr, if_pos rfl] at k2
    have K2 : Hid (∀ W, Calls Try.prog 23 #[.agg #[.int .i64 A, .int .i64 B]] W fun e w' => e = .returned (.tuple #[.int .i64 ((A + B).tdiv 2), .int .i64 0]) ∧ Below W.heap.size W w') := k2
    generalize (A + B).tdiv 2 = Z at *
    clear hs hE n2 n3 b1 b2 b3 b4 hr k2 hle hc
    go_enter Try.func10, Try.ntmps10
    go_wp2_with fail
    refine K.mono ?_
    rintro e w2 ⟨x, c', rfl, hls, hb⟩
    obtain ⟨b, o, rfl, c1⟩ := hls 0 A HT.out.1
    obtain ⟨b', o', e', c2⟩ := hls m B HT.out.2
    cases e'
    rw [Nat.add_zero] at c1
    have HS : Hid (∀ W, Below w2.heap.size w2 W → W.cell? ⟨b, o, none⟩ = some (.int .i64 A) ∧ W.cell? ⟨b, o + m, none⟩ = some (.int .i64 B)) := fun W hW => ⟨by rw [hW.cell (World.block_lt_of_cell? w2 _ c1)]; exact c1, by rw [hW.cell (World.block_lt_of_cell? w2 _ c2)]; exact c2⟩
    have hS0 := HS.out w2.drew (Below.refl _ _).drew
    have HB : Hid (Below w.heap.size w w2) := hb
    have e7 : IntKind.i64.wrap (m : Int) = (m : Int) := wrap_in (by omega) (by omega)
    have hm0 : (0 : Int) ≤ (m : Int) := Int.natCast_nonneg _
    clear K hls hb c1 c2 n1 hmb
    go_upto_region 4 with fail
    refine wp_region_noPanic ?_
    refine wp_region_held (S := fun V => V.cell? ⟨b, o, none⟩ = some (.int .i64 A) ∧ V.cell? ⟨b, o + m, none⟩ = some (.int .i64 B)) (by kernel_rfl) ?_
    have hS := hS0
    refine any_take 0 ?vran1 rfl (by kernel_rfl) (by kernel_rfl) (by kernel_rfl) (fun _ _ _ h => h) (by rfl) ?hran1 hS ?_
    case hran1 => (intro w hSw; (try dsimp only at hSw); go_split_ands; go_simp; (try with_reducible rfl))
    (try simp only [Act.put, List.setIfInBounds_toArray, List.set_cons_zero, List.set_cons_succ])
    refine any_take 1 ?vran2 rfl (by kernel_rfl) (by kernel_rfl) (by kernel_rfl) (fun _ _ _ h => h) (by rfl) ?hran2 hS ?_
    case hran2 => (intro w hSw; (try dsimp only at hSw); go_split_ands; go_simp; (try with_reducible rfl))
    (try simp only [Act.put, List.setIfInBounds_toArray, List.set_cons_zero, List.set_cons_succ])
    refine any_take 2 ?vran3 rfl (by kernel_rfl) (by kernel_rfl) (by kernel_rfl) (fun _ _ _ h => h) (by rfl) ?hran3 hS ?_
    case hran3 => (intro w hSw; (try dsimp only at hSw); go_split_ands; go_simp; (try with_reducible rfl))
    (try simp only [Act.put, List.setIfInBounds_toArray, List.set_cons_zero, List.set_cons_succ])
    refine any_take 3 ?vran4 rfl (by kernel_rfl) (by kernel_rfl) (by kernel_rfl) (fun _ _ _ h => h) (by rfl) ?hran4 hS ?_
    case hran4 => (intro w hSw; (try dsimp only at hSw); go_split_ands; go_simp; (try with_reducible rfl))
    (try simp only [Act.put, List.setIfInBounds_toArray, List.set_cons_zero, List.set_cons_succ])
    refine any_take 4 ?vran5 rfl (by kernel_rfl) (by kernel_rfl) (by kernel_rfl) (fun _ _ _ h => h) (by rfl) ?hran5 hS ?_
    case hran5 => (intro w hSw; (try dsimp only at hSw); go_split_ands; go_simp; (try with_reducible rfl))
    (try simp only [Act.put, List.setIfInBounds_toArray, List.set_cons_zero, List.set_cons_succ])
    refine any_take 5 ?vran6 rfl (by kernel_rfl) (by kernel_rfl) (by kernel_rfl) (fun _ _ _ h => h) (by rfl) ?hran6 hS ?_
    case hran6 => (intro w hSw; (try dsimp only at hSw); go_split_ands; go_simp; (try with_reducible rfl))
    (try simp only [Act.put, List.setIfInBounds_toArray, List.set_cons_zero, List.set_cons_succ])
    refine any_take 6 ?vran7 rfl (by kernel_rfl) (by kernel_rfl) (by kernel_rfl) (fun _ _ _ h => h) (by rfl) ?hran7 hS ?_
    case hran7 => (intro w hSw; (try dsimp only at hSw); go_split_ands; go_simp; (try with_reducible rfl))
    (try simp only [Act.put, List.setIfInBounds_toArray, List.set_cons_zero, List.set_cons_succ])
    refine any_take 7 (Value.pointer (some ⟨b, o + m, none⟩)) rfl (by kernel_rfl) (by kernel_rfl) (by kernel_rfl) (fun _ _ _ h => h) (by rfl) (by intro w hSw; (try dsimp only at hSw); go_split_ands; go_simp; (try (intro hc; omega))) hS ?_
    (try simp only [Act.put, List.setIfInBounds_toArray, List.set_cons_zero, List.set_cons_succ])
    refine any_take 8 ?vran8 rfl (by kernel_rfl) (by kernel_rfl) (by kernel_rfl) (fun _ _ _ h => h) (by rfl) ?hran8 hS ?_
    case hran8 => (intro w hSw; (try dsimp only at hSw); go_split_ands; go_simp; (try with_reducible rfl))
    (try simp only [Act.put, List.setIfInBounds_toArray, List.set_cons_zero, List.set_cons_succ])
    refine any_take 9 ?vran9 rfl (by kernel_rfl) (by kernel_rfl) (by kernel_rfl) (fun _ _ _ h => h) (by rfl) ?hran9 hS ?_
    case hran9 => (intro w hSw; (try dsimp only at hSw); go_split_ands; go_simp; (try with_reducible rfl))
    (try simp only [Act.put, List.setIfInBounds_toArray, List.set_cons_zero, List.set_cons_succ])
    refine any_one 10 rfl (by kernel_rfl) (by rfl) (fun K hK => ?_)
    clear hS
    go_simp
    refine (K2.out _).mono ?_
    rintro ev w3 ⟨rfl, hb3⟩
    have HB3 : Hid (Below w2.heap.size w2 w3) := (Below.refl _ _).drew.trans hb3
    clear K2 hb3
    refine hK.out _ _ (HS.out _ HB3.out) (fun hS => ?_)
    clear hK
    (try simp only [Act.put, List.setIfInBounds_toArray, List.set_cons_zero, List.set_cons_succ])
    refine any_take 11 ?vran10 rfl (by kernel_rfl) (by kernel_rfl) (by kernel_rfl) (fun _ _ _ h => h) (by rfl) ?hran10 hS ?_
    case hran10 => (intro w hSw; (try dsimp only at hSw); go_split_ands; go_simp; (try with_reducible rfl))
    (try simp only [Act.put, List.setIfInBounds_toArray, List.set_cons_zero, List.set_cons_succ])
    refine any_take 12 ?vran11 rfl (by kernel_rfl) (by kernel_rfl) (by kernel_rfl) (fun _ _ _ h => h) (by rfl) ?hran11 hS ?_
    case hran11 => (intro w hSw; (try dsimp only at hSw); go_split_ands; go_simp; (try with_reducible rfl))
    (try simp only [Act.put, List.setIfInBounds_toArray, List.set_cons_zero, List.set_cons_succ])
    refine any_take 13 ?vran12 rfl (by kernel_rfl) (by kernel_rfl) (by kernel_rfl) (fun _ _ _ h => h) (by rfl) ?hran12 hS ?_
    case hran12 => (intro w hSw; (try dsimp only at hSw); go_split_ands; go_simp; (try with_reducible rfl))
    (try simp only [Act.put, List.setIfInBounds_toArray, List.set_cons_zero, List.set_cons_succ])
    refine any_take 14 ?vran13 rfl (by kernel_rfl) (by kernel_rfl) (by kernel_rfl) (fun _ _ _ h => h) (by rfl) ?hran13 hS ?_
    case hran13 => (intro w hSw; (try dsimp only at hSw); go_split_ands; go_simp; (try with_reducible rfl))
    (try simp only [Act.put, List.setIfInBounds_toArray, List.set_cons_zero, List.set_cons_succ])
    refine wpAnyH_done (by kernel_rfl) ?_ _
    refine NoPanic.normal ?_
    clear hS hS0
    go_wp2
    go_ret2
    exact ⟨rfl, HB.out.trans (HB3.out.mono HB.out.size)⟩
  · rw [miV_bad hE]
    unfold TrP at K
    generalize trE l f = E at *
    clear hs hl hc
    go_enter Try.func10, Try.ntmps10
    go_wp2_with fail
    refine K.mono ?_
    rintro e w2 ⟨x, c', rfl, hls, hb⟩
    have HB : Hid (Below w.heap.size w w2) := hb
    clear K hls hb
    go_wp2
    go_ret2
    exact ⟨rfl, HB.out⟩

set_option maxHeartbeats 4000000 in
theorem pclamp_ok (w : World) (n most : Int) (h1 : (Lit.int .i64 most).wf = true) :
    Calls Try.prog 17 #[.int .i64 n, .int .i64 most] w fun e w' => e = .returned (.int .i64 (clV n most)) ∧ Below w.heap.size w w' := by
  have hw : -9223372036854775808 ≤ most ∧ most ≤ 9223372036854775807 := by
    simp [Lit.wf, IntKind.min, IntKind.max, IntKind.signed, IntKind.bits] at h1; omega
  unfold clV
  clear h1
  go_enter Try.func17, Try.ntmps17
  go_wp2_with fail
  all_goals first
    | (rw [show min (max n (-max most 0)) (max most 0) = n by omega]; go_ret; exact ⟨rfl, Below.refl _ _⟩)
    | (rw [show min (max n (-max most 0)) (max most 0) = 0 by omega]; go_ret; exact ⟨rfl, Below.refl _ _⟩)
    | (rw [show min (max n (-max most 0)) (max most 0) = most by omega]; go_ret; exact ⟨rfl, Below.refl _ _⟩)
    | (rw [show min (max n (-max most 0)) (max most 0) = -most by omega]; go_ret; exact ⟨rfl, Below.refl _ _⟩)

/-- What the program's Points answers: a list that fits. -/
def PtO (w : World) (x : List (Int × Int)) (e : Ending) (w' : World) : Prop := ∃ b c', e = .returned (.slice b (ptV x).length c') ∧ (ptV x).length ≤ c' ∧ LsO w' b (ptV x) ∧ Below w.heap.size w w'
theorem PtO.mk {w w' : World} {x : List (Int × Int)} {L : List Int} {q : Option Addr} {k : Nat} (hL : L = ptV x) (hc : L.length ≤ k) (h : LsO w' q L) (hb : Below w.heap.size w w') : PtO w x (.returned (.slice q L.length k)) w' := by
  subst hL; exact ⟨q, k, rfl, hc, h, hb⟩

set_option maxHeartbeats 8000000 in
theorem ppoints_ok (w : World) (a : Option Addr) (c : Nat) (x : List (Int × Int)) (hl : x.length ≤ 900) (hs : Ivals w a c x) :
    Calls Try.prog 15 #[.slice a x.length c] w (PtO w x) := by
  have HX : Hid (Ivals w a c x ∧ x.length ≤ 900) := ⟨hs, hl⟩
  clear hs
  go_enter Try.func15, Try.ntmps15
  go_wp2
  go_loopw [3, 5, 6, 7, 10] (fun u _ _ _ i wr => ∃ (j : Nat) (L : List Int) (q : Option Addr) (k : Nat), j ≤ x.length ∧ L = ptV (x.take j) ∧ u = .slice q L.length k ∧ i = .int .i64 (j : Int) ∧ Row EL wr (.slice q L.length k) L ∧ (∀ p, (Value.slice q L.length k).ownBlock = some p → w.heap.size ≤ p) ∧ Below w.heap.size w wr) (fun _ _ _ _ i _ => x.length - (intOf i).toNat)
  case atStart => exact ⟨0, [], none, 0, Nat.zero_le _, rfl, rfl, rfl, Row.nil _ _, (fun p hp => by cases hp), Below.refl _ _⟩
  case round =>
    obtain ⟨j, L, q, k, hj, hL, rfl, rfl, hr, ho, hb⟩ := hrel
    have gj : (0 : Int) ≤ (j : Int) := Int.natCast_nonneg _
    have hLl : L.length ≤ j := by have := ptV_len (x.take j); rw [hL]; rw [List.length_take] at this; omega
    have HI : Hid (L = ptV (x.take j) ∧ Row EL wr (.slice q L.length k) L ∧ (∀ p, (Value.slice q L.length k).ownBlock = some p → w.heap.size ≤ p) ∧ Below w.heap.size w wr ∧ L.length ≤ j ∧ j ≤ x.length) := ⟨hL, hr, ho, hb, hLl, hj⟩
    by_cases hlt : (j : Int) < (x.length : Int)
    · obtain ⟨⟨y, z⟩, hx⟩ : ∃ y, x[j]? = some y := ⟨_, List.getElem?_eq_getElem (by omega)⟩
      obtain ⟨b, o, rfl, cx0, cx1⟩ := (HX.out.1.below hb).get hx
      dsimp only at cx0 cx1
      have e9 : IntKind.i64.wrap ((j : Int) + 1) = ((j + 1 : Nat) : Int) := by rw [wrap_in (by omega) (by omega)]; omega
      have HN : Hid (j < x.length ∧ ptV (x.take (j + 1)) = ptV (x.take j) ++ (if rightB y z = true then [(y + z).tdiv 2] else [])) := ⟨by omega, ptV_snoc hx⟩
      have K1 := fun W => middle_ok W y z
      unfold middleV at K1
      clear hr ho hb hx hL hLl hj
      cases hrb : rightB y z
      · rw [hrb, if_neg (by simp)] at K1
        have K : Hid (∀ W, Calls Try.prog 23 #[.agg #[.int .i64 y, .int .i64 z]] W fun e w' => e = .returned (.tuple #[.int .i64 0, .int .i64 1]) ∧ Below W.heap.size W w') := K1
        have hn2 : L = ptV (x.take (j + 1)) := by rw [HN.out.2, hrb, HI.out.1]; simp
        have HN2 : Hid (L = ptV (x.take (j + 1))) := hn2
        clear hrb hn2 K1
        go_wp2_with fail
        refine (K.out _).mono ?_
        rintro e w2 ⟨rfl, hb2⟩
        clear K
        obtain ⟨P2, bel⟩ := boxes1 hb2
        have H2 : Hid (Row EL w2 (.slice q L.length k) L ∧ Below w.heap.size w w2) := ⟨HI.out.2.1.below bel, HI.out.2.2.2.1.trans (bel.mono HI.out.2.2.2.1.size)⟩
        clear hb2 P2 bel cx0 cx1
        go_wp2
        go_roundw
        case rel => exact ⟨j + 1, L, q, k, HN.out.1, HN2.out, rfl, rfl, H2.out.1, HI.out.2.2.1, H2.out.2⟩
        case measure => have := HN.out.1; simp [intOf]; omega
      · rw [hrb, if_pos rfl] at K1
        obtain ⟨M, hM⟩ : ∃ M, M = (y + z).tdiv 2 := ⟨_, rfl⟩
        rw [← hM] at K1
        have K : Hid (∀ W, Calls Try.prog 23 #[.agg #[.int .i64 y, .int .i64 z]] W fun e w' => e = .returned (.tuple #[.int .i64 M, .int .i64 0]) ∧ Below W.heap.size W w') := K1
        obtain ⟨L2, hL2⟩ : ∃ L2, L2 = L ++ [M] := ⟨_, rfl⟩
        have HN2 : Hid (L2 = ptV (x.take (j + 1))) := by show L2 = _; rw [HN.out.2, hrb, hL2, HI.out.1, hM]; simp
        clear hrb hM K1
        go_wp2_with fail
        refine (K.out _).mono ?_
        rintro e w2 ⟨rfl, hb2⟩
        clear K
        obtain ⟨P2, bel⟩ := boxes1 hb2
        have hbw := HI.out.2.2.2.1.trans (bel.mono HI.out.2.2.2.1.size)
        obtain ⟨a4, c4, w3, run2, r2, b2, o2, _⟩ := row_moreL (w := w) (HI.out.2.1.below bel) (by have := HI.out.2.2.2.2; omega) hbw HI.out.2.2.1 M
        rw [← hL2] at run2 r2 o2
        have R2 : Hid ((Builtin.append_ #[22, 22] 22 #[.slice q L.length k, .slice (some ⟨w2.heap.size, 0, none⟩) 1 1]).run Try.prog (w2.alloc (.cells #[.int .i64 M] 2)) = .ok (.slice a4 L2.length c4) w3) := run2
        have H3 : Hid (Row EL w3 (.slice a4 L2.length c4) L2 ∧ (∀ p, (Value.slice a4 L2.length c4).ownBlock = some p → w.heap.size ≤ p) ∧ Below w.heap.size w w3) := ⟨r2, o2, b2⟩
        clear hb2 P2 bel cx0 cx1 hbw run2 r2 b2 o2 hL2
        go_wp2_with (at_builtin; refine wpList_append_run rfl _ _ 22 rfl _ _ _ rfl rfl R2.out ?_)
        go_roundw
        case rel => exact ⟨j + 1, L2, a4, c4, HN.out.1, HN2.out, rfl, rfl, H3.out.1, H3.out.2.1, H3.out.2.2⟩
        case measure => have := HN.out.1; simp [intOf]; omega
    · have hjx : j = x.length := by omega
      have HE : Hid (L = ptV x ∧ LsO wr q L ∧ Below w.heap.size w wr ∧ L.length ≤ k) := ⟨by rw [hL, hjx, List.take_length], hr.lsO, hb, hr.fits⟩
      clear hr ho hb hL hLl hj hjx
      go_wp2
      go_ret
      exact PtO.mk HE.out.1 HE.out.2.2.2 HE.out.2.1 HE.out.2.2.1

set_option maxHeartbeats 4000000 in
theorem pcorrect_ok (w : World) (a : Option Addr) (c : Nat) (x : List (Int × Int)) (f most : Int) (hl : x.length ≤ 900) (hs : Ivals w a c x) (hm : (Lit.int .i64 most).wf = true) :
    Calls Try.prog 12 #[.slice a x.length c, .int .i64 f, .int .i64 most] w fun e w' => e = .returned (.tuple #[.int .i64 (coV x f most), .int .i64 (trE (ptV x) f)]) ∧ Below w.heap.size w w' := by
  have K := ppoints_ok w a c x hl hs
  have K2 : Hid (∀ W b c', (ptV x).length ≤ c' → LsO W b (ptV x) → Calls Try.prog 10 #[.slice b (ptV x).length c', .int .i64 f] W fun e w' => e = .returned (.tuple #[.int .i64 (miV (ptV x) f), .int .i64 (trE (ptV x) f)]) ∧ Below W.heap.size W w') := fun W b c' hc h => pmiddle_ok W b c' (ptV x) f (by have := ptV_len x; omega) hc h
  have K3 : Hid (∀ W n, Calls Try.prog 17 #[.int .i64 n, .int .i64 most] W fun e w' => e = .returned (.int .i64 (clV n most)) ∧ Below W.heap.size W w') := fun W n => pclamp_ok W n most hm
  have hco : coV x f most = if trE (ptV x) f = 0 then clV (miV (ptV x) f) most else 0 := rfl
  rw [hco]
  clear hs hm hl hco
  unfold PtO at K
  generalize ptV x = P at *
  generalize miV P f = M at *
  generalize trE P f = E at *
  by_cases hE : E = 0
  · subst hE
    rw [if_pos rfl]
    go_enter Try.func12, Try.ntmps12
    go_wp2_with fail
    refine K.mono ?_
    rintro e w2 ⟨b, c', rfl, hpc, hls, hb⟩
    have K4 := K2.out w2 b c' hpc hls
    have HB : Hid (Below w.heap.size w w2) := hb
    clear K K2 hls hb hpc
    go_wp2_with fail
    refine K4.mono ?_
    rintro e w3 ⟨rfl, hb3⟩
    have HB3 : Hid (Below w.heap.size w w3) := HB.out.trans (hb3.mono HB.out.size)
    clear K4 HB hb3
    have K5 := K3.out w3 M
    clear K3
    go_wp2_with fail
    refine K5.mono ?_
    rintro e w4 ⟨rfl, hb4⟩
    have HB4 : Hid (Below w.heap.size w w4) := HB3.out.trans (hb4.mono HB3.out.size)
    clear K5 HB3 hb4
    go_wp2
    go_ret2
    exact ⟨rfl, HB4.out⟩
  · rw [if_neg hE]
    clear K3
    go_enter Try.func12, Try.ntmps12
    go_wp2_with fail
    refine K.mono ?_
    rintro e w2 ⟨b, c', rfl, hpc, hls, hb⟩
    have K4 := K2.out w2 b c' hpc hls
    have HB : Hid (Below w.heap.size w w2) := hb
    clear K K2 hls hb hpc
    go_wp2_with fail
    refine K4.mono ?_
    rintro e w3 ⟨rfl, hb3⟩
    have HB3 : Hid (Below w.heap.size w w3) := HB.out.trans (hb3.mono HB.out.size)
    clear K4 HB hb3
    go_wp2
    go_ret2
    exact ⟨rfl, HB3.out⟩

/-- The program's contracts. -/
theorem ftmP : FtmP where
  trim := trim_ok
  mid := pmiddle_ok
  pts := fun w a c x hl hs => (ppoints_ok w a c x hl hs).mono fun _ _ ⟨b, c', h1, _, h3, h4⟩ => ⟨b, c', h1, h3, h4⟩
  cor := pcorrect_ok
  cla := fun w n most _ h => pclamp_ok w n most h
end Go.Proofs.Ytfifcfdlmpgohaa
