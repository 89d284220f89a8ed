/-
  The document's chain: the contracts of its Seed, Back, All, Key and Follows.
  The document's Follows.
-/
import Derived.Test.YtgncdnejmobjbaaGreatDoorChainC
namespace Go.Proofs.YtgncdnejmobjbaaGreatDoor
open Go.ChangeShapes Go.WideShapes Go.ChangeAt Go.RowKit
set_option maxRecDepth 20000

set_option maxHeartbeats 800000 in
set_option maxRecDepth 20000 in
theorem rseed_any (w : World) (a : Option Addr) (ca : Nat) (own : List UInt8) (n : Int) (ha : Sees w a ca own) :
    Calls Tryz.prog 27 #[.slice a own.length ca, .int .i64 n] w fun e w' => Tells w w' e (seedP own n).1 (seedP own n).2 := by
  have hkm : own.length ≤ 9223372036854775807 := by have := ha.fits; have := ha.room; unfold maxLen at this; omega
  by_cases hg : own.length = 16 ∧ 0 ≤ n ∧ n ≤ 65535
  · have hP : seedP own n = (keyOf own epochN [n.toNat], 0) := by unfold seedP; rw [if_pos hg]
    rw [hP]
    obtain ⟨h16, h0, h1⟩ := hg
    obtain ⟨m, rfl⟩ : ∃ m : Nat, n = (m : Int) := ⟨n.toNat, by omega⟩
    rw [Int.toNat_natCast]
    have hb0 : Below w.heap.size w (w.alloc (.cells #[.int .u64 (m : Int)] 87)) := (Below.refl _ _).alloc (Nat.le_refl _) _
    have hL : Longs (w.alloc (.cells #[.int .u64 (m : Int)] 87)) (some ⟨w.heap.size, 0, none⟩) 1 [m] := Longs.lit w 87 [m] (by simp) (by simp; omega)
    have hk : Calls Tryz.prog 53 #[.slice a own.length ca, .string { data := #[101, 112, 111, 99, 104] }, .slice (some ⟨w.heap.size, 0, none⟩) 1 1] (w.alloc (.cells #[.int .u64 (m : Int)] 87)) fun e w' => Says (w.alloc (.cells #[.int .u64 (m : Int)] 87)) w' e (keyP own epochN [m]) := rkey_any _ a ca own epochN (by simp [epochN]) _ 1 [m] (ha.below hb0) hL
    rw [keyP_ok _ _ _ seed_labels.2 (by simp) (by omega), h16] at hk
    rw [h16]
    have hm : m ≤ 65535 := by omega
    have d1 : decide ((m : Int) < 0) = false := decide_eq_false (by omega)
    have d2 : decide ((65535 : Int) < (m : Int)) = false := decide_eq_false (by omega)
    clear hP h0 h1 ha hL h16 hkm
    go_enter Tryz.func27, Tryz.ntmps27
    go_wp2_with fail
    refine hk.mono ?_
    rintro e w5 ⟨d5, c5, r5, hr5, rfl, hs5, hb5⟩
    have hr : r5 = keyOf own epochN [m] := hr5.out
    have HR : Hid (r5 = keyOf own epochN [m]) := hr
    clear hk hr hr5
    go_wp2
    go_ret2
    rw [← HR.out]
    exact ⟨d5, c5, rfl, hs5, hb0.trans (hb5.mono hb0.size)⟩
  · have hP : seedP own n = ([], 1) := by unfold seedP; rw [if_neg hg]
    rw [hP]
    by_cases h16 : own.length = 16
    · rw [h16]
      by_cases h0 : n < 0
      · clear hP hg ha h16 hkm
        go_enter Tryz.func27, Tryz.ntmps27
        go_wp2
        go_ret2
        exact tells_no (Below.refl _ _)
      · have d1 : decide (n < 0) = false := decide_eq_false h0
        have d2 : 65535 < n := by omega
        clear hP hg ha h16 hkm h0
        go_enter Tryz.func27, Tryz.ntmps27
        go_wp2
        go_ret2
        exact tells_no (Below.refl _ _)
    · have dd : ((own.length : Int) != 16) = true := by simp; omega
      clear hP hg ha h16
      go_enter Tryz.func27, Tryz.ntmps27
      go_wp2
      go_ret2
      exact tells_no (Below.refl _ _)

/-- What the document's All has written so far. -/
def RAll (W : World) (g n : Nat) (key : List UInt8) (s : List Loc) : Prop := W.heap[g]? = some (.cells (rowL n s).toArray 24 (0, 0)) ∧ Told W key s

set_option maxHeartbeats 1600000 in
set_option maxRecDepth 20000 in
theorem rall_ok (w : World) (a : Option Addr) (ca : Nat) (seed : List UInt8) (hs0 : seed.length = 16) (n : Nat) (hn1 : 1 ≤ n) (hnm : n ≤ 256) (ha : Sees w a ca seed) :
    Calls Tryz.prog 28 #[.slice a 16 ca, .int .i64 (n : Int)] w fun e w' => ∃ g, e = .returned (.tuple #[.slice (some ⟨g, 0, none⟩) (n + 1) (n + 1), .int .i64 0]) ∧ Full w' g n (lastL seed) ∧ Below w.heap.size w w' ∧ w.heap.size ≤ g := by
  obtain ⟨i22, hi, hz0, hz1, hz2⟩ := info_parts Tryz.info24
  have hk : Calls Tryz.prog 53 #[.slice a seed.length ca, .string { data := #[115, 101, 101, 100] }, .slice none 0 0] w fun e w' => Says w w' e (keyP seed seedN []) := rkey_any w a ca seed seedN (by simp [seedN]) none 0 [] ha (Longs.none' w)
  rw [keyP_ok _ _ _ seed_labels.1 (by simp) (by omega), hs0] at hk
  obtain ⟨N, hN⟩ : ∃ N, N = n + 1 := ⟨_, rfl⟩
  rw [← hN]
  have HN : Hid (N = n + 1) := hN
  have hN1 : (n : Int) + 1 = (N : Int) := by omega
  have d1 : decide ((n : Int) < 1) = false := decide_eq_false (by omega)
  have d2 : decide ((256 : Int) < (n : Int)) = false := decide_eq_false (by omega)
  clear ha hs0 hN hn1
  go_enter Tryz.func28, Tryz.ntmps28
  go_wp2_with fail
  refine hk.mono ?_
  rintro e w1 ⟨d5, c5, r5, hr5, rfl, hs5, hb5⟩
  have hr : r5 = lastL seed := hr5.out
  have hrl : r5.length = 16 := by rw [hr]; exact lastL_len seed
  rw [hr] at hs5
  rw [hrl]
  clear hk hr5 hr hrl
  go_wp2_with (at_make; refine wpList_make_full _ rfl _ _ 50 rfl w1.heap.size 24 i22 (.slice none 0 0) 1 (by kernel_rfl) hi hz0 hz1 .i64 .i64 _ _ N rfl rfl ?hL ?hC ?b2 ?b3 ?b4 ?_)
  case hL => rfl
  case hC => rfl
  case b2 => rw [hz2]; have := HN.out; omega
  case b3 => unfold maxLen; have := HN.out; omega
  case b4 => exact Nat.le_refl _
  intro w2 hown hgrow
  have hrow := row_made HN.out hown
  have hbel : Below w1.heap.size w1 w2 := (Below.refl _ _).grown hgrow (Nat.le_refl _) (by intro k h; cases h)
  have hs2 := hs5.below hbel
  have hb2 := hb5.trans (hbel.mono hb5.size)
  have hg2 := hb5.size
  obtain ⟨g, hgg⟩ : ∃ g, g = w1.heap.size := ⟨_, rfl⟩
  rw [← hgg] at hrow hg2 ⊢
  have HG : Hid (w.heap.size ≤ g) := hg2
  clear hown hgrow hi hz0 hz1 hz2 i22 hbel hs5 hb5 hgg hg2
  go_wp2
  go_loopw [6, 9, 10, 11] (fun k i _ _ wr => ∃ (d : Option Addr) (c : Nat) (s : List Loc) (q : Int), q + s.length = n ∧ -1 ≤ q ∧ k = .slice d 16 c ∧ i = .int .i64 q ∧ Sees wr d c (backL s.length (lastL seed)) ∧ RAll wr g n (lastL seed) s ∧ Below w.heap.size w wr) (fun _ i _ _ _ => (intOf i + 1).toNat)
  case atStart => exact ⟨d5, c5, [], n, by simp, by omega, rfl, rfl, hs2, ⟨hrow, Told.nil _ _⟩, hb2⟩
  case round =>
    obtain ⟨d, c, s, q, hq, hq1, rfl, rfl, hs, ⟨hrw, htold⟩, hb⟩ := hrel
    by_cases hge : 0 ≤ q
    · obtain ⟨p, rfl⟩ : ∃ p : Nat, q = (p : Int) := ⟨q.toNat, by omega⟩
      have hps : p + s.length = n := by omega
      have c2 : wr.cell? ⟨g, p, none⟩ = some (.slice none 0 0) := by rw [cell_of_row wr _ p _ _ _ hrw, List.getElem?_toArray]; exact rowL_at n s p hps
      have f2 : wr.frozen? ⟨g, p, none⟩ = false := by simp [World.frozen?, hrw]
      have hpN : p < N := by have := HN.out; omega
      have hNm : N ≤ 257 := by have := HN.out; omega
      have hs' := hs.slot hrw (rowL_val n s) p (.slice d 16 c)
      have ht' := (htold.push (d, c) hs).slot hrw (rowL_val n s) p (.slice d 16 c)
      have hr' : (wr.setCell ⟨g, p, none⟩ (.slice d 16 c)).heap[g]? = some (.cells (rowL n (s ++ [(d, c)])).toArray 24 (0, 0)) := by
        rw [heap_setCell_same wr g p _ 24 _ hrw, ← rowL_set n s (d, c) p hps]; simp
      have hb' := hb.setCell (p := ⟨g, p, none⟩) HG.out (.slice d 16 c)
      have hst := rstep_any _ d c (backL s.length (lastL seed)) hs'
      have hbl := backL_len s.length (lastL seed) (lastL_len seed)
      rw [stepP_eq _ hbl, hbl] at hst
      have HPS : Hid (p + s.length = n) := hps
      have hSL : Hid ((s ++ [((d, c) : Loc)]).length = s.length + 1) := by show (s ++ [((d, c) : Loc)]).length = s.length + 1; simp
      have HE : Hid (Told (wr.setCell ⟨g, p, none⟩ (.slice d 16 c)) (lastL seed) (s ++ [(d, c)]) ∧ (wr.setCell ⟨g, p, none⟩ (.slice d 16 c)).heap[g]? = some (.cells (rowL n (s ++ [(d, c)])).toArray 24 (0, 0)) ∧ Below w.heap.size w (wr.setCell ⟨g, p, none⟩ (.slice d 16 c))) := ⟨ht', hr', hb'⟩
      clear hs hrw htold hb hs' ht' hr' hb' hbl hps hq hq1 hge hs2 hb2 hrow
      go_wp2_with fail
      refine hst.mono ?_
      rintro e w5 ⟨d6, c6, r5, hr5, rfl, hs5, hb5⟩
      have hr : r5 = backL (s.length + 1) (lastL seed) := hr5.out
      have hrl : r5.length = 16 := by rw [hr]; exact backL_len _ _ (lastL_len seed)
      rw [hr, ← hSL.out] at hs5
      rw [hrl]
      have hrow5 : RAll w5 g n (lastL seed) (s ++ [(d, c)]) := ⟨by rw [hb5.block _ (Array.getElem?_eq_some_iff.1 HE.out.2.1).1]; exact HE.out.2.1, HE.out.1.below hb5⟩
      have hbw := HE.out.2.2.trans (hb5.mono HE.out.2.2.size)
      have HR5 : Hid (RAll w5 g n (lastL seed) (s ++ [(d, c)])) := hrow5
      clear hst hr5 hb5 hr hrl HE c2 f2 hrow5
      go_wp2
      go_roundw
      case rel => exact ⟨d6, c6, s ++ [(d, c)], (p : Int) - 1, by have := HPS.out; have := hSL.out; omega, by omega, rfl, by go_num, hs5, HR5.out, hbw⟩
      case measure => simp [intOf]
    · have hsl : s.length = n + 1 := by omega
      have HFU : Hid (Full wr g n (lastL seed)) := ⟨s, hsl, hrw, htold⟩
      have dq : decide (0 ≤ q) = false := decide_eq_false hge
      clear hs hrw htold hq hq1 hge hs2 hb2 hrow hsl
      go_wp2
      go_ret2
      exact ⟨g, rfl, HFU.out, hb, HG.out⟩

set_option maxHeartbeats 800000 in
set_option maxRecDepth 20000 in
theorem rall_any (w : World) (a : Option Addr) (ca : Nat) (seed : List UInt8) (n : Int) (ha : Sees w a ca seed) :
    Calls Tryz.prog 28 #[.slice a seed.length ca, .int .i64 n] w fun e w' => RTells w w' e (allP seed n).1 (allP seed n).2 := by
  have hkm : seed.length ≤ 9223372036854775807 := by have := ha.fits; have := ha.room; unfold maxLen at this; omega
  by_cases hc : seed.length = 16 ∧ 1 ≤ n ∧ n ≤ 256
  · have hP : allP seed n = (allL n.toNat (lastL seed), 0) := by unfold allP; rw [if_pos hc]
    rw [hP]
    obtain ⟨h16, h1, h2⟩ := hc
    obtain ⟨m, rfl⟩ : ∃ m : Nat, n = (m : Int) := ⟨n.toNat, by omega⟩
    rw [h16, Int.toNat_natCast]
    refine (rall_ok w a ca seed h16 m (by omega) (by omega) ha).mono ?_
    rintro e w' ⟨g, rfl, hf, hb, _⟩
    exact rtells_full (lastL_len seed) (by omega) hf hb
  · have hP : allP seed n = ([], 1) := by unfold allP; rw [if_neg hc]
    rw [hP]
    by_cases h16 : seed.length = 16
    · rw [h16]
      by_cases h0 : n < 1
      · clear hP hc ha h16 hkm
        go_enter Tryz.func28, Tryz.ntmps28
        go_wp2
        go_ret2
        exact rtells_no (Below.refl _ _)
      · have d1 : decide (n < 1) = false := decide_eq_false h0
        have d2 : 256 < n := by omega
        clear hP hc ha h16 hkm h0
        go_enter Tryz.func28, Tryz.ntmps28
        go_wp2
        go_ret2
        exact rtells_no (Below.refl _ _)
    · have dd : ((seed.length : Int) != 16) = true := by simp; omega
      clear hP hc ha h16
      go_enter Tryz.func28, Tryz.ntmps28
      go_wp2
      go_ret2
      exact rtells_no (Below.refl _ _)

end Go.Proofs.YtgncdnejmobjbaaGreatDoor

namespace Go.Proofs.YtgncdnejmobjbaaGreatDoor
open Go.ChangeShapes Go.WideShapes Go.ChangeAt Go.RowKit
set_option maxRecDepth 20000

end Go.Proofs.YtgncdnejmobjbaaGreatDoor
