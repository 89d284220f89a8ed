/-
  The document's chain: the contracts of its Seed, Back, All, Key and Follows.
  The document's Follows.
-/
import Derived.Test.YtmffplhaclnehaaGreatDoorChainC
namespace Go.Proofs.YtmffplhaclnehaaGreatDoor
open Go.ChangeShapes Go.WideShapes Go.ChangeAt Go.RowKit
set_option maxRecDepth 20000

set_option maxHeartbeats 1600000 in
set_option maxRecDepth 20000 in
theorem rback_any (w : World) (a : Option Addr) (ca : Nat) (key : List UInt8) (n : Int) (ha : Sees w a ca key) :
    Calls Tryz.prog 44 #[.slice a key.length ca, .int .i64 n] w fun e w' => Tells w w' e (backP key n).1 (backP key n).2 := by
  have hkm : key.length ≤ 9223372036854775807 := by have := ha.fits; have := ha.room; unfold maxLen at this; omega
  by_cases hg : key.length = 16 ∧ 0 ≤ n ∧ n ≤ 256
  · have hP : backP key n = (backL n.toNat key, 0) := by unfold backP; rw [if_pos hg]
    rw [hP]
    obtain ⟨h16, h0, h1⟩ := hg
    obtain ⟨m, rfl⟩ : ∃ m : Nat, n = (m : Int) := ⟨n.toNat, by omega⟩
    rw [Int.toNat_natCast]
    have hb0 : Below w.heap.size w (w.alloc (.cells #[] 5)) := (Below.refl _ _).alloc (Nat.le_refl _) _
    obtain ⟨v1, w1, hrun1, ho1, hk1⟩ := append_own_any _ w.heap.size _ [] (own_empty w) a ca key (ha.below hb0) (by simp; omega) (by simp)
    have hb1 := hk1 _ _ hb0 (Nat.le_refl _)
    rw [List.nil_append] at ho1
    obtain ⟨d1, c1, rfl, hs1⟩ := Sees.of_own ho1
    rw [h16] at hrun1 ⊢
    have HR1 : Hid ((Builtin.append_ #[24, 24] 24 #[.slice (some ⟨w.heap.size, 0, none⟩) ([] : List UInt8).length 0, .slice a 16 ca]).run Tryz.prog (w.alloc (.cells #[] 5)) = .ok (.slice d1 16 c1) w1) := hrun1
    have Hk : Hid (key.length = 16) := h16
    have hm : m ≤ 256 := by omega
    have e1 : decide ((m : Int) < 0) = false := decide_eq_false (by omega)
    have e2 : decide ((256 : Int) < (m : Int)) = false := decide_eq_false (by omega)
    have HL : Hid ((backL m key).length = 16) := backL_len m key h16
    clear hP h0 h1 ha h16 hkm hrun1 ho1 hk1 hb0
    go_enter Tryz.func44, Tryz.ntmps44
    go_wp2_with (at_builtin; refine wpList_append_run rfl _ _ 24 rfl _ _ _ rfl rfl HR1.out ?_)
    go_loopw [6, 7, 8, 9] (fun k i _ _ wr => ∃ (d : Option Addr) (c t : Nat), t ≤ m ∧ k = .slice d 16 c ∧ i = .int .i64 (t : Int) ∧ Sees wr d c (backL t key) ∧ Below w.heap.size w wr) (fun _ i _ _ _ => m - (intOf i).toNat)
    case atStart => exact ⟨d1, c1, 0, Nat.zero_le _, rfl, rfl, hs1, hb1⟩
    case round =>
      obtain ⟨d, c, t, ht, rfl, rfl, hs, hb⟩ := hrel
      by_cases hlt : t < m
      · have hst := rstep_any wr d c (backL t key) hs
        have hbl := backL_len t key Hk.out
        rw [stepP_eq _ hbl, hbl] at hst
        clear hs hs1 hb1 hbl
        go_wp2_with fail
        refine hst.mono ?_
        rintro e w5 ⟨d5, c5, r5, hr5, rfl, hs5, hb5⟩
        have hr : r5 = backL (t + 1) key := hr5.out
        have hrl : r5.length = 16 := by rw [hr]; exact backL_len _ _ Hk.out
        rw [hr] at hs5
        rw [hrl]
        have hbw := hb.trans (hb5.mono hb.size)
        clear hst hr5 hb5 hb hr hrl
        go_wp2
        go_roundw
        case rel => exact ⟨d5, c5, t + 1, hlt, rfl, by go_num, hs5, hbw⟩
        case measure => simp [intOf]; omega
      · obtain rfl : t = m := by omega
        clear hs1 hb1 ht
        go_wp2
        go_ret2
        exact tells16 HL.out hs hb
  · have hP : backP key n = ([], 1) := by unfold backP; rw [if_neg hg]
    rw [hP]
    by_cases h16 : key.length = 16
    · rw [h16]
      by_cases h0 : n < 0
      · clear hP hg ha h16 hkm
        go_enter Tryz.func44, Tryz.ntmps44
        go_wp2
        go_ret2
        exact tells_no (Below.refl _ _)
      · have d1 : decide (n < 0) = false := decide_eq_false h0
        have d2 : 256 < n := by omega
        clear hP hg ha h16 hkm h0
        go_enter Tryz.func44, Tryz.ntmps44
        go_wp2
        go_ret2
        exact tells_no (Below.refl _ _)
    · have dd : ((key.length : Int) != 16) = true := by simp; omega
      clear hP hg ha h16
      go_enter Tryz.func44, Tryz.ntmps44
      go_wp2
      go_ret2
      exact tells_no (Below.refl _ _)

/-- What the document's All has written so far. -/
def RAll (W : World) (g n : Nat) (key : List UInt8) (s : List Loc) : Prop := W.heap[g]? = some (.cells (rowL n s).toArray 24 (0, 0)) ∧ Told W key s

end Go.Proofs.YtmffplhaclnehaaGreatDoor

namespace Go.Proofs.YtmffplhaclnehaaGreatDoor
open Go.ChangeShapes Go.WideShapes Go.ChangeAt Go.RowKit
set_option maxRecDepth 20000

set_option maxHeartbeats 1600000 in
set_option maxRecDepth 20000 in
theorem rfol_any (w : World) (i : Int) (a : Option Addr) (ca : Nat) (known : List UInt8) (j : Int) (b : Option Addr) (cb : Nat) (key : List UInt8) (ha : Sees w a ca known) (hb : Sees w b cb key) :
    Calls Tryz.prog 37 #[.int .i64 i, .slice a known.length ca, .int .i64 j, .slice b key.length cb] w fun e w' => e = .returned (.int .i64 (folP i known j key : Int)) ∧ Below w.heap.size w w' := by
  have hkm : known.length ≤ 9223372036854775807 := by have := ha.fits; have := ha.room; unfold maxLen at this; omega
  have hym : key.length ≤ 9223372036854775807 := by have := hb.fits; have := hb.room; unfold maxLen at this; omega
  by_cases hg : 0 ≤ i ∧ i ≤ 256 ∧ 0 ≤ j ∧ j ≤ 256 ∧ known.length = 16 ∧ key.length = 16
  · have hP : folP i known j key = (if j < i then 10 else if backL (j - i).toNat key = known then 0 else 11) := by unfold folP; rw [if_pos hg]
    obtain ⟨h0, h1, h2, h3, h4, h5⟩ := hg
    have d1 : decide (i < 0) = false := decide_eq_false (by omega)
    have d2 : decide (256 < i) = false := decide_eq_false (by omega)
    have d3 : decide (j < 0) = false := decide_eq_false (by omega)
    have d4 : decide (256 < j) = false := decide_eq_false (by omega)
    by_cases hlt : j < i
    · rw [hP, if_pos hlt, h4, h5]
      clear hP h0 h1 h2 h3 h4 h5 ha hb hkm hym
      go_enter Tryz.func37, Tryz.ntmps37
      go_wp2
      go_ret
      exact ⟨rfl, Below.refl _ _⟩
    · obtain ⟨x, rfl⟩ : ∃ x : Nat, i = (x : Int) := ⟨i.toNat, by omega⟩
      obtain ⟨y, rfl⟩ : ∃ y : Nat, j = (y : Int) := ⟨j.toNat, by omega⟩
      have k5 := rback_any w b cb key (((y - x : Nat) : Int)) hb
      have hBP : backP key ((y - x : Nat) : Int) = (backL (y - x) key, 0) := by unfold backP; rw [if_pos ⟨h5, by omega, by omega⟩, Int.toNat_natCast]
      rw [hBP] at k5
      obtain ⟨z, hz⟩ : ∃ z, z = y - x := ⟨_, rfl⟩
      have hz1 : (y : Int) - (x : Int) = (z : Int) := by omega
      rw [hP, if_neg hlt, show ((y : Int) - (x : Int)).toNat = y - x by omega]
      obtain ⟨r, hr⟩ : ∃ r, r = backL (y - x) key := ⟨_, rfl⟩
      have hrl : r.length = 16 := by rw [hr]; exact backL_len _ _ h5
      rw [← hr] at k5 ⊢
      rw [← hz] at k5
      have HA : Hid (Sees w a ca known) := ha
      have HRL : Hid (r.length = 16) := hrl
      have HKL : Hid (known.length = 16) := h4
      have d0 : decide ((y : Int) < (x : Int)) = false := decide_eq_false hlt
      have d5 : decide (y < x) = false := decide_eq_false (by omega)
      have hzm : z ≤ 256 := by omega
      rw [h5] at k5
      rw [h4, h5]
      clear hP h0 h1 h2 h3 h4 h5 ha hb hkm hym hlt hr hrl hBP hz
      by_cases hrk : r = known
      · rw [if_pos hrk]
        go_enter Tryz.func37, Tryz.ntmps37
        go_wp2_with fail
        refine k5.mono ?_
        rintro e w5 ⟨d6, c6, rfl, hs5, hb5⟩
        have e1 := hs5.convert (P := Tryz.prog) 24 5 9 Tryz.underlying24 Tryz.underlying5 Tryz.underlying9
        have e2 := (HA.out.below hb5).convert (P := Tryz.prog) 24 5 9 Tryz.underlying24 Tryz.underlying5 Tryz.underlying9
        rw [HKL.out] at e2
        rw [← hrk] at e2
        rw [HRL.out] at e1 ⊢
        clear k5 hs5 hrk
        go_wp2
        go_ret
        exact ⟨rfl, hb5⟩
      · rw [if_neg hrk]
        go_enter Tryz.func37, Tryz.ntmps37
        go_wp2_with fail
        refine k5.mono ?_
        rintro e w5 ⟨d6, c6, rfl, hs5, hb5⟩
        have e1 := hs5.convert (P := Tryz.prog) 24 5 9 Tryz.underlying24 Tryz.underlying5 Tryz.underlying9
        have e2 := (HA.out.below hb5).convert (P := Tryz.prog) 24 5 9 Tryz.underlying24 Tryz.underlying5 Tryz.underlying9
        rw [HKL.out] at e2
        rw [HRL.out] at e1 ⊢
        have hne : (r == known) = false := by simpa using hrk
        clear k5 hs5 hrk
        go_wp2
        go_ret
        exact ⟨rfl, hb5⟩
  · have hP : folP i known j key = 1 := by unfold folP; rw [if_neg hg]
    rw [hP]
    clear hP
    by_cases h0 : i < 0
    · clear hg ha hb
      go_enter Tryz.func37, Tryz.ntmps37
      go_wp2
      go_ret
      exact ⟨rfl, Below.refl _ _⟩
    have d1 : decide (i < 0) = false := decide_eq_false h0
    by_cases h1 : 256 < i
    · clear hg ha hb h0
      go_enter Tryz.func37, Tryz.ntmps37
      go_wp2
      go_ret
      exact ⟨rfl, Below.refl _ _⟩
    have d2 : decide (256 < i) = false := decide_eq_false h1
    by_cases h2 : j < 0
    · clear hg ha hb h0 h1
      go_enter Tryz.func37, Tryz.ntmps37
      go_wp2
      go_ret
      exact ⟨rfl, Below.refl _ _⟩
    have d3 : decide (j < 0) = false := decide_eq_false h2
    by_cases h3 : 256 < j
    · clear hg ha hb h0 h1 h2
      go_enter Tryz.func37, Tryz.ntmps37
      go_wp2
      go_ret
      exact ⟨rfl, Below.refl _ _⟩
    have d4 : decide (256 < j) = false := decide_eq_false h3
    by_cases h4 : known.length = 16
    · have h5 : ((key.length : Int) != 16) = true := by simp; omega
      rw [h4]
      clear hg ha hb h0 h1 h2 h3 h4
      go_enter Tryz.func37, Tryz.ntmps37
      go_wp2
      go_ret
      exact ⟨rfl, Below.refl _ _⟩
    · have h5 : ((known.length : Int) != 16) = true := by simp; omega
      clear hg ha hb h0 h1 h2 h3 h4
      go_enter Tryz.func37, Tryz.ntmps37
      go_wp2
      go_ret
      exact ⟨rfl, Below.refl _ _⟩
end Go.Proofs.YtmffplhaclnehaaGreatDoor
