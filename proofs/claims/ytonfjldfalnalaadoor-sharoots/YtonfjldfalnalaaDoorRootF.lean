/-
  The contracts of the document's fits and root.
-/
import Derived.Test.YtonfjldfalnalaaDoorRootT
namespace Go.Proofs.YtonfjldfalnalaaDoor
open Go.ChangeShapes Go.WideShapes Go.ChangeAt Go.RowKit

theorem times_n (w : World) (a : Option Addr) (ca n : Nat) (l : List Nat) (y : Nat) (hn : l.length = n) (ha : Longs w a ca l) (hl : n ≤ 100) (hy : y < 18446744073709551616) :
    Calls Tryd.prog 45 #[.slice a n ca, .int .u64 (y : Int)] w fun e w' => ∃ d, e = .returned (.slice (some d) (n + 4) (n + 4)) ∧ Longs w' (some d) (n + 4) (timesL l y) ∧ Below w.heap.size w w' := by
  subst hn; exact times_any w a ca l y ha hl hy

theorem hiL_step (L : List Nat) (m h : Nat) (hm : m < L.length) (hh : hiL L (L.length - (m + 1)) = some h) :
    hiL L (L.length - m) = if 1048576 < h then none else some ((h * 65536 % 18446744073709551616) ||| L.getD m 0) := by
  have e : L.length - m = (L.length - (m + 1)) + 1 := by omega
  rw [e]
  simp only [hiL, hh]
  rw [show L.length - 1 - (L.length - (m + 1)) = m from by omega]

theorem hiL_dead (L : List Nat) (m T : Nat) (hT : T ≤ m) (h : hiL L (L.length - m) = none) (hm : m ≤ L.length) : hiL L (L.length - T) = none := by
  have := hiL_none L _ h (m - T)
  rw [show L.length - m + (m - T) = L.length - T from by omega] at this
  exact this

theorem or_lt64 {a b : Nat} (ha : a < 18446744073709551616) (hb : b < 18446744073709551616) : a ||| b < 18446744073709551616 := Nat.or_lt_two_pow (n := 64) ha hb

theorem getD_small {l : List Nat} {M : Nat} (h : ∀ x ∈ l, x < M) (hM : 0 < M) (i : Nat) : l.getD i 0 < M := by
  rw [List.getD_eq_getElem?_getD]
  cases hx : l[i]? with
  | none => simpa using hM
  | some x => simpa using h x (List.mem_of_getElem? hx)

theorem shl16 (h : Nat) : IntKind.u64.wrap ((h : Int) * 65536) = ((h * 65536 % 18446744073709551616 : Nat) : Int) := by
  rw [IntKind.wrap_u64]; omega

theorem fitsL_true (y p : Nat) : fitsL y p true = tellL (timesL (timesL (partsL y) y) y) 6 p := by unfold fitsL; rw [if_pos rfl]
theorem fitsL_false (y p : Nat) : fitsL y p false = tellL (timesL (partsL y) y) 4 p := by unfold fitsL; rw [if_neg (by simp)]

set_option maxHeartbeats 1600000 in
set_option maxRecDepth 20000 in
theorem fits_cube (w : World) (y p : Nat) (hy : y < 18446744073709551616) (hp : p < 18446744073709551616) :
    Calls Tryd.prog 41 #[.int .u64 (y : Int), .int .u64 (p : Int), .bool true] w fun e w' => e = .returned (.bool (fitsL y p true)) ∧ Below w.heap.size w w' := by
  have e0 : bits .and .u64 (y : Int) 65535 = ((y % 65536 : Nat) : Int) := low16 y hy
  have e1 : bits .and .u64 ((y : Int) / 65536) 65535 = ((y / 65536 % 65536 : Nat) : Int) := by rw [← low16 (y / 65536) (by omega)]; simp
  have e2 : bits .and .u64 ((y : Int) / 4294967296) 65535 = ((y / 4294967296 % 65536 : Nat) : Int) := by rw [← low16 (y / 4294967296) (by omega)]; simp
  obtain ⟨p0, h0⟩ : ∃ x, x = y % 65536 := ⟨_, rfl⟩
  obtain ⟨p1, h1⟩ : ∃ x, x = y / 65536 % 65536 := ⟨_, rfl⟩
  obtain ⟨p2, h2⟩ : ∃ x, x = y / 4294967296 % 65536 := ⟨_, rfl⟩
  have hP : Longs (w.alloc (.cells #[.int .u64 (p0 : Int), .int .u64 (p1 : Int), .int .u64 (p2 : Int)] 54)) (some ⟨w.heap.size, 0, none⟩) 3 [p0, p1, p2] :=
    Longs.lit w 54 [p0, p1, p2] (by simp) (by simp; omega)
  have hb0 : Below w.heap.size w (w.alloc (.cells #[.int .u64 (p0 : Int), .int .u64 (p1 : Int), .int .u64 (p2 : Int)] 54)) := (Below.refl _ _).alloc (Nat.le_refl _) _
  have HP : Hid (partsL y = [p0, p1, p2]) := by rw [h0, h1, h2]; exact rfl
  rw [← h0] at e0
  rw [← h1] at e1
  rw [← h2] at e2
  have hc := times_n _ _ 3 3 [p0, p1, p2] y rfl hP (by omega) hy
  clear h0 h1 h2 hP
  obtain ⟨F, hFe⟩ : ∃ F, F = fitsL y p true := ⟨_, rfl⟩
  rw [← hFe]
  have HFE : Hid (F = fitsL y p true) := hFe
  clear hFe
  go_enter Tryd.func41, Tryd.ntmps41
  go_wp2_with fail
  refine hc.mono ?_
  rintro e w1 ⟨d1, rfl, hL1, hb1⟩
  have hc2 := times_n w1 _ 7 7 (timesL [p0, p1, p2] y) y (timesL_len _ _) hL1 (by omega) hy
  have hb2 : Below w.heap.size w w1 := hb0.trans (hb1.mono (by simp))
  clear hc e0 e1 e2 hb0 hb1 hL1
  go_wp2_with fail
  refine hc2.mono ?_
  rintro e w2 ⟨d2, rfl, hL2, hb3⟩
  clear hc2
  have hb4 : Below w.heap.size w w2 := hb2.trans (hb3.mono hb2.size)
  obtain ⟨L, hL⟩ : ∃ L, L = timesL (timesL [p0, p1, p2] y) y := ⟨_, rfl⟩
  have hF : F = tellL L 6 p := by rw [HFE.out, fitsL_true, HP.out, hL]
  have hN : L.length = 11 := by rw [hL, timesL_len, timesL_len]; rfl
  rw [← hL] at hL2
  clear hL hb2 hb3
  have HF : Hid (F = tellL L 6 p) := hF
  clear HFE HP
  have HR : Hid (Longs w2 (some d2) 11 L) := hL2
  have HB : Hid (Below w.heap.size w w2) := hb4
  have HN : Hid (L.length = 11) := hN
  clear hL2 hb4 hN hF
  go_wp2
  go_loop [9, 10] (fun h i => ∃ m hh : Nat, 6 ≤ m ∧ m ≤ 11 ∧ i = .int .i64 ((m : Int) - 1) ∧ h = .int .u64 (hh : Int) ∧ hh < 18446744073709551616 ∧ hiL L (L.length - m) = some hh) (fun _ i => (intOf i).toNat)
  case atStart => exact ⟨11, 0, by omega, by omega, rfl, rfl, by omega, by rw [HN.out]; rfl⟩
  case round =>
    obtain ⟨m, hh, hm6, hm11, rfl, rfl, hhl, hhi⟩ := hrel
    by_cases hlt : 6 < m
    · obtain ⟨k, rfl⟩ : ∃ k, m = k + 1 := ⟨m - 1, by omega⟩
      rw [show ((k + 1 : Nat) : Int) - 1 = (k : Int) from by omega]
      have hst := hiL_step L k hh (by rw [HN.out]; omega) hhi
      obtain ⟨b1, o1, hd, hcell⟩ := HR.out.get (getD_of (l := L) (i := k) (by rw [HN.out]; omega))
      obtain ⟨x, hx⟩ : ∃ x, x = L.getD k 0 := ⟨_, rfl⟩
      have hxs : x < 18446744073709551616 := by rw [hx]; exact getD_small HR.out.small (by omega) k
      rw [← hx] at hcell hst
      cases hd
      by_cases hbig : 1048576 < hh
      · rw [if_pos hbig] at hst
        have hdead := hiL_dead L k 6 (by omega) hst (by rw [HN.out]; omega)
        have hD : F = false := by rw [HF.out]; unfold tellL; rw [hdead]
        have HD : Hid (F = false) := hD
        clear hD
        clear hst hdead hx hhi
        go_wp2
        go_ret
        exact ⟨by rw [HD.out]; rfl, HB.out⟩
      · rw [if_neg hbig] at hst
        obtain ⟨z, hz⟩ : ∃ z, z = hh * 65536 % 18446744073709551616 := ⟨_, rfl⟩
        obtain ⟨q, hq⟩ : ∃ q, q = z ||| x := ⟨_, rfl⟩
        have hzl : z < 18446744073709551616 := by omega
        have ez : IntKind.u64.wrap ((hh : Int) * 65536) = (z : Int) := by rw [hz]; exact shl16 hh
        have ez2 : (hh : Int) * 65536 = (z : Int) := by omega
        have eq : bits .or .u64 (z : Int) (x : Int) = (q : Int) := by rw [hq]; exact u64_or_nat z x hzl hxs
        have hql : q < 18446744073709551616 := by rw [hq]; exact or_lt64 hzl hxs
        have HST : Hid (hiL L (L.length - k) = some q) := by rw [hq, hz]; exact hst
        clear hst hx hhi hz hq
        go_wp2
        go_round
        case rel => exact ⟨k, q, by omega, by omega, by go_num, by first | rfl | simp, hql, HST.out⟩
        case measure => simp [intOf]; omega
    · obtain rfl : m = 6 := by omega
      have hT : tellL L 6 p = (decide (hh < p) || (decide (hh = p) && decide (restL L 6 = 0))) := by unfold tellL; rw [hhi]
      have HT : Hid (tellL L 6 p = (decide (hh < p) || (decide (hh = p) && decide (restL L 6 = 0)))) := hT
      clear hhi hT
      go_wp2
      go_loop [11, 12] (fun r i => ∃ k rr : Nat, k ≤ 6 ∧ i = .int .i64 k ∧ r = .int .u64 (rr : Int) ∧ rr < 18446744073709551616 ∧ rr = restL L k) (fun _ i => 6 - (intOf i).toNat)
      case atStart => exact ⟨0, 0, by omega, rfl, rfl, by omega, rfl⟩
      case round =>
        obtain ⟨k, rr, hk, rfl, rfl, hrl, hrr⟩ := hrel
        by_cases hlt2 : k < 6
        · obtain ⟨b1, o1, hd, hcell⟩ := HR.out.get (getD_of (l := L) (i := k) (by rw [HN.out]; omega))
          obtain ⟨x, hx⟩ : ∃ x, x = L.getD k 0 := ⟨_, rfl⟩
          have hxs : x < 18446744073709551616 := by rw [hx]; exact getD_small HR.out.small (by omega) k
          rw [← hx] at hcell
          cases hd
          obtain ⟨q, hq⟩ : ∃ q, q = rr ||| x := ⟨_, rfl⟩
          have eq : bits .or .u64 (rr : Int) (x : Int) = (q : Int) := by rw [hq]; exact u64_or_nat rr x hrl hxs
          have hql : q < 18446744073709551616 := by rw [hq]; exact or_lt64 hrl hxs
          have HST : Hid (q = restL L (k + 1)) := by rw [hq, hx, hrr]; exact rfl
          clear hx hrr hq
          go_wp2
          go_round
          case rel => exact ⟨k + 1, q, by omega, by go_num, rfl, hql, HST.out⟩
          case measure => simp [intOf]; omega
        · obtain rfl : k = 6 := by omega
          rw [← hrr] at HT
          clear hrr
          by_cases c1 : hh < p
          · go_wp2
            go_ret
            exact ⟨by rw [HF.out, HT.out]; simp [c1], HB.out⟩
          · by_cases c2 : hh = p
            · subst c2
              go_wp2
              go_ret
              refine ⟨?_, HB.out⟩
              rw [HF.out, HT.out]; by_cases c3 : rr = 0 <;> simp [c3]
            · go_wp2
              go_ret
              exact ⟨by rw [HF.out, HT.out]; simp [c1, c2], HB.out⟩

set_option maxHeartbeats 1600000 in
set_option maxRecDepth 20000 in
theorem fits_square (w : World) (y p : Nat) (hy : y < 18446744073709551616) (hp : p < 18446744073709551616) :
    Calls Tryd.prog 41 #[.int .u64 (y : Int), .int .u64 (p : Int), .bool false] w fun e w' => e = .returned (.bool (fitsL y p false)) ∧ Below w.heap.size w w' := by
  have e0 : bits .and .u64 (y : Int) 65535 = ((y % 65536 : Nat) : Int) := low16 y hy
  have e1 : bits .and .u64 ((y : Int) / 65536) 65535 = ((y / 65536 % 65536 : Nat) : Int) := by rw [← low16 (y / 65536) (by omega)]; simp
  have e2 : bits .and .u64 ((y : Int) / 4294967296) 65535 = ((y / 4294967296 % 65536 : Nat) : Int) := by rw [← low16 (y / 4294967296) (by omega)]; simp
  obtain ⟨p0, h0⟩ : ∃ x, x = y % 65536 := ⟨_, rfl⟩
  obtain ⟨p1, h1⟩ : ∃ x, x = y / 65536 % 65536 := ⟨_, rfl⟩
  obtain ⟨p2, h2⟩ : ∃ x, x = y / 4294967296 % 65536 := ⟨_, rfl⟩
  have hP : Longs (w.alloc (.cells #[.int .u64 (p0 : Int), .int .u64 (p1 : Int), .int .u64 (p2 : Int)] 54)) (some ⟨w.heap.size, 0, none⟩) 3 [p0, p1, p2] :=
    Longs.lit w 54 [p0, p1, p2] (by simp) (by simp; omega)
  have hb0 : Below w.heap.size w (w.alloc (.cells #[.int .u64 (p0 : Int), .int .u64 (p1 : Int), .int .u64 (p2 : Int)] 54)) := (Below.refl _ _).alloc (Nat.le_refl _) _
  have HP : Hid (partsL y = [p0, p1, p2]) := by rw [h0, h1, h2]; exact rfl
  rw [← h0] at e0
  rw [← h1] at e1
  rw [← h2] at e2
  have hc := times_n _ _ 3 3 [p0, p1, p2] y rfl hP (by omega) hy
  clear h0 h1 h2 hP
  obtain ⟨F, hFe⟩ : ∃ F, F = fitsL y p false := ⟨_, rfl⟩
  rw [← hFe]
  have HFE : Hid (F = fitsL y p false) := hFe
  clear hFe
  go_enter Tryd.func41, Tryd.ntmps41
  go_wp2_with fail
  refine hc.mono ?_
  rintro e w2 ⟨d2, rfl, hL2, hb3⟩
  have hb4 : Below w.heap.size w w2 := hb0.trans (hb3.mono (by simp))
  clear hc e0 e1 e2 hb0
  obtain ⟨L, hL⟩ : ∃ L, L = timesL [p0, p1, p2] y := ⟨_, rfl⟩
  have hF : F = tellL L 4 p := by rw [HFE.out, fitsL_false, HP.out, hL]
  have hN : L.length = 7 := by rw [hL, timesL_len]; rfl
  rw [← hL] at hL2
  clear hL hb3
  have HF : Hid (F = tellL L 4 p) := hF
  clear HFE HP
  have HR : Hid (Longs w2 (some d2) 7 L) := hL2
  have HB : Hid (Below w.heap.size w w2) := hb4
  have HN : Hid (L.length = 7) := hN
  clear hL2 hb4 hN hF
  go_wp2
  go_loop [9, 10] (fun h i => ∃ m hh : Nat, 4 ≤ m ∧ m ≤ 7 ∧ i = .int .i64 ((m : Int) - 1) ∧ h = .int .u64 (hh : Int) ∧ hh < 18446744073709551616 ∧ hiL L (L.length - m) = some hh) (fun _ i => (intOf i).toNat)
  case atStart => exact ⟨7, 0, by omega, by omega, rfl, rfl, by omega, by rw [HN.out]; rfl⟩
  case round =>
    obtain ⟨m, hh, hm6, hm11, rfl, rfl, hhl, hhi⟩ := hrel
    by_cases hlt : 4 < m
    · obtain ⟨k, rfl⟩ : ∃ k, m = k + 1 := ⟨m - 1, by omega⟩
      rw [show ((k + 1 : Nat) : Int) - 1 = (k : Int) from by omega]
      have hst := hiL_step L k hh (by rw [HN.out]; omega) hhi
      obtain ⟨b1, o1, hd, hcell⟩ := HR.out.get (getD_of (l := L) (i := k) (by rw [HN.out]; omega))
      obtain ⟨x, hx⟩ : ∃ x, x = L.getD k 0 := ⟨_, rfl⟩
      have hxs : x < 18446744073709551616 := by rw [hx]; exact getD_small HR.out.small (by omega) k
      rw [← hx] at hcell hst
      cases hd
      by_cases hbig : 1048576 < hh
      · rw [if_pos hbig] at hst
        have hdead := hiL_dead L k 4 (by omega) hst (by rw [HN.out]; omega)
        have hD : F = false := by rw [HF.out]; unfold tellL; rw [hdead]
        have HD : Hid (F = false) := hD
        clear hD
        clear hst hdead hx hhi
        go_wp2
        go_ret
        exact ⟨by rw [HD.out]; rfl, HB.out⟩
      · rw [if_neg hbig] at hst
        obtain ⟨z, hz⟩ : ∃ z, z = hh * 65536 % 18446744073709551616 := ⟨_, rfl⟩
        obtain ⟨q, hq⟩ : ∃ q, q = z ||| x := ⟨_, rfl⟩
        have hzl : z < 18446744073709551616 := by omega
        have ez : IntKind.u64.wrap ((hh : Int) * 65536) = (z : Int) := by rw [hz]; exact shl16 hh
        have ez2 : (hh : Int) * 65536 = (z : Int) := by omega
        have eq : bits .or .u64 (z : Int) (x : Int) = (q : Int) := by rw [hq]; exact u64_or_nat z x hzl hxs
        have hql : q < 18446744073709551616 := by rw [hq]; exact or_lt64 hzl hxs
        have HST : Hid (hiL L (L.length - k) = some q) := by rw [hq, hz]; exact hst
        clear hst hx hhi hz hq
        go_wp2
        go_round
        case rel => exact ⟨k, q, by omega, by omega, by go_num, by first | rfl | simp, hql, HST.out⟩
        case measure => simp [intOf]; omega
    · obtain rfl : m = 4 := by omega
      have hT : tellL L 4 p = (decide (hh < p) || (decide (hh = p) && decide (restL L 4 = 0))) := by unfold tellL; rw [hhi]
      have HT : Hid (tellL L 4 p = (decide (hh < p) || (decide (hh = p) && decide (restL L 4 = 0)))) := hT
      clear hhi hT
      go_wp2
      go_loop [11, 12] (fun r i => ∃ k rr : Nat, k ≤ 4 ∧ i = .int .i64 k ∧ r = .int .u64 (rr : Int) ∧ rr < 18446744073709551616 ∧ rr = restL L k) (fun _ i => 4 - (intOf i).toNat)
      case atStart => exact ⟨0, 0, by omega, rfl, rfl, by omega, rfl⟩
      case round =>
        obtain ⟨k, rr, hk, rfl, rfl, hrl, hrr⟩ := hrel
        by_cases hlt2 : k < 4
        · obtain ⟨b1, o1, hd, hcell⟩ := HR.out.get (getD_of (l := L) (i := k) (by rw [HN.out]; omega))
          obtain ⟨x, hx⟩ : ∃ x, x = L.getD k 0 := ⟨_, rfl⟩
          have hxs : x < 18446744073709551616 := by rw [hx]; exact getD_small HR.out.small (by omega) k
          rw [← hx] at hcell
          cases hd
          obtain ⟨q, hq⟩ : ∃ q, q = rr ||| x := ⟨_, rfl⟩
          have eq : bits .or .u64 (rr : Int) (x : Int) = (q : Int) := by rw [hq]; exact u64_or_nat rr x hrl hxs
          have hql : q < 18446744073709551616 := by rw [hq]; exact or_lt64 hrl hxs
          have HST : Hid (q = restL L (k + 1)) := by rw [hq, hx, hrr]; exact rfl
          clear hx hrr hq
          go_wp2
          go_round
          case rel => exact ⟨k + 1, q, by omega, by go_num, rfl, hql, HST.out⟩
          case measure => simp [intOf]; omega
        · obtain rfl : k = 4 := by omega
          rw [← hrr] at HT
          clear hrr
          by_cases c1 : hh < p
          · go_wp2
            go_ret
            exact ⟨by rw [HF.out, HT.out]; simp [c1], HB.out⟩
          · by_cases c2 : hh = p
            · subst c2
              go_wp2
              go_ret
              refine ⟨?_, HB.out⟩
              rw [HF.out, HT.out]; by_cases c3 : rr = 0 <;> simp [c3]
            · go_wp2
              go_ret
              exact ⟨by rw [HF.out, HT.out]; simp [c1, c2], HB.out⟩

theorem fits_any (w : World) (y p : Nat) (c : Bool) (hy : y < 18446744073709551616) (hp : p < 18446744073709551616) :
    Calls Tryd.prog 41 #[.int .u64 (y : Int), .int .u64 (p : Int), .bool c] w fun e w' => e = .returned (.bool (fitsL y p c)) ∧ Below w.heap.size w w' := by
  cases c
  · exact fits_square w y p hy hp
  · exact fits_cube w y p hy hp

theorem rootL_step (p : Nat) (c : Bool) (m x : Nat) (hm : m < 40) (hx : rootL p c (40 - (m + 1)) = x) : rootL p c (40 - m) = if fitsL (x ||| 2 ^ m) p c then x ||| 2 ^ m else x := by
  rw [show 40 - m = (40 - (m + 1)) + 1 from by omega]
  simp only [rootL]
  rw [hx, show 39 - (40 - (m + 1)) = m from by omega]

set_option maxHeartbeats 800000 in
theorem root_any (w : World) (p : Nat) (c : Bool) (hp : p < 18446744073709551616) :
    Calls Tryd.prog 31 #[.int .u64 (p : Int), .bool c] w fun e w' => e = .returned (.int .u64 ((rootL p c 40 : Nat) : Int)) ∧ Below w.heap.size w w' := by
  go_enter Tryd.func31, Tryd.ntmps31
  go_wp2
  go_loopw [5, 6, 7] (fun x i y wr => ∃ m xx : Nat, m ≤ 40 ∧ i = .int .i64 ((m : Int) - 1) ∧ x = .int .u64 (xx : Int) ∧ xx < 1099511627776 ∧ rootL p c (40 - m) = xx ∧ Below w.heap.size w wr) (fun _ i _ _ => ((intOf i) + 1).toNat)
  case atStart => exact ⟨40, 0, by omega, rfl, rfl, by omega, rfl, Below.refl _ _⟩
  case round =>
    obtain ⟨m, x, hm, rfl, rfl, hxl, hx, hbl⟩ := hrel
    by_cases hlt : 0 < m
    · obtain ⟨k, rfl⟩ : ∃ k, m = k + 1 := ⟨m - 1, by omega⟩
      rw [show ((k + 1 : Nat) : Int) - 1 = (k : Int) from by omega]
      have hst := rootL_step p c k x (by omega) hx
      obtain ⟨z, hz⟩ : ∃ z, z = 2 ^ k := ⟨_, rfl⟩
      have hzl : z < 1099511627776 := by rw [hz]; exact Nat.pow_lt_pow_right (a := 2) (n := 40) (by omega) (by omega)
      have hzi : (2 : Int) ^ k = (z : Int) := by rw [hz]; simp
      obtain ⟨q, hq⟩ : ∃ q, q = x ||| z := ⟨_, rfl⟩
      rw [← hz, ← hq] at hst
      have eq : bits .or .u64 (x : Int) (z : Int) = (q : Int) := by rw [hq]; exact u64_or_nat x z (by omega) (by omega)
      have hql : q < 1099511627776 := by rw [hq]; exact Nat.or_lt_two_pow (n := 40) hxl hzl
      have hwz : IntKind.u64.wrap (z : Int) = (z : Int) := by rw [IntKind.wrap_u64]; omega
      clear hx hz hq
      go_wp2_with fail
      refine (fits_any wr q p c (by omega) hp).mono ?_
      rintro e w' ⟨rfl, hb⟩
      have hb' : Below w.heap.size w w' := hbl.trans (hb.mono hbl.size)
      by_cases hf : fitsL q p c = true
      · rw [hf]
        rw [if_pos hf] at hst
        have HST : Hid (rootL p c (40 - k) = q) := hst
        clear hst
        go_wp2
        go_roundw
        case rel => exact ⟨k, q, by omega, by go_num, rfl, hql, HST.out, hb'⟩
        case measure => simp [intOf] <;> omega
      · rw [if_neg hf] at hst
        have hf' : fitsL q p c = false := by simpa using hf
        rw [hf']
        have HST : Hid (rootL p c (40 - k) = x) := hst
        clear hst
        go_wp2
        go_roundw
        case rel => exact ⟨k, x, by omega, by go_num, rfl, hxl, HST.out, hb'⟩
        case measure => simp [intOf] <;> omega
    · obtain rfl : m = 0 := by omega
      have HX : Hid (rootL p c 40 = x) := hx
      clear hx
      go_wp2
      go_ret
      exact ⟨by rw [HX.out]; rfl, hbl⟩
end Go.Proofs.YtonfjldfalnalaaDoor
