/-
  The contracts of the document's Of, Head, Whole, Fix and Good of layer 5.

  What package crc must say, as propositions.

  The contracts of up, fits, asBytes and bytes.Equal.
-/
import Derived.Test.YtjmbioedpghopaaGround
import Derived.Test.YtjmbioedpghopaaPure
namespace Go.Proofs.Ytjmbioedpghopaa
open Go.ChangeShapes Go.WideShapes Go.ChangeAt Go.RowKit

theorem and_one (n : Nat) (h : n < 18446744073709551616) : bits .and .u64 (n : Int) 1 = ((n % 2 : Nat) : Int) := by
  have := u64_and_nat n 1 h (by omega)
  rw [Nat.and_one_is_mod] at this
  exact this
theorem and_mask (n W : Nat) (hW : W ≤ 32) (h : n < 18446744073709551616) : bits .and .u64 (n : Int) (((2 ^ W - 1 : Nat)) : Int) = ((n % 2 ^ W : Nat) : Int) := by
  have h2 : 2 ^ W ≤ 2 ^ 32 := Nat.pow_le_pow_right (by omega) hW
  have := u64_and_nat n (2 ^ W - 1) h (by omega)
  rw [Nat.and_two_pow_sub_one_eq_mod] at this
  exact this
theorem bit_mod (n j : Nat) : n / 2 ^ j % 2 = (n.testBit j).toNat := by
  rw [Nat.testBit_eq_decide_div_mod_eq]
  rcases Nat.mod_two_eq_zero_or_one (n / 2 ^ j) with h | h <;> simp [h]
theorem xor_bools (a b : Bool) : bits .xor .u64 (a.toNat : Int) (b.toNat : Int) = ((if (a != b) then 1 else 0 : Nat) : Int) := by
  rw [u64_xor_nat _ _ (by cases a <;> decide) (by cases b <;> decide)]
  cases a <;> cases b <;> rfl

theorem runS_take (W P s : Nat) (l : List Bool) (k : Nat) (b : Bool) (h : l[k]? = some b) : runS W P s (l.take (k + 1)) = stepS W P (runS W P s (l.take k)) b := by
  rw [List.take_add_one, h, runS_app]; rfl

set_option maxHeartbeats 3200000 in
set_option maxRecDepth 20000 in
theorem rcrc_ok (w : World) (a : Option Addr) (ca : Nat) (l : List UInt8) (W P s0 : Nat) (ha : Sees w a ca l) (hll : l.length ≤ 140737488355328) (hW8 : 8 ≤ W) (hW32 : W ≤ 32) (hP : P < 2 ^ W) (hs : s0 < 2 ^ W) :
    Calls Try.prog 85 #[.slice a l.length ca, .int .i64 (W : Int), .int .u32 (P : Int), .int .u32 (s0 : Int)] w fun e w' => e = .returned (.tuple #[.int .u32 ((crcL W P s0 l : Nat) : Int), .int .i64 0]) ∧ w' = w := by
  have HA : Hid (Sees w a ca l) := ha
  have h32 : 2 ^ W ≤ 4294967296 := by have := Nat.pow_le_pow_right (n := 2) (i := W) (j := 32) (by omega) hW32; omega
  have d1 : decide ((W : Int) < 8) = false := by simp; omega
  have d2 : decide ((32 : Int) < (W : Int)) = false := by simp; omega
  have d3 : (P : Int) / 2 ^ W = 0 := by
    have : ((P / 2 ^ W : Nat) : Int) = 0 := by rw [Nat.div_eq_of_lt hP]; rfl
    simpa using this
  have d4 : (s0 : Int) / 2 ^ W = 0 := by
    have : ((s0 / 2 ^ W : Nat) : Int) = 0 := by rw [Nat.div_eq_of_lt hs]; rfl
    simpa using this
  have ew : IntKind.i64.wrap ((W : Int) - 1) = ((W - 1 : Nat) : Int) := by rw [IntKind.wrap_i64]; omega
  have ew2 : (W : Int) - 1 = ((W - 1 : Nat) : Int) := by omega
  have g0 : (0 : Int) ≤ (W : Int) := Int.natCast_nonneg _
  have HP : Hid (P < 2 ^ W) := hP
  have HS0 : Hid (s0 < 2 ^ W) := hs
  have H32 : Hid (2 ^ W ≤ 4294967296) := h32
  have hP32 : P < 4294967296 := by omega
  have hs32 : s0 < 4294967296 := by omega
  obtain ⟨F, hF⟩ : ∃ F, F = crcL W P s0 l := ⟨_, rfl⟩
  rw [← hF]
  have HF : Hid (F = crcL W P s0 l) := hF
  clear ha hP hs hF h32
  go_enter Try.func85, Try.ntmps85
  go_wp2
  go_loop [10, 11, 12, 13] (fun s i _ _ => ∃ k sv : Nat, k ≤ 8 * l.length ∧ i = .int .i64 k ∧ s = .int .u64 (sv : Int) ∧ sv < 2 ^ W ∧ sv = runS W P s0 ((bitsOf l).take k)) (fun _ i _ _ => 8 * l.length - (intOf i).toNat)
  case atStart => exact ⟨0, s0, by omega, rfl, rfl, HS0.out, rfl⟩
  case round =>
    obtain ⟨k, sv, hk, rfl, rfl, hsv, hrun⟩ := hrel
    have e8 : IntKind.i64.wrap (8 * (l.length : Int)) = ((8 * l.length : Nat) : Int) := by rw [IntKind.wrap_i64]; omega
    have h32 := H32.out
    have hsv32 : sv < 4294967296 := by omega
    by_cases hlt : k < 8 * l.length
    · obtain ⟨q, hq⟩ : ∃ q, q = k / 8 := ⟨_, rfl⟩
      obtain ⟨r, hr⟩ : ∃ r, r = k % 8 := ⟨_, rfl⟩
      obtain ⟨j, hj⟩ : ∃ j, j = 7 - r := ⟨_, rfl⟩
      have hql : q < l.length := by omega
      obtain ⟨x, hx⟩ : ∃ x, l[q]? = some x := ⟨l[q], by simp [hql]⟩
      have hbit := bits_at l k x (by rw [← hq]; exact hx)
      rw [← hr, ← hj] at hbit
      have hst := runS_take W P s0 (bitsOf l) k _ hbit
      rw [← hrun] at hst
      obtain ⟨b1, o1, rfl, hcell⟩ := HA.out.get hx
      have q1 : (k : Int) / 8 = (q : Int) := by omega
      have q2 : (k : Int).tdiv 8 = (q : Int) := by rw [Int.tdiv_eq_ediv_of_nonneg (by omega)]; exact q1
      have r1 : (k : Int) % 8 = (r : Int) := by omega
      have r2 : (k : Int).tmod 8 = (r : Int) := by rw [Int.tmod_eq_emod_of_nonneg (by omega)]; exact r1
      have j1 : 7 - (r : Int) = (j : Int) := by omega
      have j2 : IntKind.i64.wrap (7 - (r : Int)) = (j : Int) := by rw [IntKind.wrap_i64]; omega
      have gq0 : (0 : Int) ≤ (q : Int) := Int.natCast_nonneg _
      have gq1 : (q : Int) < (l.length : Int) := by omega
      have gj0 : (0 : Int) ≤ (j : Int) := Int.natCast_nonneg _
      obtain ⟨bt, hbt⟩ : ∃ b, b = x.toNat.testBit j := ⟨_, rfl⟩
      obtain ⟨tb, htb⟩ : ∃ b, b = sv.testBit (W - 1) := ⟨_, rfl⟩
      have hxl := x.toNat_lt
      have ebt : bits .and .u64 ((x.toNat : Int) / 2 ^ j) 1 = (bt.toNat : Int) := by
        have h1 := and_one (x.toNat / 2 ^ j) (Nat.lt_of_le_of_lt (Nat.div_le_self _ _) (by omega))
        rw [bit_mod, ← hbt] at h1
        rw [← h1]; simp
      have wx : IntKind.u64.wrap ((x.toNat : Int) / 2 ^ j) = (x.toNat : Int) / 2 ^ j := by
        have h1 : (x.toNat : Int) / 2 ^ j = ((x.toNat / 2 ^ j : Nat) : Int) := by simp
        have h2 : x.toNat / 2 ^ j ≤ x.toNat := Nat.div_le_self _ _
        rw [h1]
        generalize x.toNat / 2 ^ j = N at h2
        rw [IntKind.wrap_u64]; omega
      have etb : bits .and .u64 ((sv : Int) / 2 ^ (W - 1)) 1 = (tb.toNat : Int) := by
        have h1 := and_one (sv / 2 ^ (W - 1)) (Nat.lt_of_le_of_lt (Nat.div_le_self _ _) (by omega))
        rw [bit_mod, ← htb] at h1
        rw [← h1]; simp
      obtain ⟨bn, hbn⟩ : ∃ n : Nat, n = bt.toNat := ⟨_, rfl⟩
      obtain ⟨un, hun⟩ : ∃ n : Nat, n = tb.toNat := ⟨_, rfl⟩
      rw [← hbn] at ebt
      rw [← hun] at etb
      obtain ⟨tn, htn⟩ : ∃ t : Nat, t = if (tb != bt) then 1 else 0 := ⟨_, rfl⟩
      have etn : bits .xor .u64 (un : Int) (bn : Int) = (tn : Int) := by rw [htn, hun, hbn]; exact xor_bools tb bt
      obtain ⟨u, hu⟩ : ∃ u, u = sv * 2 % 2 ^ W := ⟨_, rfl⟩
      have hul : u < 2 ^ W := by rw [hu]; exact Nat.mod_lt _ (Nat.two_pow_pos W)
      have e2w : (2 : Int) ^ W = ((2 ^ W : Nat) : Int) := by simp
      obtain ⟨M, hM⟩ : ∃ M, M = 2 ^ W := ⟨_, rfl⟩
      have eu : bits .and .u64 ((sv : Int) * 2) ((M : Int) - 1) = (u : Int) := by
        have h1 := and_mask (sv * 2) W hW32 (by omega)
        have h2 : ((2 ^ W - 1 : Nat) : Int) = (M : Int) - 1 := by
          have := Nat.two_pow_pos W
          rw [hM]; omega
        have h3 : ((sv * 2 : Nat) : Int) = (sv : Int) * 2 := by omega
        rw [h2, h3, ← hu] at h1
        exact h1
      have hMp : 0 < M := by rw [hM]; exact Nat.two_pow_pos W
      have hM32 : M ≤ 4294967296 := by rw [hM]; exact h32
      have e2w' : (2 : Int) ^ W = (M : Int) := by rw [e2w, hM]
      have wm : IntKind.u64.wrap (M : Int) = (M : Int) := by rw [IntKind.wrap_u64]; omega
      have wm1 : IntKind.u64.wrap ((M : Int) - 1) = (M : Int) - 1 := by rw [IntKind.wrap_u64]; omega
      have ws : IntKind.u64.wrap ((sv : Int) * 2) = (sv : Int) * 2 := by rw [IntKind.wrap_u64]; omega
      have hst2 : runS W P s0 ((bitsOf l).take (k + 1)) = if tn = 1 then u ^^^ P else u := by
        rw [hst, stepS, ← htb, ← hbt, ← hu, htn]
        cases tb <;> cases bt <;> simp
      have HST : Hid (runS W P s0 ((bitsOf l).take (k + 1)) = if tn = 1 then u ^^^ P else u) := hst2
      have HUL : Hid (u < 2 ^ W) := hul
      have hu32 : u < 4294967296 := by omega
      have ht01 : tn = 0 ∨ tn = 1 := by rw [htn]; split <;> simp
      clear hbn hun
      clear hst hst2 hbit hx hbt htb htn hu hM hul e2w hrun hsv hq hr hj
      rcases ht01 with rfl | rfl
      · rw [if_neg (by omega)] at HST
        have etn0 : bits .xor .u64 (un : Int) (bn : Int) = 0 := etn
        clear etn
        go_wp2
        go_round
        case rel => exact ⟨k + 1, u, by omega, by go_num, rfl, HUL.out, HST.out.symm⟩
        case measure => simp [intOf]; omega
      · rw [if_pos rfl] at HST
        have etn1 : bits .xor .u64 (un : Int) (bn : Int) = 1 := etn
        clear etn
        obtain ⟨v, hv⟩ : ∃ v, v = u ^^^ P := ⟨_, rfl⟩
        have ev : bits .xor .u64 (u : Int) (P : Int) = (v : Int) := by rw [hv]; exact u64_xor_nat u P (by omega) (by omega)
        have HV : Hid (v < 2 ^ W) := by rw [hv]; exact Nat.xor_lt_two_pow HUL.out HP.out
        rw [← hv] at HST
        clear hv
        go_wp2
        go_round
        case rel => exact ⟨k + 1, v, by omega, by go_num, rfl, HV.out, HST.out.symm⟩
        case measure => simp [intOf]; omega
    · obtain rfl : k = 8 * l.length := by omega
      have hFe : F = sv := by
        rw [HF.out, hrun]
        have := bitsOf_length l
        rw [← this, List.take_length]; rfl
      have HFE : Hid (F = sv) := hFe
      clear hrun hFe
      go_wp2
      go_ret2
      exact ⟨by rw [HFE.out]; rfl, rfl⟩

set_option maxHeartbeats 400000 in
set_option maxRecDepth 20000 in
theorem rwhole_any (w : World) (a : Option Addr) (ca : Nat) (l : List UInt8) (ha : Sees w a ca l) (hll : l.length ≤ 140737488355328) : Calls Try.prog 80 #[.slice a l.length ca] w fun e w' => e = .returned (.int .u32 ((wholeL l : Nat) : Int)) ∧ w' = w := by
  have h := rcrc_ok w a ca l 24 0x5D6DCB 0xFEDCBA ha hll (by omega) (by omega) (by decide) (by decide)
  obtain ⟨F, hF⟩ : ∃ F, F = wholeL l := ⟨_, rfl⟩
  rw [← hF]
  have hF2 : crcL 24 0x5D6DCB 0xFEDCBA l = F := hF.symm
  rw [hF2] at h
  clear ha hF hF2
  go_enter Try.func80, Try.ntmps80
  go_wp2_with fail
  refine h.mono ?_
  rintro e w1 ⟨rfl, rfl⟩
  go_wp2
  go_ret
  exact ⟨rfl, rfl⟩

theorem sum3_cells (s : Nat) (h : s < 16777216) : (sum3 s).map cellOf = [.int .u8 ((s : Int) / 65536), .int .u8 ((s : Int) / 256 % 256), .int .u8 ((s : Int) % 256)] := by
  have h1 : (s : Int) / 65536 = ((s / 65536 % 256 : Nat) : Int) := by omega
  simp only [sum3, List.map_cons, List.map_nil, cellOf, UInt8.toNat_ofNat', h1]
  simp

set_option maxHeartbeats 800000 in
set_option maxRecDepth 20000 in
theorem rfix_any (w : World) (a : Option Addr) (ca : Nat) (l : List UInt8) (ha : Sees w a ca l) (hll : l.length ≤ 140737488355000) : Calls Try.prog 69 #[.slice a l.length ca] w fun e w' => ∃ d cd r, Hid (r = fixL l) ∧ e = .returned (.slice d r.length cd) ∧ Sees w' d cd r ∧ Below w.heap.size w w' ∧ w'.ownsRow w.heap.size 5 1 (.slice d r.length cd) r.length (r.map cellOf) := by
  have hwh := rwhole_any w a ca l ha (by omega)
  obtain ⟨s, hs⟩ : ∃ s, s = wholeL l := ⟨_, rfl⟩
  rw [← hs] at hwh
  have hs24 : s < 16777216 := by rw [hs]; exact wholeL_lt l
  have hb0 : Below w.heap.size w (w.alloc (.cells #[] 5)) := (Below.refl _ _).alloc (Nat.le_refl _) _
  obtain ⟨v1, w1, hrun1, ho1, hk1⟩ := append_own_any _ w.heap.size _ [] (own_empty w) a ca l (ha.below hb0) (by simp; omega) (by simp)
  rw [List.nil_append] at ho1
  have hb1 : Below w.heap.size w w1 := hk1 _ _ hb0 (Nat.le_refl _)
  have hsx := sees_lit w1 (sum3 s) 5 (0, 0) (by simp [sum3])
  rw [sum3_cells s hs24] at hsx
  have hsl : (sum3 s).length = 3 := rfl
  rw [hsl] at hsx
  obtain ⟨v2, w2, hrun2, ho2, hk2⟩ := append_own_any (w1.alloc (.cells #[.int .u8 ((s : Int) / 65536), .int .u8 ((s : Int) / 256 % 256), .int .u8 ((s : Int) % 256)] 5)) w.heap.size v1 l (ho1.alloc _) _ 3 (sum3 s) hsx (by rw [hsl]; omega) (by have := hb1.size; simp; omega)
  rw [hsl] at hrun2
  have hb2 : Below w.heap.size w w2 := hk2 _ _ (hb1.alloc hb1.size _) (Nat.le_refl _)
  obtain ⟨r, hr⟩ : ∃ r, r = l ++ sum3 s := ⟨_, rfl⟩
  rw [← hr] at ho2
  have hr2 : r = fixL l := by rw [hr, hs]; rfl
  have HR : Hid (r = fixL l) := hr2
  obtain ⟨d, cd, rfl, hs2⟩ := Sees.of_own ho2
  have R1 : Hid ((Builtin.append_ #[22, 22] 22 #[.slice (some ⟨w.heap.size, 0, none⟩) 0 0, .slice a l.length ca]).run Try.prog (w.alloc (.cells #[] 5)) = .ok v1 w1) := hrun1
  have R2 : Hid ((Builtin.append_ #[22, 22] 22 #[v1, .slice (some ⟨w1.heap.size, 0, none⟩) 3 3]).run Try.prog (w1.alloc (.cells #[.int .u8 ((s : Int) / 65536), .int .u8 ((s : Int) / 256 % 256), .int .u8 ((s : Int) % 256)] 5)) = .ok (.slice d r.length cd) w2) := hrun2
  clear hrun1 hrun2 ho1 hk1 hk2 hsx hr hr2 hs hsl ha hb0
  go_enter Try.func69, Try.ntmps69
  go_wp2_with fail
  refine hwh.mono ?_
  rintro e wq ⟨rfl, hwq⟩
  rw [hwq]
  clear hwq wq hwh
  go_wp2_with (at_builtin; first | refine wpList_append_run rfl _ _ 22 rfl _ _ _ rfl rfl R1.out ?_ | refine wpList_append_run rfl _ _ 22 rfl _ _ _ rfl rfl R2.out ?_)
  go_ret
  exact ⟨d, cd, r, HR, rfl, hs2, hb2, ho2⟩

theorem goodL_short (l : List UInt8) (h : l.length < 3) : goodL l = false := by unfold goodL; simp; omega

set_option maxHeartbeats 1600000 in
set_option maxRecDepth 20000 in
theorem rgood_any (w : World) (a : Option Addr) (ca : Nat) (l : List UInt8) (ha : Sees w a ca l) (hll : l.length ≤ 140737488355000) : Calls Try.prog 64 #[.slice a l.length ca] w fun e w' => e = .returned (.bool (goodL l)) ∧ Below w.heap.size w w' := by
  by_cases h3 : l.length < 3
  · rw [goodL_short l h3]
    have d1 : decide ((3 : Int) ≤ (l.length : Int)) = false := by simp; omega
    clear ha
    go_enter Try.func64, Try.ntmps64
    go_wp2
    go_region
    go_wp2
    go_ret
    exact ⟨rfl, (Below.refl _ _).drew⟩
  · obtain ⟨m, hm⟩ : ∃ m, m = l.length - 3 := ⟨_, rfl⟩
    have hml : l.length = m + 3 := by omega
    obtain ⟨t, ht⟩ : ∃ t, t = l.take m := ⟨_, rfl⟩
    have htl : t.length = m := by rw [ht, List.length_take]; omega
    obtain ⟨F, hF⟩ : ∃ F, F = goodL l := ⟨_, rfl⟩
    have hFe : F = decide (fixL t = l) := by
      rw [hF]; unfold goodL; rw [← hm, ← ht]; simp; omega
    rw [← hF]
    have HF : Hid (F = decide (fixL t = l)) := hFe
    have hfit := ha.fits
    obtain ⟨ab, ao, rfl, _⟩ := ha.at' (by intro h; rw [h] at hml; simp at hml)
    have hst : Sees w (some ⟨ab, ao, none⟩) ca t := by rw [ht]; exact ha.take m
    have H16 : Hid (∀ W, Below w.heap.size w W → Calls Try.prog 69 #[.slice (some ⟨ab, ao, none⟩) m ca] W fun e w' => ∃ d cd r, Hid ((r == l) = F) ∧ e = .returned (.slice d r.length cd) ∧ Sees w' d cd r ∧ Below w.heap.size w w') := fun W hW => by
      have h1 := rfix_any W (some ⟨ab, ao, none⟩) ca t (hst.below hW) (by omega)
      rw [htl] at h1
      refine h1.mono ?_
      rintro e w' ⟨d, cd, r, hr, he, hs, hb, _⟩
      refine ⟨d, cd, r, ?_, he, hs, hW.trans (hb.mono hW.size)⟩
      have h2 : (r == l) = F := by rw [hFe, hr.out]; by_cases h : fixL t = l <;> simp [h]
      exact h2
    have HKeep : Hid (∀ w', Below w.heap.size w w' → (Go.convert 22 9 (.slice (some ⟨ab, ao, none⟩) (m + 3) ca)).run Try.prog w' = .ok (.string ⟨l.toArray⟩) w') := fun w' hw' => by
      have := (ha.below hw').convert (P := Try.prog) 22 5 9 Try.underlying22 Try.underlying5 Try.underlying9
      rw [hml] at this
      exact this
    have e0 := HKeep.out w (Below.refl _ _)
    have g1 : IntKind.i64.wrap ((m : Int) + 3 - 3) = (m : Int) := by rw [IntKind.wrap_i64]; omega
    have g1' : IntKind.i64.wrap (m : Int) = (m : Int) := by rw [IntKind.wrap_i64]; omega
    have g3 : (0 : Int) ≤ (m : Int) := Int.natCast_nonneg _
    have g4 : (m : Int) ≤ (ca : Int) := by omega
    have d1 : (3 : Int) ≤ (m : Int) + 3 := by omega
    rw [hml]
    have hm9 : m ≤ 140737488355000 := by omega
    clear ha hst hF hFe hm ht htl hml h3 hll
    go_enter Try.func64, Try.ntmps64
    go_wp2
    refine wp_region_noPanic ?_
    go_region_held (fun w' => (Go.convert 22 9 (.slice (some ⟨ab, ao, none⟩) (m + 3) ca)).run Try.prog w' = .ok (.string ⟨l.toArray⟩) w')
      (first | go_keep | (refine HKeep.out _ ?_; (first | with_reducible exact hb16 | exact (Below.refl _ _).drew)))
      (first | (go_at_call 69; refine (H16.out _ ?_).mono ?_; (focus (first | with_reducible exact (Below.refl _ _).drew | exact Below.refl _ _)); rintro e w16 ⟨d, cd, r, hr, rfl, hs16, hb16⟩; (have e16 := hs16.convert (P := Try.prog) 22 5 9 Try.underlying22 Try.underlying5 Try.underlying9)))
    refine NoPanic.normal ?_
    go_wp2
    go_ret
    exact ⟨by rw [← hr.out]; rfl, hb16⟩
end Go.Proofs.Ytjmbioedpghopaa

namespace Go.Proofs.Ytjmbioedpghopaa
open Go.ChangeShapes Go.WideShapes Go.ChangeAt Go.RowKit

/-- The bytes of a call's own that it answers. -/
def Gives (w w' : World) (e : Ending) (p : List UInt8 → Prop) : Prop := ∃ d cd r, Hid (p r) ∧ e = .returned (.slice d r.length cd) ∧ Sees w' d cd r ∧ Below w.heap.size w w' ∧ w'.ownsRow w.heap.size 5 1 (.slice d r.length cd) r.length (r.map cellOf)
def CwholeOk : Prop := ∀ (w : World) (a : Option Addr) (ca : Nat) (l : List UInt8), Sees w a ca l → l.length ≤ 140737488355000 → Calls Try.prog 84 #[.slice a l.length ca] w fun e w' => e = .returned (.int .u32 ((wholeL l : Nat) : Int)) ∧ Below w.heap.size w w'
def CfixOk : Prop := ∀ (w : World) (a : Option Addr) (ca : Nat) (l : List UInt8), Sees w a ca l → l.length ≤ 140737488355000 → Calls Try.prog 79 #[.slice a l.length ca] w fun e w' => Gives w w' e (fun r => r = fixL l)
def CgoodOk : Prop := ∀ (w : World) (a : Option Addr) (ca : Nat) (l : List UInt8), Sees w a ca l → l.length ≤ 140737488355000 → Calls Try.prog 81 #[.slice a l.length ca] w fun e w' => e = .returned (.bool (goodL l)) ∧ Below w.heap.size w w'
end Go.Proofs.Ytjmbioedpghopaa

namespace Go.Proofs.Ytjmbioedpghopaa
open Go.ChangeShapes Go.WideShapes Go.ChangeAt Go.RowKit

theorem top_div (W x : Nat) (hW : 1 ≤ W) (hx : x < 2 ^ W) : x / 2 ^ (W - 1) = (x.testBit (W - 1)).toNat := by
  rw [← bit_mod]
  have h : 2 ^ W = 2 ^ (W - 1) * 2 := by rw [← Nat.pow_succ]; congr 1; omega
  have : x / 2 ^ (W - 1) < 2 := by rw [Nat.div_lt_iff_lt_mul (Nat.two_pow_pos _)]; omega
  exact (Nat.mod_eq_of_lt this).symm
theorem and_mask32 (n W : Nat) (hW : W ≤ 32) (h : n < 4294967296) : bits .and .u32 (n : Int) (((2 ^ W - 1 : Nat)) : Int) = ((n % 2 ^ W : Nat) : Int) := by
  have h2 : 2 ^ W ≤ 2 ^ 32 := Nat.pow_le_pow_right (by omega) hW
  have := u32_and_nat n (2 ^ W - 1) h (by omega)
  rw [Nat.and_two_pow_sub_one_eq_mod] at this
  exact this

set_option maxHeartbeats 800000 in
set_option maxRecDepth 20000 in
theorem up32_ok (w : World) (W x : Nat) (hW1 : 1 ≤ W) (hW32 : W ≤ 32) (hx : x < 2 ^ W) :
    Calls Try.prog 89 #[.int .u32 (x : Int), .int .i64 (W : Int)] w fun e w' => e = .returned (.tuple #[.int .u32 (((x.testBit (W - 1)).toNat : Nat) : Int), .int .u32 ((x * 2 % 2 ^ W : Nat) : Int)]) ∧ w' = w := by
  have h32 : 2 ^ W ≤ 4294967296 := by have := Nat.pow_le_pow_right (n := 2) (i := W) (j := 32) (by omega) hW32; omega
  have g0 : (0 : Int) ≤ (W : Int) := Int.natCast_nonneg _
  have ew2 : (W : Int) - 1 = ((W - 1 : Nat) : Int) := by omega
  have ew : IntKind.i64.wrap ((W : Int) - 1) = ((W - 1 : Nat) : Int) := by rw [IntKind.wrap_i64]; omega
  obtain ⟨V, hV⟩ : ∃ V, V = W - 1 := ⟨_, rfl⟩
  obtain ⟨t, ht⟩ : ∃ t, t = (x.testBit (W - 1)).toNat := ⟨_, rfl⟩
  have et : (x : Int) / 2 ^ V = (t : Int) := by
    have := top_div W x hW1 hx
    rw [← ht, ← hV] at this
    rw [← this]; simp
  obtain ⟨u, hu⟩ : ∃ u, u = x * 2 % 2 ^ W := ⟨_, rfl⟩
  obtain ⟨M, hM⟩ : ∃ M, M = 2 ^ W := ⟨_, rfl⟩
  have hMp : 0 < M := by rw [hM]; exact Nat.two_pow_pos W
  have e2w : (2 : Int) ^ W = (M : Int) := by rw [hM]; simp
  have wm : IntKind.u32.wrap (IntKind.u32.wrap (M : Int) - 1) = (M : Int) - 1 := by rw [IntKind.wrap_u32, IntKind.wrap_u32]; omega
  rw [← ht, ← hu]
  rw [← hV] at ew ew2
  have eu : bits .and .u32 ((x : Int) * 2 % 4294967296) (((M : Int) - 1) % 4294967296) = (u : Int) := by
    have h1 := and_mask32 (x * 2 % 4294967296) W hW32 (by omega)
    have h2 : ((2 ^ W - 1 : Nat) : Int) = (M : Int) - 1 := by rw [← hM]; omega
    have h3 : (x : Int) * 2 % 4294967296 = ((x * 2 % 4294967296 : Nat) : Int) := by omega
    have h5 : ((M : Int) - 1) % 4294967296 = (M : Int) - 1 := by omega
    have h4 : x * 2 % 4294967296 % 2 ^ W = x * 2 % 2 ^ W := Nat.mod_mod_of_dvd _ (Nat.pow_dvd_pow 2 hW32)
    rw [h2, h4, ← hu] at h1
    rw [h3, h5]; exact h1
  have HX : Hid (x < 2 ^ W) := hx
  have H32 : Hid (2 ^ W ≤ 4294967296) := h32
  clear ht hV hu hM hx h32
  go_enter Try.func89, Try.ntmps89
  go_wp2
  go_ret2
  exact ⟨rfl, rfl⟩

set_option maxHeartbeats 800000 in
set_option maxRecDepth 20000 in
theorem up8_ok (w : World) (x : Nat) (hx : x < 256) :
    Calls Try.prog 91 #[.int .u8 (x : Int), .int .i64 8] w fun e w' => e = .returned (.tuple #[.int .u32 (((x.testBit 7).toNat : Nat) : Int), .int .u8 ((x * 2 % 256 : Nat) : Int)]) ∧ w' = w := by
  obtain ⟨t, ht⟩ : ∃ t, t = (x.testBit 7).toNat := ⟨_, rfl⟩
  have et : (x : Int) / 128 = (t : Int) := by
    have := top_div 8 x (by omega) hx
    rw [← ht] at this
    rw [← this]; simp
  obtain ⟨u, hu⟩ : ∃ u, u = x * 2 % 256 := ⟨_, rfl⟩
  have eu : bits .and .u8 ((x : Int) * 2 % 256) 255 = (u : Int) := by
    have hul : u < 256 := by omega
    have h1 := u8_and_nat u 255 (by omega) (by omega)
    have h2 : u &&& 255 = u := (Nat.and_two_pow_sub_one_eq_mod u 8).trans (Nat.mod_eq_of_lt hul)
    rw [h2] at h1
    have h3 : (x : Int) * 2 % 256 = (u : Int) := by omega
    rw [h3]; exact h1
  have t2 : t < 2 := by rw [ht]; cases x.testBit 7 <;> decide
  rw [← ht, ← hu]
  clear ht hu
  go_enter Try.func91, Try.ntmps91
  go_wp2
  go_ret2
  exact ⟨by first | rfl | (rw [eu]; rfl), rfl⟩

set_option maxHeartbeats 400000 in
set_option maxRecDepth 20000 in
theorem asbytes_ok (w : World) (s : Nat) (hs : s < 16777216) :
    Calls Try.prog 83 #[.int .u32 (s : Int)] w fun e w' => ∃ d cd, e = .returned (.slice d 3 cd) ∧ Sees w' d cd (sum3 s) ∧ Below w.heap.size w w' := by
  have hsx := sees_lit w (sum3 s) 5 (0, 0) (by simp [sum3])
  rw [sum3_cells s hs] at hsx
  have HS : Hid (Sees (w.alloc (.cells #[.int .u8 ((s : Int) / 65536), .int .u8 ((s : Int) / 256 % 256), .int .u8 ((s : Int) % 256)] 5)) (some ⟨w.heap.size, 0, none⟩) 3 (sum3 s)) := hsx
  clear hsx
  go_enter Try.func83, Try.ntmps83
  go_wp2
  go_ret
  exact ⟨_, _, rfl, HS.out, (Below.refl _ _).alloc (Nat.le_refl _) _⟩

set_option maxHeartbeats 400000 in
set_option maxRecDepth 20000 in
theorem equal_ok (w : World) (a b : Option Addr) (ca cb : Nat) (l m : List UInt8) (ha : Sees w a ca l) (hb : Sees w b cb m) :
    Calls Try.prog 86 #[.slice a l.length ca, .slice b m.length cb] w fun e w' => e = .returned (.bool (l == m)) ∧ w' = w := by
  have e1 := ha.convert (P := Try.prog) 22 5 9 Try.underlying22 Try.underlying5 Try.underlying9
  have e2 := hb.convert (P := Try.prog) 22 5 9 Try.underlying22 Try.underlying5 Try.underlying9
  clear ha hb
  go_enter Try.func86, Try.ntmps86
  go_wp2
  go_ret
  exact ⟨by first | rfl | simp, rfl⟩
end Go.Proofs.Ytjmbioedpghopaa
