/-
  The contract of the document's Burst.
-/
import Derived.Test.YtkmeccimldpllaaCrcRef
namespace Go.Proofs.Ytkmeccimldpllaa
open Go.ChangeShapes Go.WideShapes Go.ChangeAt Go.RowKit

theorem set_bit (l : List UInt8) (q : Nat) (x : UInt8) (hx : l[q / 8]? = some x) : bitsOf (l.set (q / 8) (x ||| UInt8.ofNat (2 ^ (7 - q % 8)))) = (bitsOf l).set q true := by
  have hq : q / 8 < l.length := (List.getElem?_eq_some_iff.1 hx).1
  apply List.ext_getElem?
  intro i
  have hp : (UInt8.ofNat (2 ^ (7 - q % 8))).toNat = 2 ^ (7 - q % 8) := by
    rw [UInt8.toNat_ofNat']
    exact Nat.mod_eq_of_lt (Nat.pow_lt_pow_right (a := 2) (n := 8) (by omega) (by omega))
  by_cases hi : i < 8 * l.length
  · by_cases hib : i / 8 = q / 8
    · rw [bits_at _ i (x ||| UInt8.ofNat (2 ^ (7 - q % 8))) (by rw [hib, List.getElem?_set_self hq]), UInt8.toNat_or, hp, Nat.testBit_or, Nat.testBit_two_pow]
      by_cases hiq : i = q
      · subst hiq
        rw [List.getElem?_set_self (by rw [bitsOf_length]; exact hi)]
        simp
      · rw [List.getElem?_set_ne (Ne.symm hiq), bits_at l i x (by rw [hib]; exact hx)]
        have : ¬ (7 - q % 8 = 7 - i % 8) := by omega
        simp [this]
    · obtain ⟨y, hy⟩ : ∃ y, l[i / 8]? = some y := ⟨l[i / 8]'(by omega), by simp [show i / 8 < l.length by omega]⟩
      rw [bits_at _ i y (by rw [List.getElem?_set_ne (Ne.symm hib)]; exact hy), List.getElem?_set_ne (by rintro rfl; exact hib rfl), bits_at l i y hy]
  · rw [List.getElem?_eq_none (by rw [bitsOf_length, List.length_set]; omega), List.getElem?_eq_none (by rw [List.length_set, bitsOf_length]; omega)]

/-- The burst behind j of its 32 bits. -/
def burstI (n k bits j : Nat) : List Bool := (List.range (8 * n)).map fun i => decide (k ≤ i ∧ i < k + j) && bits.testBit (31 - (i - k))
theorem burstI_length (n k bits j : Nat) : (burstI n k bits j).length = 8 * n := by simp [burstI]
theorem burstI_at (n k bits j i : Nat) (h : i < 8 * n) : (burstI n k bits j)[i]? = some (decide (k ≤ i ∧ i < k + j) && bits.testBit (31 - (i - k))) := by simp [burstI, h]
theorem burstI_zero (n k bits : Nat) : burstI n k bits 0 = List.replicate (8 * n) false := by
  apply List.ext_getElem?
  intro i
  by_cases h : i < 8 * n
  · rw [burstI_at _ _ _ _ _ h, List.getElem?_replicate, if_pos h]
    have h1 : ¬ (k ≤ i ∧ i < k + 0) := by omega
    rw [decide_eq_false h1]; rfl
  · rw [List.getElem?_eq_none (by rw [burstI_length]; omega), List.getElem?_eq_none (by simp; omega)]
theorem burstI_set (n k bits j : Nat) (hj : j < 32) (_hk : k + j < 8 * n) (hb : bits.testBit (31 - j) = true) : burstI n k bits (j + 1) = (burstI n k bits j).set (k + j) true := by
  apply List.ext_getElem?
  intro i
  by_cases h : i < 8 * n
  · rw [burstI_at _ _ _ _ _ h]
    by_cases hi : i = k + j
    · subst hi
      rw [List.getElem?_set_self (by rw [burstI_length]; exact h), show k + j - k = j from by omega, hb]
      simp
    · rw [List.getElem?_set_ne (Ne.symm hi), burstI_at _ _ _ _ _ h]
      have : (k ≤ i ∧ i < k + (j + 1)) ↔ (k ≤ i ∧ i < k + j) := by omega
      simp only [this]
  · rw [List.getElem?_eq_none (by rw [burstI_length]; omega), List.getElem?_eq_none (by rw [List.length_set, burstI_length]; omega)]
theorem burstI_skip (n k bits j : Nat) (h0 : ¬ (k + j < 8 * n ∧ bits.testBit (31 - j) = true)) : burstI n k bits (j + 1) = burstI n k bits j := by
  apply List.ext_getElem?
  intro i
  by_cases h : i < 8 * n
  · rw [burstI_at _ _ _ _ _ h, burstI_at _ _ _ _ _ h]
    by_cases hi : i = k + j
    · subst hi
      rw [show k + j - k = j from by omega]
      have : bits.testBit (31 - j) = false := by
        cases hb : bits.testBit (31 - j)
        · rfl
        · exact absurd ⟨h, hb⟩ h0
      simp [this]
    · have : (k ≤ i ∧ i < k + (j + 1)) ↔ (k ≤ i ∧ i < k + j) := by omega
      simp only [this]
  · rw [List.getElem?_eq_none (by rw [burstI_length]; omega), List.getElem?_eq_none (by rw [burstI_length]; omega)]

/-- The bits that Burst answers. -/
def burstZ (n : Nat) (at' : Int) (bits : Nat) : List Bool := if at' < 0 then List.replicate (8 * n) false else burstI n at'.toNat bits 32

theorem bits_noughts (n : Nat) : bitsOf (List.replicate n 0) = List.replicate (8 * n) false := by
  apply List.eq_replicate_iff.2
  refine ⟨by rw [bitsOf_length, List.length_replicate], fun b hb => ?_⟩
  obtain ⟨q, hq⟩ := List.getElem?_of_mem hb
  have hql := (List.getElem?_eq_some_iff.1 hq).1
  rw [bitsOf_length, List.length_replicate] at hql
  rw [bits_at _ q 0 (by rw [List.getElem?_replicate, if_pos (by omega)])] at hq
  simp at hq
  exact hq

theorem and_one32 (n : Nat) (h : n < 4294967296) : bits .and .u32 (n : Int) 1 = ((n % 2 : Nat) : Int) := by
  have := u32_and_nat n 1 h (by omega)
  rw [Nat.and_one_is_mod] at this
  exact this
theorem set_cellU (l : List UInt8) (i : Nat) (x : UInt8) : (l.map cellOf).set i (.int .u8 (x.toNat : Int)) = (l.set i x).map cellOf := by rw [List.map_set]; rfl

set_option maxHeartbeats 3200000 in
set_option maxRecDepth 20000 in
theorem rburst_at (w : World) (n k B : Nat) (hn : n ≤ 4096) (hB : B < 4294967296) :
    Calls Try.prog 20 #[.int .i64 (n : Int), .int .i64 (k : Int), .int .u32 (B : Int)] w fun e w' => ∃ g r, Hid (bitsOf r = burstI n k B 32) ∧ r.length = n ∧ e = .returned (.slice (some ⟨g, 0, none⟩) n n) ∧ w'.ownsRow w.heap.size 5 1 (.slice (some ⟨g, 0, none⟩) n n) n (r.map cellOf) ∧ Below w.heap.size w w' := by
  obtain ⟨i5, hi, hz0, hz1, hz2⟩ := info_parts Try.info5
  have d1 : decide ((n : Int) < 0) = false := by simp
  have d2 : decide ((4096 : Int) < (n : Int)) = false := by simp; omega
  go_enter Try.func20, Try.ntmps20
  go_wp2_with (at_make; refine wpList_make_full _ rfl _ _ 22 rfl w.heap.size 5 i5 (.int .u8 0) 1 Try.underlying22 hi hz0 hz1 .i64 .i64 _ _ n rfl rfl rfl rfl ?b2 ?b3 ?b4 ?_)
  case b2 => rw [hz2]; omega
  case b3 => unfold maxLen; omega
  case b4 => exact Nat.le_refl _
  intro w1 hown hgrow
  have hbel : Below w.heap.size w w1 := (Below.refl _ _).grown hgrow (Nat.le_refl _) (by intro k h; cases h)
  have ho0 : w1.ownsRow w.heap.size 5 1 (.slice (some ⟨w.heap.size, 0, none⟩) n n) n ((List.replicate n (0 : UInt8)).map cellOf) := by rw [← made_bytes]; simpa using hown
  clear hgrow hown
  go_wp2
  go_loopw [8, 9] (fun i _ wr => ∃ (j : Nat) (cur : List UInt8), j ≤ 32 ∧ i = .int .i64 j ∧ Hid (bitsOf cur = burstI n k B j) ∧ cur.length = n ∧ wr.ownsRow w.heap.size 5 1 (.slice (some ⟨w.heap.size, 0, none⟩) n n) n (cur.map cellOf) ∧ Below w.heap.size w wr) (fun i _ _ => 32 - (intOf i).toNat)
  case atStart => exact ⟨0, List.replicate n 0, by omega, rfl, by rw [bits_noughts, burstI_zero]; exact rfl, by simp, ho0, hbel⟩
  case round =>
    obtain ⟨j, cur, hj, rfl, hcur, hcl, ho, hbl⟩ := hrel
    clear ho0 hbel
    by_cases hlt : j < 32
    · have t0 : decide ((0 : Int) ≤ (k : Int)) = true := by simp
      have e8 : IntKind.i64.wrap (8 * (n : Int)) = 8 * (n : Int) := by rw [IntKind.wrap_i64]; omega
      have e8j : IntKind.i64.wrap (8 * (n : Int) - (j : Int)) = 8 * (n : Int) - (j : Int) := by rw [IntKind.wrap_i64]; omega
      obtain ⟨q31, hq31⟩ : ∃ q, q = 31 - j := ⟨_, rfl⟩
      have e31 : 31 - (j : Int) = (q31 : Int) := by omega
      have e31w : IntKind.i64.wrap (31 - (j : Int)) = (q31 : Int) := by rw [IntKind.wrap_i64]; omega
      obtain ⟨bt, hbt⟩ : ∃ b, b = B.testBit q31 := ⟨_, rfl⟩
      obtain ⟨bn, hbn⟩ : ∃ b : Nat, b = bt.toNat := ⟨_, rfl⟩
      have eb : bits .and .u32 ((B : Int) / 2 ^ q31) 1 = (bn : Int) := by
        have h1 := and_one32 (B / 2 ^ q31) (Nat.lt_of_le_of_lt (Nat.div_le_self _ _) hB)
        rw [bit_mod, ← hbt, ← hbn] at h1
        rw [← h1]; simp
      have gq : (0 : Int) ≤ (q31 : Int) := Int.natCast_nonneg _
      have hset := burstI_set n k B j hlt
      have hskip := burstI_skip n k B j
      rw [← hq31, ← hbt] at hset hskip
      by_cases hin : k + j < 8 * n
      · have t1 : decide ((k : Int) < 8 * (n : Int) - (j : Int)) = true := by simp; omega
        cases bt with
        | true =>
          have hbn1 : bn = 1 := hbn
          subst hbn1
          have hs1 := hset hin rfl
          obtain ⟨p, hp⟩ : ∃ p, p = k + j := ⟨_, rfl⟩
          rw [← hp] at hs1
          obtain ⟨q, hq⟩ : ∃ q, q = p / 8 := ⟨_, rfl⟩
          obtain ⟨r, hr⟩ : ∃ r, r = p % 8 := ⟨_, rfl⟩
          obtain ⟨s, hs⟩ : ∃ s, s = 7 - r := ⟨_, rfl⟩
          have hqn : q < n := by omega
          obtain ⟨x, hx⟩ : ∃ x, cur[q]? = some x := ⟨cur[q]'(by omega), by simp [hcl, hqn]⟩
          have hsb := set_bit cur p x (by rw [← hq]; exact hx)
          rw [hcur.out, ← hs1, ← hq, ← hr, ← hs] at hsb
          have hs8 : s < 8 := by omega
          obtain ⟨y, hy⟩ : ∃ y, y = x ||| UInt8.ofNat (2 ^ s) := ⟨_, rfl⟩
          obtain ⟨T, hT⟩ : ∃ T, T = 2 ^ s := ⟨_, rfl⟩
          have hT8 : T < 256 := by rw [hT]; exact Nat.pow_lt_pow_right (a := 2) (n := 8) (by omega) (by omega)
          have eT : (2 : Int) ^ s = (T : Int) := by rw [hT]; simp
          have ey : bits .or .u8 (x.toNat : Int) (T : Int) = (y.toNat : Int) := by
            have h1 := bor x (UInt8.ofNat (2 ^ s))
            rw [← hy, UInt8.toNat_ofNat', ← hT, Nat.mod_eq_of_lt hT8] at h1
            exact h1
          have wT : IntKind.u8.wrap (T : Int) = (T : Int) := by rw [IntKind.wrap_u8]; omega
          rw [← hy] at hsb
          have HSB : Hid (bitsOf (cur.set q y) = burstI n k B (j + 1)) := hsb
          have hcx : wr.cell? ⟨w.heap.size, q, none⟩ = some (.int .u8 (x.toNat : Int)) := by rw [ho.cellAt q (by omega), List.getElem?_map, hx]; rfl
          have hfx : wr.frozen? ⟨w.heap.size, q, none⟩ = false := ho.frozenAt q
          obtain ⟨ho2, _⟩ := ho.stored q (.int .u8 (y.toNat : Int))
          rw [set_cellU] at ho2
          have HO : Hid ((wr.setCell ⟨w.heap.size, q, none⟩ (.int .u8 (y.toNat : Int))).drew.ownsRow w.heap.size 5 1 (.slice (some ⟨w.heap.size, 0, none⟩) n n) n ((cur.set q y).map cellOf)) := ho2.drew
          have HBL : Hid (Below w.heap.size w (wr.setCell ⟨w.heap.size, q, none⟩ (.int .u8 (y.toNat : Int))).drew) := (hbl.setCell (p := ⟨w.heap.size, q, none⟩) (Nat.le_refl _) _).drew
          have HCL : Hid ((cur.set q y).length = n) := by rw [List.length_set]; exact hcl
          have p1 : IntKind.i64.wrap ((k : Int) + (j : Int)) = (p : Int) := by rw [IntKind.wrap_i64]; omega
          have p1' : (k : Int) + (j : Int) = (p : Int) := by omega
          have q1 : (p : Int) / 8 = (q : Int) := by omega
          have q2 : (p : Int).tdiv 8 = (q : Int) := by rw [Int.tdiv_eq_ediv_of_nonneg (by omega)]; exact q1
          have r1 : (p : Int) % 8 = (r : Int) := by omega
          have r2 : (p : Int).tmod 8 = (r : Int) := by rw [Int.tmod_eq_emod_of_nonneg (by omega)]; exact r1
          have s1 : 7 - (r : Int) = (s : Int) := by omega
          have s2 : IntKind.i64.wrap (7 - (r : Int)) = (s : Int) := by rw [IntKind.wrap_i64]; omega
          have gq0 : (0 : Int) ≤ (q : Int) := Int.natCast_nonneg _
          have gq1 : (q : Int) < (n : Int) := by omega
          have gs0 : (0 : Int) ≤ (s : Int) := Int.natCast_nonneg _
          clear hset hskip hs1 hsb ho ho2 hbl hcur hcl hx hy hT hbt hbn hq hr hs hp hq31
          go_wp2
          go_region
          go_wp2
          go_roundw
          case rel => exact ⟨j + 1, cur.set q y, by omega, by go_num, HSB, HCL.out, HO.out, HBL.out⟩
          case measure => simp [intOf]; omega
        | false =>
          have hbn0 : bn = 0 := hbn
          subst hbn0
          have hs1 := hskip (by simp)
          have HC2 : Hid (bitsOf cur = burstI n k B (j + 1)) := by rw [hs1]; exact hcur.out
          clear hset hskip hs1 hcur hbt hbn hq31
          go_wp2
          go_roundw
          case rel => exact ⟨j + 1, cur, by omega, by go_num, HC2, hcl, ho, hbl⟩
          case measure => simp [intOf]; omega
      · have t1 : decide ((k : Int) < 8 * (n : Int) - (j : Int)) = false := by simp; omega
        have hs1 := hskip (fun h => hin h.1)
        have HC2 : Hid (bitsOf cur = burstI n k B (j + 1)) := by rw [hs1]; exact hcur.out
        clear hset hskip hs1 hcur hbt hbn hq31 eb
        go_wp2
        go_roundw
        case rel => exact ⟨j + 1, cur, by omega, by go_num, HC2, hcl, ho, hbl⟩
        case measure => simp [intOf]; omega
    · obtain rfl : j = 32 := by omega
      go_wp2
      go_ret
      exact ⟨_, cur, hcur, hcl, rfl, ho, hbl⟩

set_option maxHeartbeats 1600000 in
set_option maxRecDepth 20000 in
theorem rburst_neg (w : World) (n : Nat) (k : Int) (B : Nat) (hn : n ≤ 4096) (hk : k < 0) :
    Calls Try.prog 20 #[.int .i64 (n : Int), .int .i64 k, .int .u32 (B : Int)] w fun e w' => ∃ g r, Hid (bitsOf r = List.replicate (8 * n) false) ∧ r.length = n ∧ e = .returned (.slice (some ⟨g, 0, none⟩) n n) ∧ w'.ownsRow w.heap.size 5 1 (.slice (some ⟨g, 0, none⟩) n n) n (r.map cellOf) ∧ Below w.heap.size w w' := by
  obtain ⟨i5, hi, hz0, hz1, hz2⟩ := info_parts Try.info5
  have d1 : decide ((n : Int) < 0) = false := by simp
  have d2 : decide ((4096 : Int) < (n : Int)) = false := by simp; omega
  have t0 : decide (0 ≤ k) = false := by simp; omega
  go_enter Try.func20, Try.ntmps20
  go_wp2_with (at_make; refine wpList_make_full _ rfl _ _ 22 rfl w.heap.size 5 i5 (.int .u8 0) 1 Try.underlying22 hi hz0 hz1 .i64 .i64 _ _ n rfl rfl rfl rfl ?b2 ?b3 ?b4 ?_)
  case b2 => rw [hz2]; omega
  case b3 => unfold maxLen; omega
  case b4 => exact Nat.le_refl _
  intro w1 hown hgrow
  have hbel : Below w.heap.size w w1 := (Below.refl _ _).grown hgrow (Nat.le_refl _) (by intro k h; cases h)
  have ho0 : w1.ownsRow w.heap.size 5 1 (.slice (some ⟨w.heap.size, 0, none⟩) n n) n ((List.replicate n (0 : UInt8)).map cellOf) := by rw [← made_bytes]; simpa using hown
  clear hgrow hown
  go_wp2
  go_loop [8, 9] (fun i _ => ∃ j : Nat, j ≤ 32 ∧ i = .int .i64 j) (fun i _ => 32 - (intOf i).toNat)
  case atStart => exact ⟨0, by omega, rfl⟩
  case round =>
    obtain ⟨j, hj, rfl⟩ := hrel
    by_cases hlt : j < 32
    · go_wp2
      go_round
      case rel => exact ⟨j + 1, by omega, by go_num⟩
      case measure => simp [intOf]; omega
    · obtain rfl : j = 32 := by omega
      go_wp2
      go_ret
      exact ⟨_, List.replicate n 0, bits_noughts n, by simp, rfl, ho0, hbel⟩

set_option maxHeartbeats 400000 in
set_option maxRecDepth 20000 in
theorem rburst_no (w : World) (n k : Int) (B : Nat) (hn : n < 0 ∨ 4096 < n) : Calls Try.prog 20 #[.int .i64 n, .int .i64 k, .int .u32 (B : Int)] w fun e w' => e = .returned (.slice none 0 0) ∧ w' = w := by
  by_cases h1 : n < 0
  · go_enter Try.func20, Try.ntmps20
    go_wp2
    go_ret
    exact ⟨rfl, rfl⟩
  · have h2 : 4096 < n := by omega
    have d1 : decide (n < 0) = false := by simp; omega
    go_enter Try.func20, Try.ntmps20
    go_wp2
    go_ret
    exact ⟨rfl, rfl⟩

/-- Bytes are answered, in memory of the call's own. -/
def Gives (w w' : World) (e : Ending) (p : List UInt8 → Prop) : Prop := ∃ d cd r, Hid (p r) ∧ e = .returned (.slice d r.length cd) ∧ Sees w' d cd r ∧ Below w.heap.size w w' ∧ w'.ownsRow w.heap.size 5 1 (.slice d r.length cd) r.length (r.map cellOf)

/-- What Burst answers, of n, a place and 32 bits. -/
def burstIs (n k : Int) (B : Nat) (r : List UInt8) : Prop := if n < 0 ∨ 4096 < n then r = [] else bitsOf r = burstZ n.toNat k B

theorem burstIs_one {n k : Int} {B : Nat} {r s : List UInt8} (h1 : burstIs n k B r) (h2 : burstIs n k B s) : r = s := by
  unfold burstIs at h1 h2
  by_cases h : n < 0 ∨ 4096 < n
  · rw [if_pos h] at h1 h2; rw [h1, h2]
  · rw [if_neg h] at h1 h2; exact bitsOf_inj r s (h1.trans h2.symm)

theorem rburst_any (w : World) (n k : Int) (B : Nat) (hB : B < 4294967296) : Calls Try.prog 20 #[.int .i64 n, .int .i64 k, .int .u32 (B : Int)] w fun e w' => Gives w w' e (burstIs n k B) := by
  by_cases hn : n < 0 ∨ 4096 < n
  · refine (rburst_no w n k B hn).mono ?_
    rintro e w' ⟨rfl, rfl⟩
    exact ⟨none, 0, [], by unfold burstIs; rw [if_pos hn]; exact rfl, rfl, Sees.nil' _, Below.refl _ _, World.ownsRow_nil _ _ _ _⟩
  · obtain ⟨m, rfl⟩ : ∃ m : Nat, n = m := ⟨n.toNat, by omega⟩
    by_cases hk : k < 0
    · refine (rburst_neg w m k B (by omega) hk).mono ?_
      rintro e w' ⟨g, r, hr, hl, rfl, ho, hb⟩
      subst hl
      obtain ⟨d, cd, hv, hs⟩ := Sees.of_own ho
      refine ⟨some ⟨g, 0, none⟩, r.length, r, ?_, rfl, ?_, hb, ho⟩
      · have h1 : burstIs (r.length : Int) k B r := by unfold burstIs burstZ; rw [if_neg hn, if_pos hk]; simpa using hr.out
        exact h1
      · simp only [Value.slice.injEq] at hv; rw [hv.1, hv.2.2]; exact hs
    · obtain ⟨j, rfl⟩ : ∃ j : Nat, k = j := ⟨k.toNat, by omega⟩
      refine (rburst_at w m j B (by omega) hB).mono ?_
      rintro e w' ⟨g, r, hr, hl, rfl, ho, hb⟩
      subst hl
      obtain ⟨d, cd, hv, hs⟩ := Sees.of_own ho
      refine ⟨some ⟨g, 0, none⟩, r.length, r, ?_, rfl, ?_, hb, ho⟩
      · have h1 : burstIs (r.length : Int) (j : Int) B r := by unfold burstIs burstZ; rw [if_neg hn, if_neg hk]; simpa using hr.out
        exact h1
      · simp only [Value.slice.injEq] at hv; rw [hv.1, hv.2.2]; exact hs

def crcP (l : List UInt8) (W : Int) (P s : Nat) : Nat × Nat := if W < 8 ∨ 32 < W ∨ ¬ P < 2 ^ W.toNat ∨ ¬ s < 2 ^ W.toNat then (0, 1) else (crcL W.toNat P s l, 0)

set_option maxHeartbeats 1600000 in
set_option maxRecDepth 20000 in
theorem rcrc_any (w : World) (a : Option Addr) (ca : Nat) (l : List UInt8) (W : Int) (P s0 : Nat) (ha : Sees w a ca l) (hll : l.length ≤ 140737488355328) (hP : P < 4294967296) (hs : s0 < 4294967296) :
    Calls Try.prog 9 #[.slice a l.length ca, .int .i64 W, .int .u32 (P : Int), .int .u32 (s0 : Int)] w fun e w' => e = .returned (.tuple #[.int .u32 (((crcP l W P s0).1 : Nat) : Int), .int .i64 (((crcP l W P s0).2 : Nat) : Int)]) ∧ w' = w := by
  by_cases hbad : W < 8 ∨ 32 < W ∨ ¬ P < 2 ^ W.toNat ∨ ¬ s0 < 2 ^ W.toNat
  · have hE : crcP l W P s0 = (0, 1) := by unfold crcP; rw [if_pos hbad]
    rw [hE]
    clear hE ha
    by_cases h1 : W < 8
    · clear hbad
      go_enter Try.func9, Try.ntmps9
      go_wp2
      go_ret2
      exact ⟨rfl, rfl⟩
    have d1 : decide (W < 8) = false := by simp; omega
    by_cases h2 : 32 < W
    · clear hbad
      go_enter Try.func9, Try.ntmps9
      go_wp2
      go_ret2
      exact ⟨rfl, rfl⟩
    have d2 : decide (32 < W) = false := by simp; omega
    obtain ⟨V, rfl⟩ : ∃ V : Nat, W = V := ⟨W.toNat, by omega⟩
    have gV : (0 : Int) ≤ (V : Int) := Int.natCast_nonneg _
    simp only [Int.toNat_natCast] at hbad
    by_cases h3 : P < 2 ^ V
    · have h4 : ¬ s0 < 2 ^ V := by
        intro h; rcases hbad with h' | h' | h' | h'
        · omega
        · omega
        · exact h' h3
        · exact h' h
      have d3 : (P : Int) / 2 ^ V = 0 := by
        have : ((P / 2 ^ V : Nat) : Int) = 0 := by rw [Nat.div_eq_of_lt h3]; rfl
        simpa using this
      have d4 : ((s0 : Int) / 2 ^ V != 0) = true := by
        have h5 : 0 < s0 / 2 ^ V := Nat.div_pos (by omega) (Nat.two_pow_pos V)
        have h6 : (s0 : Int) / 2 ^ V = ((s0 / 2 ^ V : Nat) : Int) := by simp
        rw [h6]; simp; omega
      clear hbad h3 h4
      go_enter Try.func9, Try.ntmps9
      go_wp2
      go_ret2
      exact ⟨rfl, rfl⟩
    · have d3 : ((P : Int) / 2 ^ V != 0) = true := by
        have h5 : 0 < P / 2 ^ V := Nat.div_pos (by omega) (Nat.two_pow_pos V)
        have h6 : (P : Int) / 2 ^ V = ((P / 2 ^ V : Nat) : Int) := by simp
        rw [h6]; simp; omega
      clear hbad h3
      go_enter Try.func9, Try.ntmps9
      go_wp2
      go_ret2
      exact ⟨rfl, rfl⟩
  · obtain ⟨V, rfl⟩ : ∃ V : Nat, W = V := ⟨W.toNat, by omega⟩
    have hE : crcP l (V : Int) P s0 = (crcL V P s0 l, 0) := by unfold crcP; rw [if_neg hbad]; simp
    rw [hE]
    simp only [Int.toNat_natCast] at hbad
    have h3 : P < 2 ^ V := Decidable.byContradiction fun h => hbad (.inr (.inr (.inl h)))
    have h4 : s0 < 2 ^ V := Decidable.byContradiction fun h => hbad (.inr (.inr (.inr h)))
    exact rcrc_ok w a ca l V P s0 ha hll (by omega) (by omega) h3 h4
end Go.Proofs.Ytkmeccimldpllaa
