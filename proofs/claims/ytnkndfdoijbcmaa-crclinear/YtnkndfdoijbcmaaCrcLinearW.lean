/-
  The walk of CrcLinear, out of what package crc must say.
-/
import Derived.Test.YtnkndfdoijbcmaaCrcBurstsW
namespace Go.Proofs.Ytnkndfdoijbcmaa
open Go.ChangeShapes Go.WideShapes Go.ChangeAt Go.RowKit

theorem crcP_bad (l m : List UInt8) (W : Int) (P s : Nat) : (crcP l W P s).2 = (crcP m W P s).2 := by
  unfold crcP; split <;> rfl
theorem crcP_lin (l m : List UInt8) (W : Int) (P : Nat) (hl : l.length = m.length) : (crcP (xorL l m) W P 0).1 = (crcP l W P 0).1 ^^^ (crcP m W P 0).1 := by
  unfold crcP; split
  · rfl
  · exact crcL_xor _ P l m hl
theorem crcP_lt (l : List UInt8) (W : Int) (P : Nat) : (crcP l W P 0).1 < 4294967296 := by
  unfold crcP
  split
  · decide
  · rename_i h
    have h32 : 2 ^ W.toNat ≤ 2 ^ 32 := Nat.pow_le_pow_right (by omega) (by omega)
    have hP : P < 2 ^ W.toNat := Decidable.byContradiction fun g => h (.inr (.inr (.inl g)))
    exact Nat.lt_of_lt_of_le (crcL_lt _ P 0 hP (Nat.two_pow_pos _) l) h32

set_option maxHeartbeats 4000000 in
set_option maxRecDepth 20000 in
theorem linear_walk' (HOF : CofOk) (HAW : CawakeOk) (a : Option Addr) (ca : Nat) (l : List UInt8) (b : Option Addr) (cb : Nat) (m : List UInt8) (W z : Int) (w : World) (ha : Sees w a ca l) (hca : ca ≤ 140737488351232) (hb : Sees w b cb m) (hcb : cb ≤ 140737488351232) (_ : (Lit.int .i64 W).wf = true) (wz : (Lit.int .u32 z).wf = true) :
    Calls Try.prog 6 #[.slice a l.length ca, .slice b m.length cb, .int .i64 W, .int .u32 z] w fun e w' => e = .returned (.bool true) ∧ Below w.heap.size w w' := by
  obtain ⟨P, rfl, hP⟩ : ∃ n : Nat, z = n ∧ n < 4294967296 := ⟨z.toNat, by have := bounds_u32 wz; omega, by have := bounds_u32 wz; omega⟩
  have hll : l.length ≤ 140737488351232 := Nat.le_trans ha.fits hca
  have hml : m.length ≤ 140737488351232 := Nat.le_trans hb.fits hcb
  clear wz
  by_cases hne : l.length = m.length
  case neg =>
    have haw := HAW w
    have dd : ((l.length : Int) != (m.length : Int)) = true := by simp; omega
    clear ha hb hne
    go_enter Try.func6, Try.ntmps6
    go_wp2_with fail
    refine haw.mono ?_
    rintro e w' ⟨rfl, hbl⟩
    go_wp2
    go_ret
    exact ⟨rfl, hbl⟩
  obtain ⟨N, hN⟩ : ∃ N, N = l.length := ⟨_, rfl⟩
  have hlN : l.length = N := hN.symm
  have hmN : m.length = N := by omega
  have HLN : Hid (l.length = N) := hlN
  have HMN : Hid (m.length = N) := hmN
  have HA : Hid (Sees w a ca l) := ha
  have HB : Hid (Sees w b cb m) := hb
  have hb0 : Below w.heap.size w (w.alloc (.cells #[] 5)) := (Below.refl _ _).alloc (Nat.le_refl _) _
  obtain ⟨v1, w1, hrun1, ho1, hk1⟩ := append_own_any _ w.heap.size _ [] (own_empty w) a ca l (ha.below hb0) (by simp; omega) (by simp)
  rw [List.nil_append] at ho1
  have hb1 : Below w.heap.size w w1 := hk1 _ _ hb0 (Nat.le_refl _)
  obtain ⟨xd, xc, rfl, hsx⟩ := Sees.of_own ho1
  rw [hlN] at hrun1 ho1
  have R1 : Hid ((Builtin.append_ #[22, 22] 22 #[.slice (some ⟨w.heap.size, 0, none⟩) 0 0, .slice a N ca]).run Try.prog (w.alloc (.cells #[] 5)) = .ok (.slice xd N xc) w1) := hrun1
  have ho0 : w1.ownsRow w.heap.size 5 1 (.slice xd N xc) N ((midX l m 0).map cellOf) := ho1
  have hN9 : N ≤ 140737488351232 := by omega
  rw [hlN, hmN]
  clear hrun1 hk1 hb0 ha hb hll hml hne hN hlN hmN hsx ho1
  go_enter Try.func6, Try.ntmps6
  go_wp2_with (at_builtin; refine wpList_append_run rfl _ _ 22 rfl _ _ _ rfl rfl R1.out ?_)
  clear R1
  go_loopw [10] (fun i wr => ∃ k : Nat, k ≤ N ∧ i = .int .i64 k ∧ wr.ownsRow w.heap.size 5 1 (.slice xd N xc) N ((midX l m k).map cellOf) ∧ Below w.heap.size w wr) (fun i _ => N - (intOf i).toNat)
  case atStart => exact ⟨0, by omega, rfl, ho0, hb1⟩
  case round =>
    obtain ⟨q, hq, rfl, ho, bel⟩ := hrel
    clear ho0 hb1
    by_cases hlt : q < N
    · obtain ⟨x, hx⟩ : ∃ x, l[q]? = some x := ⟨l[q]'(by rw [HLN.out]; exact hlt), by simp [HLN.out, hlt]⟩
      obtain ⟨c, hc⟩ : ∃ c, m[q]? = some c := ⟨m[q]'(by rw [HMN.out]; exact hlt), by simp [HMN.out, hlt]⟩
      have hml : m.length = l.length := by rw [HLN.out, HMN.out]
      obtain ⟨g1, hg1, hg1w, _⟩ : ∃ g, xd = some ⟨g, 0, none⟩ ∧ w.heap.size ≤ g ∧ g < wr.heap.size := by
        rcases ho.2 with ⟨_, h0⟩ | ⟨g, cap, cur, hv, hBg, hg, _⟩
        · omega
        · simp only [Value.slice.injEq] at hv
          exact ⟨g, hv.1, hBg, (Array.getElem?_eq_some_iff.1 hg).1⟩
      subst hg1
      obtain ⟨b2, o2, rfl, hcc0⟩ := HB.out.get hc
      have hb2 : b2 < w.heap.size := World.block_lt_of_cell? w _ hcc0
      have hcc : wr.cell? ⟨b2, o2 + q, none⟩ = some (.int .u8 (c.toNat : Int)) := by rw [bel.cell (p := ⟨b2, o2 + q, none⟩) hb2]; exact hcc0
      have hcx : wr.cell? ⟨g1, q, none⟩ = some (.int .u8 (x.toNat : Int)) := by
        rw [ho.cellAt q (by omega), List.getElem?_map, midX_at l m hml q (by rw [HLN.out]; exact hlt), hx]; rfl
      have hfx : wr.frozen? ⟨g1, q, none⟩ = false := ho.frozenAt q
      obtain ⟨u, hu⟩ : ∃ u, u = x ^^^ c := ⟨_, rfl⟩
      have eu : bits .xor .u8 (x.toNat : Int) (c.toNat : Int) = (u.toNat : Int) := by rw [hu]; exact bxor x c
      obtain ⟨ho2, _⟩ := ho.stored q (.int .u8 (u.toNat : Int))
      rw [set_cellU, hu, midX_set l m hml q x c hx hc, ← hu] at ho2
      have HO1 : Hid ((wr.setCell ⟨g1, q, none⟩ (.int .u8 (u.toNat : Int))).drew.ownsRow w.heap.size 5 1 (.slice (some ⟨g1, 0, none⟩) N xc) N ((midX l m (q + 1)).map cellOf)) := ho2.drew
      have HBL : Hid (Below w.heap.size w (wr.setCell ⟨g1, q, none⟩ (.int .u8 (u.toNat : Int))).drew) := (bel.setCell (p := ⟨g1, q, none⟩) hg1w _).drew
      have g0 : (0 : Int) ≤ (q : Int) := Int.natCast_nonneg _
      have gN : (q : Int) < (N : Int) := by omega
      clear ho ho2 hx hc hu bel hcc0 hml
      go_wp2
      go_region
      go_wp2
      go_roundw
      case rel => exact ⟨q + 1, by omega, by go_num, HO1.out, HBL.out⟩
      case measure => simp [intOf]; omega
    · obtain rfl : q = N := by omega
      have hml : m.length = l.length := by rw [HLN.out, HMN.out]
      have hmid : midX l m q = xorL l m := by
        unfold midX
        rw [← HLN.out, List.drop_length, List.append_nil]
        have : l.length = (xorL l m).length := (xorL_length l m hml.symm).symm
        rw [this, List.take_length]
      have hxl : (xorL l m).length = q := by rw [xorL_length l m hml.symm, HLN.out]
      rw [hmid] at ho
      have ho' : wr.ownsRow w.heap.size 5 1 (.slice xd q xc) (xorL l m).length ((xorL l m).map cellOf) := by rw [hxl]; exact ho
      obtain ⟨dd, cc, hvv, hsX⟩ := Sees.of_own ho'
      simp only [Value.slice.injEq] at hvv
      rw [← hvv.1, ← hvv.2.2] at hsX
      have HSX : Hid (Sees wr xd xc (xorL l m)) := hsX
      have H1 : Hid (∀ V, Below wr.heap.size wr V → Calls Try.prog 7 #[.slice a q ca, .int .i64 W, .int .u32 (P : Int), .int .u32 0] V fun e w' => e = .returned (.tuple #[.int .u32 (((crcP l W P 0).1 : Nat) : Int), .int .i64 (((crcP l W P 0).2 : Nat) : Int)]) ∧ Below wr.heap.size wr w') := fun V hV => by
        have := HOF V a ca l W P 0 ((HA.out.below bel).below hV) (by rw [HLN.out]; omega) hP (by omega)
        rw [HLN.out] at this
        exact this.mono fun _ _ ⟨h, hb⟩ => ⟨h, hV.trans (hb.mono hV.size)⟩
      have H2 : Hid (∀ V, Below wr.heap.size wr V → Calls Try.prog 7 #[.slice b q cb, .int .i64 W, .int .u32 (P : Int), .int .u32 0] V fun e w' => e = .returned (.tuple #[.int .u32 (((crcP m W P 0).1 : Nat) : Int), .int .i64 (((crcP l W P 0).2 : Nat) : Int)]) ∧ Below wr.heap.size wr w') := fun V hV => by
        have := HOF V b cb m W P 0 ((HB.out.below bel).below hV) (by rw [HMN.out]; omega) hP (by omega)
        rw [HMN.out, crcP_bad m l] at this
        exact this.mono fun _ _ ⟨h, hb⟩ => ⟨h, hV.trans (hb.mono hV.size)⟩
      have H3 : Hid (∀ V, Below wr.heap.size wr V → Calls Try.prog 7 #[.slice xd q xc, .int .i64 W, .int .u32 (P : Int), .int .u32 0] V fun e w' => e = .returned (.tuple #[.int .u32 (((crcP l W P 0).1 ^^^ (crcP m W P 0).1 : Nat) : Int), .int .i64 (((crcP l W P 0).2 : Nat) : Int)]) ∧ Below wr.heap.size wr w') := fun V hV => by
        have := HOF V xd xc (xorL l m) W P 0 (HSX.out.below hV) (by rw [hxl]; omega) hP (by omega)
        rw [hxl, crcP_bad (xorL l m) l, crcP_lin l m W P hml.symm] at this
        exact this.mono fun _ _ ⟨h, hb⟩ => ⟨h, hV.trans (hb.mono hV.size)⟩
      have hx32 := crcP_lt l W P
      have hy32 := crcP_lt m W P
      obtain ⟨x, hx⟩ : ∃ x, x = (crcP l W P 0).1 := ⟨_, rfl⟩
      obtain ⟨y, hy⟩ : ∃ x, x = (crcP m W P 0).1 := ⟨_, rfl⟩
      obtain ⟨e0, he0⟩ : ∃ x, x = (crcP l W P 0).2 := ⟨_, rfl⟩
      rw [← hx] at H1 H3 hx32
      rw [← hy] at H2 H3 hy32
      rw [← he0] at H1 H2 H3
      obtain ⟨z, hz⟩ : ∃ z, z = x ^^^ y := ⟨_, rfl⟩
      rw [← hz] at H3
      have ez : bits .xor .u32 (x : Int) (y : Int) = (z : Int) := by rw [hz]; exact u32_xor_nat x y hx32 hy32
      have h1 := H1.out wr (Below.refl _ _)
      clear hmid hxl ho ho' hvv hsX hx hy he0 hz hml
      go_wp2_with fail
      refine h1.mono ?_
      rintro e w2 ⟨rfl, b2⟩
      have h2 := H2.out w2 b2
      clear h1
      go_wp2_with fail
      refine h2.mono ?_
      rintro e w3 ⟨rfl, b3⟩
      have h3 := H3.out w3 b3
      clear h2
      go_wp2_with fail
      refine h3.mono ?_
      rintro e w4 ⟨rfl, b4⟩
      have haw := HAW w4
      have bw4 := bel.trans (b4.mono bel.size)
      clear h3
      by_cases hz0 : e0 = 0
      · subst hz0
        go_wp2_with fail
        refine haw.mono ?_
        rintro e w5 ⟨rfl, b5⟩
        clear haw
        go_wp2
        go_ret
        exact ⟨rfl, bw4.trans (b5.mono bw4.size)⟩
      · have dn : ((e0 : Int) != 0) = true := by simp; omega
        go_wp2_with fail
        refine haw.mono ?_
        rintro e w5 ⟨rfl, b5⟩
        clear haw
        go_wp2
        go_ret
        exact ⟨rfl, bw4.trans (b5.mono bw4.size)⟩
end Go.Proofs.Ytnkndfdoijbcmaa
