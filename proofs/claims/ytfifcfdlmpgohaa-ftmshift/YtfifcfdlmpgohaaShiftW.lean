/-
  The law: the order has no part, and numbers turned about their sign. The program's contracts are a premise here.
-/
import Derived.Test.YtfifcfdlmpgohaaFtmN
namespace Go.Proofs.Ytfifcfdlmpgohaa
open Go.ChangeShapes Go.WideShapes Go.ChangeAt Go.RowKit
set_option maxRecDepth 20000

/-- The first j numbers, read on from k. -/
def rotL (L : List Int) (k j : Nat) : List Int := (List.range j).map (fun i => L.getD ((i + k) % L.length) 0)
theorem rotL_len (L : List Int) (k j : Nat) : (rotL L k j).length = j := by simp [rotL]
theorem rotL_snoc (L : List Int) (k j : Nat) : rotL L k (j + 1) = rotL L k j ++ [L.getD ((j + k) % L.length) 0] := by
  simp [rotL, List.range_succ]
theorem rotL_all (L : List Int) (k : Nat) : (rotL L k L.length).Perm L := by
  rcases Nat.eq_zero_or_pos L.length with h0 | h0
  · have : L = [] := List.length_eq_zero_iff.1 h0
    subst this; exact List.Perm.refl _
  · have e : rotL L k L.length = L.drop (k % L.length) ++ L.take (k % L.length) := by
      have hr := Nat.mod_lt k h0
      apply List.ext_getElem?
      intro i
      by_cases hi : i < L.length
      · rw [List.getElem?_append, List.length_drop]
        have h1 : (rotL L k L.length)[i]? = some (L.getD ((i + k) % L.length) 0) := by simp [rotL, hi]
        rw [h1]
        have h2 : (i + k) % L.length = (i + k % L.length) % L.length := by rw [Nat.add_mod_mod]
        split
        · rename_i h3
          have h4 : (i + k) % L.length = k % L.length + i := by rw [h2, Nat.mod_eq_of_lt (by omega)]; omega
          rw [List.getElem?_drop, h4, List.getD_eq_getElem?_getD, List.getElem?_eq_getElem (by omega)]; rfl
        · rename_i h3
          have h4 : (i + k) % L.length = i - (L.length - k % L.length) := by
            rw [h2, Nat.mod_eq_sub_mod (by omega), Nat.mod_eq_of_lt (by omega)]; omega
          rw [List.getElem?_take, if_pos (by omega), h4, List.getD_eq_getElem?_getD, List.getElem?_eq_getElem (by omega)]; rfl
      · rw [List.getElem?_eq_none (by rw [rotL_len]; omega), List.getElem?_eq_none (by simp; omega)]
    rw [e]; exact rot_perm L _
theorem negs_snoc {L : List Int} {j : Nat} {y : Int} (h : L[j]? = some y) : negs (L.take (j + 1)) = negs (L.take j) ++ [-(max y (-4611686018427387904))] := by
  unfold negs; rw [List.take_add_one, h, List.map_append]; rfl
/-- One more behind all, beside another list. -/
theorem row_moreB {w W : World} {a : Option Addr} {k c : Nat} {xs : List Int} {u : Value} {ys : List Int} (h : Row EL W (.slice a k c) xs) (h2 : Row EL W u ys) (hne : ∀ p, (Value.slice a k c).ownBlock = some p → u.ownBlock ≠ some p) (hl : xs.length ≤ 999) (hb : Below w.heap.size w W) (ho : ∀ p, (Value.slice a k c).ownBlock = some p → w.heap.size ≤ p) (x : Int) :
    ∃ a' c' W', (Builtin.append_ #[22, 22] 22 #[.slice a k c, .slice (some ⟨W.heap.size, 0, none⟩) 1 1]).run Try.prog (W.alloc (.cells #[.int .i64 x] 2)) = .ok (.slice a' (xs ++ [x]).length c') W' ∧ Row EL W' (.slice a' (xs ++ [x]).length c') (xs ++ [x]) ∧ Row EL W' u ys ∧ (∀ p, (Value.slice a' (xs ++ [x]).length c').ownBlock = some p → u.ownBlock ≠ some p) ∧ Below w.heap.size w W' ∧ (∀ p, (Value.slice a' (xs ++ [x]).length c').ownBlock = some p → w.heap.size ≤ p) := by
  have hb1 : Below w.heap.size w (W.alloc (.cells #[.int .i64 x] 2)) := hb.alloc hb.size _
  obtain ⟨sl', W', hrun, hr, ha, h3⟩ := (h.allocL (.cells #[.int .i64 x] 2)).pushL hl x W.heap.size (by rw [cell_of_row _ W.heap.size 0 #[.int .i64 x] 2 (0, 0) (heap_alloc_new W _)]; rfl)
  obtain ⟨sa, sc, hsl, _⟩ := hr.shape
  subst hsl
  refine ⟨_, _, W', hrun, hr, (h2.allocL _).apart ha (fun p hp hq => hne p hq hp), fun p hp hu => ?_, ha.below hb1 ho hb1.size, fun p hp => ?_⟩
  · rcases h3 p hp with h4 | h4
    · exact hne p h4 hu
    · have := h2.lt hu; simp at h4; omega
  · rcases h3 p hp with h4 | h4
    · exact ho p h4
    · exact Nat.le_trans hb1.size h4

set_option maxHeartbeats 16000000 in
theorem shift_walk (H : FtmP) (a1 : Option Addr) (c1 : Nat) (L : List Int) (f k : Int) (w : World) (s1 : Nums .i64 w a1 c1 L) (_hf : (Lit.int .i64 f).wf = true) (hk : (Lit.int .u8 k).wf = true) :
    Calls Try.prog 6 #[.slice a1 L.length c1, .int .i64 f, .int .u8 k] w fun e w' => e = .returned (.bool true) ∧ Below w.heap.size w w' := by
  have hk2 : 0 ≤ k ∧ k < 256 := by
    simp [Lit.wf, IntKind.min, IntKind.max, IntKind.signed, IntKind.bits] at hk; omega
  have l1 := s1.len
  have HS : Hid (∀ W, Below w.heap.size w W → LsO W a1 L) := fun W hW => (Nums.lsO s1).below hW
  have KA : Hid (∀ W, Below w.heap.size w W → Calls Try.prog 7 #[] W fun e w' => e = .returned (.bool true) ∧ Below w.heap.size w w') := fun W hW => (awake_ok H W).mono fun _ _ ⟨h1, h2⟩ => ⟨h1, hW.trans (h2.mono hW.size)⟩
  have HW : Hid (∀ y ∈ L, y ≤ 9223372036854775807) := fun y hy => by
    have h := s1.wf y hy
    simp [Lit.wf, IntKind.min, IntKind.max, IntKind.signed, IntKind.bits] at h; omega
  have HC : Hid (L.length ≤ c1) := s1.fits
  clear s1 hk
  by_cases g1 : (100 : Int) < (L.length : Int)
  · have ka := KA.out w (Below.refl _ _)
    clear KA HS
    go_enter Try.func6, Try.ntmps6
    go_wp2_with fail
    refine ka.mono ?_
    rintro e wa ⟨rfl, hb⟩
    have HB : Hid (Below w.heap.size w wa) := hb
    clear hb ka
    go_wp2
    go_ret
    exact ⟨rfl, HB.out⟩
  · have hl : L.length ≤ 100 := by omega
    obtain ⟨K, rfl⟩ : ∃ K : Nat, k = (K : Int) := ⟨k.toNat, by omega⟩
    have K1 := H.mid w a1 c1 L f (by omega) HC.out (HS.out w (Below.refl _ _))
    have KT : Hid (∀ W b c T, T.length = L.length → T.length ≤ c → T.Perm L → LsO W b T → Calls Try.prog 10 #[.slice b T.length c, .int .i64 f] W fun e w' => e = .returned (.tuple #[.int .i64 (miV L f), .int .i64 (trE L f)]) ∧ Below W.heap.size W w') := fun W b c T h1 hc h2 h3 => by
      have := H.mid W b c T f (by omega) hc h3
      rw [miV_perm h2, trE_perm h2] at this; exact this
    have KN : Hid (∀ W b c, (negs L).length ≤ c → LsO W b (negs L) → Calls Try.prog 10 #[.slice b (negs L).length c, .int .i64 f] W fun e w' => e = .returned (.tuple #[.int .i64 (-miV L f), .int .i64 (trE L f)]) ∧ Below W.heap.size W w') := fun W b c hc h => by
      have := H.mid W b c (negs L) f (by unfold negs; rw [List.length_map]; omega) hc h
      rw [miV_negs, trE_negs] at this; exact this
    have hb1 := miV_isT L f
    have hz : ¬ trE L f = 0 → miV L f = 0 := miV_bad
    have hz2 := trE_cases L f
    generalize trE L f = E at *
    generalize miV L f = M at *
    have hb2 : -1099511627776 ≤ M ∧ M ≤ 1099511627776 := hb1
    have e4 : IntKind.i64.wrap (-M) = -M := wrap_in (by omega) (by omega)
    have HR : Hid (∀ W, Calls Try.prog 19 #[.agg #[.int .i64 M, .int .i64 M]] W fun e w' => e = .returned (.bool true) ∧ Below W.heap.size W w') := fun W => by
      have := isright_ok W M M
      have hr : rightB M M = true := by unfold rightB; rw [decide_eq_true_eq]; omega
      rw [hr] at this; exact this
    have HL : Hid (L.length ≤ 100 ∧ K < 256) := ⟨hl, by omega⟩
    clear hb1 hb2 hz hz2 hl l1
    have hwk : IntKind.i64.wrap (K : Int) = (K : Int) := wrap_in (by omega) (by omega)
    go_enter Try.func6, Try.ntmps6
    go_wp2_with fail
    refine K1.mono ?_
    rintro e w2 ⟨rfl, hb⟩
    have HB : Hid (Below w.heap.size w w2) := hb
    clear K1 hb
    go_wp2
    go_loopw [9, 10, 11] (fun u v i wr => ∃ (j : Nat) (T N : List Int) (q1 : Option Addr) (k1 : Nat) (q2 : Option Addr) (k2 : Nat), j ≤ L.length ∧ T = rotL L K j ∧ N = negs (L.take j) ∧ u = .slice q1 T.length k1 ∧ v = .slice q2 N.length k2 ∧ i = .int .i64 (j : Int) ∧ Row EL wr (.slice q1 T.length k1) T ∧ Row EL wr (.slice q2 N.length k2) N ∧ (∀ p, (Value.slice q1 T.length k1).ownBlock = some p → w.heap.size ≤ p) ∧ (∀ p, (Value.slice q2 N.length k2).ownBlock = some p → w.heap.size ≤ p) ∧ (∀ p, (Value.slice q1 T.length k1).ownBlock = some p → (Value.slice q2 N.length k2).ownBlock ≠ some p) ∧ Below w.heap.size w wr) (fun _ _ i _ => L.length - (intOf i).toNat)
    case atStart => exact ⟨0, [], [], none, 0, none, 0, Nat.zero_le _, rfl, rfl, rfl, rfl, rfl, Row.nil _ _, Row.nil _ _, (fun p hp => by cases hp), (fun p hp => by cases hp), (fun p hp => by cases hp), HB.out⟩
    case round =>
      obtain ⟨j, T, N, q1, k1, q2, k2, hj, hT, hN, rfl, rfl, rfl, r1, r2, o1, o2, hne, hb⟩ := hrel
      have gj : (0 : Int) ≤ (j : Int) := Int.natCast_nonneg _
      have n1 : T.length = j := by rw [hT, rotL_len]
      have n2 : N.length = j := by rw [hN]; unfold negs; rw [List.length_map, List.length_take]; omega
      by_cases hlt : (j : Int) < (L.length : Int)
      · have hm : (j + K) % L.length < L.length := Nat.mod_lt _ (by omega)
        obtain ⟨z, hz⟩ : ∃ z, L[(j + K) % L.length]? = some z := ⟨_, List.getElem?_eq_getElem hm⟩
        obtain ⟨y, hy⟩ : ∃ y, L[j]? = some y := ⟨_, List.getElem?_eq_getElem (by omega)⟩
        obtain ⟨m, hmm⟩ : ∃ m, m = (j + K) % L.length := ⟨_, rfl⟩
        rw [← hmm] at hz hm
        obtain ⟨b, o, rfl, cz⟩ := HS.out wr hb m z hz
        have e9 : IntKind.i64.wrap ((j : Int) + 1) = ((j + 1 : Nat) : Int) := by have := HL.out.1; rw [wrap_in (by omega) (by omega)]; omega
        have e1 : IntKind.i64.wrap ((j : Int) + (K : Int)) = (j : Int) + (K : Int) := by have := HL.out; exact wrap_in (by omega) (by omega)
        have e2 : ((j : Int) + (K : Int)).tmod (L.length : Int) = (m : Int) := by rw [hmm, ← Int.natCast_add]; rfl
        have e3 : IntKind.i64.wrap (m : Int) = (m : Int) := by have := HL.out; exact wrap_in (by omega) (by omega)
        have hL0 : ¬ (L.length : Int) = 0 := by omega
        have hm1 : (m : Int) < (L.length : Int) := by omega
        have gm : (0 : Int) ≤ (m : Int) := Int.natCast_nonneg _
        obtain ⟨x, hx⟩ : ∃ x, x = (if y < -4611686018427387904 then -4611686018427387904 else y) := ⟨_, rfl⟩
        obtain ⟨T2, hT2⟩ : ∃ T2, T2 = T ++ [z] := ⟨_, rfl⟩
        obtain ⟨N2, hN2⟩ : ∃ N2, N2 = N ++ [-x] := ⟨_, rfl⟩
        obtain ⟨q3, k3, W3, run1, r3, r4, ne2, b3, o3⟩ := row_moreB (w := w) r1 r2 hne (by have := HL.out.1; omega) hb o1 z
        rw [← hT2] at run1 r3 ne2 o3
        have ne3 : ∀ p, (Value.slice q2 N.length k2).ownBlock = some p → (Value.slice q3 T2.length k3).ownBlock ≠ some p := fun p hp hq => ne2 p hq hp
        obtain ⟨q4, k4, W4, run2, r5, r6, ne4, b4, o4⟩ := row_moreB (w := w) r4 r3 ne3 (by have := HL.out.1; omega) b3 o2 (-x)
        rw [← hN2] at run2 r5 ne4 o4
        obtain ⟨b', o', e', cy⟩ := HS.out W3 b3 j y hy
        cases e'
        have HE : Hid (j < L.length ∧ T2 = rotL L K (j + 1) ∧ N2 = negs (L.take (j + 1)) ∧ Row EL W4 (.slice q3 T2.length k3) T2 ∧ Row EL W4 (.slice q4 N2.length k4) N2 ∧ (∀ p, (Value.slice q3 T2.length k3).ownBlock = some p → w.heap.size ≤ p) ∧ (∀ p, (Value.slice q4 N2.length k4).ownBlock = some p → w.heap.size ≤ p) ∧ (∀ p, (Value.slice q3 T2.length k3).ownBlock = some p → (Value.slice q4 N2.length k4).ownBlock ≠ some p) ∧ Below w.heap.size w W4) := by
          refine ⟨by omega, ?_, ?_, r6, r5, o3, o4, fun p hp hq => ne4 p hq hp, b4⟩
          · rw [hT2, hT, rotL_snoc, ← hmm, List.getD_eq_getElem?_getD, hz]; rfl
          · rw [hN2, hN, negs_snoc hy, hx]
            congr 3
            split <;> omega
        have R1 : Hid ((Builtin.append_ #[22, 22] 22 #[.slice q1 T.length k1, .slice (some ⟨wr.heap.size, 0, none⟩) 1 1]).run Try.prog (wr.alloc (.cells #[.int .i64 z] 2)) = .ok (.slice q3 T2.length k3) W3) := run1
        have R2 : Hid ((Builtin.append_ #[22, 22] 22 #[.slice q2 N.length k2, .slice (some ⟨W3.heap.size, 0, none⟩) 1 1]).run Try.prog (W3.alloc (.cells #[.int .i64 (-x)] 2)) = .ok (.slice q4 N2.length k4) W4) := run2
        have hyr := HW.out y (List.mem_of_getElem? hy)
        have hw2 : IntKind.i64.wrap (-x) = -x := by
          have : -4611686018427387904 ≤ x ∧ x ≤ 9223372036854775807 := by rw [hx]; split <;> omega
          exact wrap_in (by omega) (by omega)
        have e5 := hx.symm
        clear hj hT hN r1 r2 o1 o2 hne hb n1 n2 hm hz hy hmm hx hT2 hN2 run1 r3 r4 ne2 b3 o3 ne3 run2 r5 r6 ne4 b4 o4 hyr
        go_upto_region 10 with (at_builtin; refine wpList_append_run rfl (.tmp 32) (.tmp 43) 22 rfl _ _ _ rfl rfl R1.out ?_)
        go_wp2_with (at_builtin; refine wpList_append_run rfl (.tmp 45) (.tmp 52) 22 rfl _ _ _ rfl rfl R2.out ?_)
        go_roundw
        case rel => exact ⟨j + 1, T2, N2, q3, k3, q4, k4, HE.out.1, HE.out.2.1, HE.out.2.2.1, rfl, rfl, rfl, HE.out.2.2.2.1, HE.out.2.2.2.2.1, HE.out.2.2.2.2.2.1, HE.out.2.2.2.2.2.2.1, HE.out.2.2.2.2.2.2.2.1, HE.out.2.2.2.2.2.2.2.2⟩
        case measure => have := HE.out.1; simp [intOf]; omega
      · have hjL : j = L.length := by omega
        rw [hjL] at hT hN n1
        rw [List.take_length] at hN
        have K2 := KT.out wr q1 k1 T n1 r1.fits (by rw [hT]; exact rotL_all L K) r1.lsO
        have HF2 : Hid ((negs L).length ≤ k2) := by show (negs L).length ≤ k2; rw [← hN]; exact r2.fits
        have HB2 : Hid (LsO wr q2 N ∧ Below w.heap.size w wr ∧ N = negs L) := ⟨r2.lsO, hb, hN⟩
        clear hj hT hN r1 r2 o1 o2 hne hb n1 n2 hjL KT HB HS
        go_wp2_with fail
        refine K2.mono ?_
        rintro e w3 ⟨rfl, hb⟩
        have K3 := KN.out w3 q2 k2 HF2.out (by rw [← HB2.out.2.2]; exact HB2.out.1.below hb)
        rw [← HB2.out.2.2] at K3
        have HB3 : Hid (Below w.heap.size w w3) := HB2.out.2.1.trans (hb.mono HB2.out.2.1.size)
        clear K2 KN HB2 hb
        go_wp2_with fail
        refine K3.mono ?_
        rintro e w4 ⟨rfl, hb⟩
        have HB4 : Hid (Below w.heap.size w w4) := HB3.out.trans (hb.mono HB3.out.size)
        have K4 := HR.out w4
        clear K3 HB3 hb HR
        by_cases hE : E = 0
        · subst hE
          go_wp2_with fail
          refine K4.mono ?_
          rintro e w5 ⟨rfl, hb⟩
          have ka := KA.out w5 (HB4.out.trans (hb.mono HB4.out.size))
          clear K4 hb KA HB4
          go_wp2_with fail
          refine ka.mono ?_
          rintro e wa ⟨rfl, hb⟩
          have HB5 : Hid (Below w.heap.size w wa) := hb
          clear hb ka
          go_wp2
          go_ret
          exact ⟨rfl, HB5.out⟩
        · go_wp2_with fail
          refine K4.mono ?_
          rintro e w5 ⟨rfl, hb⟩
          have ka := KA.out w5 (HB4.out.trans (hb.mono HB4.out.size))
          clear K4 hb KA HB4
          go_wp2_with fail
          refine ka.mono ?_
          rintro e wa ⟨rfl, hb⟩
          have HB5 : Hid (Below w.heap.size w wa) := hb
          clear hb ka
          go_wp2
          go_ret
          exact ⟨rfl, HB5.out⟩
end Go.Proofs.Ytfifcfdlmpgohaa
