/-
  The walk of BitsReads.
-/
import Derived.Test.YtapfcgklocflfaaBitsRd
namespace Go.Proofs.Ytapfcgklocflfaa
open Go.ChangeShapes Go.WideShapes Go.ChangeAt Go.RowKit

theorem takeAt_le (l : List UInt8) (at_ : Nat) (n : Int) (h : at_ ≤ 8 * l.length) : takeAt l at_ n ≤ 8 * l.length := by
  unfold takeAt
  by_cases h0 : takeP (8 * l.length - at_) n = 0
  · rw [if_pos h0]
    unfold takeP at h0
    by_cases h1 : n < 0 ∨ 1024 < n
    · rw [if_pos h1] at h0; cases h0
    · rw [if_neg h1] at h0
      by_cases h2 : ((8 * l.length - at_ : Nat) : Int) < 8 * n
      · rw [if_pos h2] at h0; cases h0
      · omega
  · rw [if_neg h0]; exact h
theorem getN_lt (l : List UInt8) (at_ : Nat) (W : Int) : getN l at_ W < 18446744073709551616 := by
  unfold getN
  by_cases h : getP (8 * l.length - at_) W = 0
  · rw [if_pos h]
    have hW : W ≤ 64 := by
      unfold getP at h
      by_cases h1 : W < 0 ∨ 64 < W
      · rw [if_pos h1] at h; cases h
      · omega
    have h1 := num_lt (nextB l at_ W.toNat)
    have h2 : 2 ^ (nextB l at_ W.toNat).length ≤ 2 ^ 64 := Nat.pow_le_pow_right (by omega) (by have := nextB_len l at_ W.toNat; omega)
    omega
  · rw [if_neg h]; omega

/-- What a round leaves: both stand at the same place. -/
def Rd2 (a : Option Addr) (ca : Nat) (l : List UInt8) (B : Nat) (w : World) (b g at_ : Nat) : Prop := at_ ≤ 8 * l.length ∧ Both (RdM l) (RR a ca l) B w b at_ g at_

set_option maxHeartbeats 6400000 in
set_option maxRecDepth 20000 in
theorem reads_walk (a : Option Addr) (ca : Nat) (l : List UInt8) (a1 : Option Addr) (ca1 : Nat) (ws : List Int) (a2 : Option Addr) (ca2 : Nat) (ns : List Int) (w : World) (hs : Sees w a ca l) (hca : ca ≤ 140737488351232) (h1 : Nums .i64 w a1 ca1 ws) (h2 : Nums .i64 w a2 ca2 ns) :
    Calls Try.prog 4 #[.slice a l.length ca, .slice a1 ws.length ca1, .slice a2 ns.length ca2] w fun e w' => e = .returned (.bool true) ∧ Below w.heap.size w w' := by
  have HAW := awake6 wr_spec
  have HS : Hid (Sees w a ca l) := hs
  have H1 : Hid (Nums .i64 w a1 ca1 ws) := h1
  have H2 : Hid (Nums .i64 w a2 ca2 ns) := h2
  have l1 := h1.len
  have l2 := h2.len
  have hll : l.length ≤ 140737488351232 := Nat.le_trans hs.fits hca
  have HXB : Hid (∀ bb off, a = some ⟨bb, off, none⟩ → l ≠ [] → bb < w.heap.size) := fun bb off he hne => by
    obtain ⟨b2, o2, he2, hc2⟩ := hs.at' hne
    rw [he] at he2
    obtain ⟨rfl, rfl⟩ : bb = b2 ∧ off = o2 := by simpa using he2
    obtain ⟨y, hy⟩ : ∃ y, l[0]? = some y := by cases l with | nil => exact absurd rfl hne | cons y _ => exact ⟨y, rfl⟩
    exact World.block_lt_of_cell? w _ (hc2 0 y hy)
  have hb0 : Below w.heap.size w (w.alloc (.cells #[] 5)) := (Below.refl _ _).alloc (Nat.le_refl _) _
  obtain ⟨v', w1, hrun, hown, hbel⟩ := append_own_any (w.alloc (.cells #[] 5)) w.heap.size _ [] (own_empty w) a ca l (hs.below hb0) (by simp; omega) (by simp)
  have bel1 : Below w.heap.size w w1 := hbel _ _ hb0 (Nat.le_refl _)
  rw [List.nil_append] at hown
  obtain ⟨d1, c1, rfl, hs1⟩ := Sees.of_own hown
  have hnew := rdnew_ok w1 d1 c1 l hs1 (by omega)
  have HR : Hid ((Builtin.append_ #[36, 36] 36 #[.slice (some ⟨w.heap.size, 0, none⟩) 0 0, .slice a l.length ca]).run Try.prog (w.alloc (.cells #[] 5)) = .ok (.slice d1 l.length c1) w1) := hrun
  clear hs h1 h2 hb0 hrun hown hbel hs1
  go_enter Try.func4, Try.ntmps4
  go_wp2_with (first | refine wpList_append_run rfl _ _ 36 rfl _ _ _ rfl rfl HR.out ?_ | fail)
  refine hnew.mono ?_
  rintro e w2 ⟨b, F, rfl, hM2, hb2, hF2⟩
  have bel2 := bel1.trans (hb2.mono bel1.size)
  obtain ⟨g, hg⟩ : ∃ g, g = w2.heap.size := ⟨_, rfl⟩
  have hb3 : Below w2.heap.size w2 (w2.alloc (.cells #[.slice a l.length ca, .int .i64 0] 46)) := (Below.refl _ _).alloc (Nat.le_refl _) _
  have HB0 : Hid (Rd2 a ca l w.heap.size (w2.alloc (.cells #[.slice a l.length ca, .int .i64 0] 46)) b w2.heap.size 0) := by
    refine ⟨by omega, F, fun k => k = w2.heap.size, (rd_kept l).below hM2 hb3, ⟨heap_alloc_new w2 _, rfl, by rintro k rfl; simp⟩, ?_, fun i hi => by have := hF2 i hi; have := bel1.size; omega, by rintro k rfl; exact bel2.size⟩
    rintro k hk rfl
    have := (rd_kept l).lt hM2 _ hk; omega
  have bel3 : Below w.heap.size w (w2.alloc (.cells #[.slice a l.length ca, .int .i64 0] 46)) := bel2.alloc bel2.size _
  have HG : Hid (g = w2.heap.size) := hg
  clear hnew hM2 hF2 hb2 hb3 bel2 bel1 HR hg
  go_wp2
  go_loopw [9, 10, 11, 12, 13, 14, 15, 16, 17] (fun i _ _ _ _ _ _ _ _ wr => ∃ k at_ : Nat, k ≤ 200 ∧ i = .int .i64 k ∧ Rd2 a ca l w.heap.size wr b w2.heap.size at_ ∧ Below w.heap.size w wr) (fun i _ _ _ _ _ _ _ _ _ => 200 - (intOf i).toNat)
  case atStart => exact ⟨0, 0, by omega, rfl, HB0.out, bel3⟩
  case round =>
    obtain ⟨k, at_, hk, rfl, ⟨hat, F, G, hm, hn, hFG, hF, hG⟩, bel⟩ := hrel
    clear HB0 bel3
    rw [← HG.out] at hn ⊢
    by_cases hall : k < ws.length ∧ k < ns.length ∧ k < 200
    · obtain ⟨k1, k2, k3⟩ := hall
      obtain ⟨W, hW⟩ : ∃ W, ws[k]? = some W := ⟨ws[k], by simp [k1]⟩
      obtain ⟨n, hnn⟩ : ∃ n, ns[k]? = some n := ⟨ns[k], by simp [k2]⟩
      obtain ⟨wb, wo, rfl, cw⟩ := H1.out.get hW
      obtain ⟨nb, no, rfl, cn⟩ := H2.out.get hnn
      have HSK : Hid (∀ w', Below w.heap.size w w' → w'.cell? ⟨wb, wo + k, none⟩ = some (.int .i64 W) ∧ w'.cell? ⟨nb, no + k, none⟩ = some (.int .i64 n)) := fun w' hb' =>
        ⟨by rw [hb'.cell (p := ⟨wb, wo + k, none⟩) (World.block_lt_of_cell? w _ cw)]; exact cw, by rw [hb'.cell (p := ⟨nb, no + k, none⟩) (World.block_lt_of_cell? w _ cn)]; exact cn⟩
      -- the program's Get
      obtain ⟨N, hN⟩ : ∃ N, N = getN l at_ W := ⟨_, rfl⟩
      obtain ⟨P, hP⟩ : ∃ P, P = getP (8 * l.length - at_) W := ⟨_, rfl⟩
      obtain ⟨A, hA⟩ : ∃ A, A = getAt l at_ W := ⟨_, rfl⟩
      have hAle : A ≤ 8 * l.length := by rw [hA]; exact getAt_le l at_ W hat
      have hN64 : N < 18446744073709551616 := by rw [hN]; exact getN_lt l at_ W
      have hget := rdget_ok l wr b at_ F hm (by omega) W hat
      rw [← hN, ← hP, ← hA] at hget
      have HG1 : Hid (Calls Try.prog 18 #[.pointer (some ⟨b, 0, none⟩), .int .i64 W] wr fun e w' => e = .returned (.tuple #[.int .u64 (N : Int), .int .i64 (P : Int)]) ∧ Both (RdM l) (RR a ca l) w.heap.size w' b A g at_ ∧ Below w.heap.size w w') := by
        refine hget.mono ?_
        rintro e w' ⟨rfl, hL⟩
        exact ⟨rfl, Both.first (rr_kept a ca l) hn hFG hF hG bel.size hL, hL.below bel hF bel.size⟩
      have HNPA : Hid (N = getN l at_ W ∧ P = getP (8 * l.length - at_) W ∧ A = getAt l at_ W ∧ at_ ≤ 8 * l.length) := ⟨hN, hP, hA, hat⟩
      obtain ⟨cw0, cn0⟩ := HSK.out wr bel
      clear hget hm hn hFG hF hG hN hP hA hat cw cn hW hnn
      go_wp2_with fail
      refine HG1.out.mono ?_
      rintro e w3 ⟨rfl, ⟨F3, G3, m3, n3, d3, f3, g3⟩, bel3⟩
      -- the document's
      have hget := rget_any a ca l w3 g at_ G3 n3 (HS.out.below bel3) (fun bb off he hne hf => by have h1 := g3 bb hf; have h2 := HXB.out bb off he hne; omega) (by omega) W HNPA.out.2.2.2
      rw [← HNPA.out.1, ← HNPA.out.2.1, ← HNPA.out.2.2.1] at hget
      have HG2 : Hid (Calls Try.prog 19 #[.pointer (some ⟨g, 0, none⟩), .int .i64 W] w3 fun e w' => e = .returned (.tuple #[.int .u64 (N : Int), .int .i64 (P : Int)]) ∧ Both (RdM l) (RR a ca l) w.heap.size w' b A g A ∧ Below w.heap.size w w') := by
        refine hget.mono ?_
        rintro e w' ⟨rfl, hL⟩
        exact ⟨rfl, Both.second (rd_kept l) m3 d3 f3 g3 bel3.size hL, hL.below bel3 g3 bel3.size⟩
      obtain ⟨cw3, cn3⟩ := HSK.out w3 bel3
      clear hget m3 n3 d3 f3 g3 HG1 cw0 cn0 bel HNPA
      go_wp2_with fail
      refine HG2.out.mono ?_
      rintro e w4 ⟨rfl, ⟨F4, G4, m4, n4, d4, f4, g4⟩, bel4⟩
      -- the program's Bytes
      obtain ⟨Q, hQ⟩ : ∃ Q, Q = takeP (8 * l.length - A) n := ⟨_, rfl⟩
      obtain ⟨A2, hA2⟩ : ∃ A2, A2 = takeAt l A n := ⟨_, rfl⟩
      have hA2le : A2 ≤ 8 * l.length := by rw [hA2]; exact takeAt_le l A n hAle
      have htk := rdtake_fresh l w4 b A F4 m4 (by omega) n hAle
      rw [← hQ, ← hA2] at htk
      have HT1 : Hid (Calls Try.prog 20 #[.pointer (some ⟨b, 0, none⟩), .int .i64 n] w4 fun e w' => ∃ d cd r, Hid (r = takeL l A n) ∧ e = .returned (.tuple #[.slice d r.length cd, .int .i64 (Q : Int)]) ∧ Sees w' d cd r ∧ (∃ F G, RdM l w' b A2 F ∧ RR a ca l w' g A G ∧ (∀ k, F k → ¬ G k) ∧ (∀ k, F k → w.heap.size ≤ k) ∧ (∀ k, G k → w.heap.size ≤ k) ∧ ∀ bb o, d = some ⟨bb, o, none⟩ → ¬ G bb) ∧ Below w.heap.size w w') := by
        refine htk.mono ?_
        rintro e w' ⟨d, cd, r, hr, rfl, hs', hL, hfr⟩
        refine ⟨d, cd, r, hr, rfl, hs', ?_, hL.below bel4 f4 bel4.size⟩
        obtain ⟨F', hm', ha, hf⟩ := hL
        refine ⟨F', G4, hm', (rr_kept a ca l).keep n4 (fun i hi => ha.block i ((rr_kept a ca l).lt n4 i hi) fun hF => d4 i hF hi), fun i hi hg => ?_, fun i hi => ?_, g4, fun bb o he hg => ?_⟩
        · rcases hf i hi with h | h
          · exact d4 i h hg
          · have := (rr_kept a ca l).lt n4 i hg; omega
        · rcases hf i hi with h | h
          · exact f4 i h
          · have := bel4.size; omega
        · have := hfr bb o he; have := (rr_kept a ca l).lt n4 bb hg; omega
      have HQA : Hid (Q = takeP (8 * l.length - A) n ∧ A2 = takeAt l A n) := ⟨hQ, hA2⟩
      obtain ⟨cw4, cn4⟩ := HSK.out w4 bel4
      clear htk m4 n4 d4 f4 g4 HG2 cw3 cn3 bel3 hQ hA2
      go_wp2_with fail
      refine HT1.out.mono ?_
      rintro e w5 ⟨dp, cp, rp, hrp, rfl, hsp, ⟨F5, G5, m5, n5, d5, f5, g5, hpg⟩, bel5⟩
      have htk := rtake_any a ca l w5 g A G5 n5 (HS.out.below bel5) (fun bb off he hne hf => by have h1 := g5 bb hf; have h2 := HXB.out bb off he hne; omega) (fun bb off he hne => by have h2 := HXB.out bb off he hne; have := bel5.size; omega) (by omega) n hAle
      rw [← HQA.out.1, ← HQA.out.2] at htk
      have HT2 : Hid (Calls Try.prog 21 #[.pointer (some ⟨g, 0, none⟩), .int .i64 n] w5 fun e w' => ∃ d cd, e = .returned (.tuple #[.slice d rp.length cd, .int .i64 (Q : Int)]) ∧ Sees w' d cd rp ∧ Sees w' dp cp rp ∧ Both (RdM l) (RR a ca l) w.heap.size w' b A2 g A2 ∧ Below w.heap.size w w') := by
        refine htk.mono ?_
        rintro e w' ⟨d, cd, r, hr, rfl, hs', hL⟩
        obtain rfl : r = rp := by rw [hr.out, hrp.out]
        refine ⟨d, cd, rfl, hs', ?_, Both.second (rd_kept l) m5 d5 f5 g5 bel5.size hL, hL.below bel5 g5 bel5.size⟩
        obtain ⟨_, _, ha, _⟩ := hL
        exact ha.sees hsp (fun bb off he _ => hpg bb off he)
      obtain ⟨cw5, cn5⟩ := HSK.out w5 bel5
      clear htk m5 n5 d5 f5 g5 HT1 cw4 cn4 bel4 hpg hsp HQA hrp
      go_wp2_with fail
      refine HT2.out.mono ?_
      rintro e w6 ⟨dq, cq, rfl, hsq, hsp, ⟨F6, G6, m6, n6, d6, f6, g6⟩, bel6⟩
      have ep := hsp.convert (P := Try.prog) 36 5 9 Try.underlying36 Try.underlying5 Try.underlying9
      have eq := hsq.convert (P := Try.prog) 36 5 9 Try.underlying36 Try.underlying5 Try.underlying9
      have hlp : rp.length ≤ 9223372036854775807 := by have := hsp.fits; have := hsp.room; unfold maxLen at this; omega
      obtain ⟨R, hR⟩ : ∃ R, R = 8 * l.length - A2 := ⟨_, rfl⟩
      obtain ⟨E, hE⟩ : ∃ E, E = endP l A2 := ⟨_, rfl⟩
      have HB6 : Hid (Rd2 a ca l w.heap.size w6 b g A2) := ⟨hA2le, F6, G6, m6, n6, d6, f6, g6⟩
      have hsl : ∀ w', Below w.heap.size w w' → ∀ bb off, a = some ⟨bb, off, none⟩ → l ≠ [] → bb < w'.heap.size := fun w' hb bb off he hne => by have h2 := HXB.out bb off he hne; have := hb.size; omega
      have bel6m : ∀ m, Below w.heap.size w (w6.drewN m) := fun m => below_drewN bel6 m
      -- what is left, and the end
      have HL1 : Hid (Calls Try.prog 22 #[.pointer (some ⟨b, 0, none⟩)] w6 fun e w' => e = .returned (.int .i64 (R : Int)) ∧ ∃ m, w' = w6.drewN m) := by rw [hR]; exact rdleft_ok l w6 b A2 F6 m6 (by omega) hA2le
      have HL2 : Hid (∀ m, Calls Try.prog 23 #[.pointer (some ⟨g, 0, none⟩)] (w6.drewN m) fun e w' => e = .returned (.int .i64 (R : Int)) ∧ ∃ m, w' = w6.drewN m) := fun m => by
        rw [hR]
        refine (rleft_any a ca l (w6.drewN m) g A2 G6 ((rr_kept a ca l).keep n6 (fun _ _ => rfl)) (by omega) hA2le).mono ?_
        rintro e w' ⟨rfl, m', rfl⟩
        exact ⟨rfl, m + m', drewN_add w6 m m'⟩
      have HE1 : Hid (∀ m, Calls Try.prog 24 #[.pointer (some ⟨b, 0, none⟩)] (w6.drewN m) fun e w' => e = .returned (.int .i64 (E : Int)) ∧ ∃ m, w' = w6.drewN m) := fun m => by
        rw [hE]
        refine (rdend_ok l (w6.drewN m) b A2 F6 ((rd_kept l).keep m6 (fun _ _ => rfl)) (by omega) hA2le).mono ?_
        rintro e w' ⟨rfl, m', rfl⟩
        exact ⟨rfl, m + m', drewN_add w6 m m'⟩
      have HE2 : Hid (∀ m, Calls Try.prog 25 #[.pointer (some ⟨g, 0, none⟩)] (w6.drewN m) fun e w' => e = .returned (.int .i64 (E : Int)) ∧ Rd2 a ca l w.heap.size w' b g A2 ∧ Below w.heap.size w w') := fun m => by
        rw [hE]
        refine (rend_any a ca l (w6.drewN m) g A2 G6 ((rr_kept a ca l).keep n6 (fun _ _ => rfl)) (HS.out.below (bel6m m)) (hsl _ (bel6m m)) (by omega) hA2le).mono ?_
        rintro e w' ⟨rfl, hb⟩
        have hb' : Below w6.heap.size w6 w' := ⟨hb.os, hb.tape, hb.output, hb.size, hb.block⟩
        exact ⟨rfl, ⟨hA2le, Both.below (rd_kept l) (rr_kept a ca l) HB6.out.2 hb'⟩, bel6.trans (hb'.mono bel6.size)⟩
      clear m6 n6 d6 f6 g6 HT2 cw5 cn5 bel5 hsl bel6m hR hE hsp hsq
      go_wp2_with fail
      refine HL1.out.mono ?_
      rintro e w7 ⟨rfl, m7, rfl⟩
      go_wp2_with fail
      refine (HL2.out m7).mono ?_
      rintro e w7 ⟨rfl, m8, rfl⟩
      go_wp2_with fail
      refine (HE1.out m8).mono ?_
      rintro e w7 ⟨rfl, m9, rfl⟩
      go_wp2_with fail
      refine (HE2.out m9).mono ?_
      rintro e w7 ⟨rfl, hB7, bel7⟩
      have HB7 : Hid (Rd2 a ca l w.heap.size w7 b g A2) := hB7
      clear hB7 HL1 HL2 HE1 HE2 ep eq
      go_wp2
      go_roundw
      case rel => exact ⟨k + 1, A2, by omega, by go_num, HB7.out, bel7⟩
      case measure => simp [intOf]; omega
    · have hca2 : ¬ k < ws.length ∨ (k < ws.length ∧ ¬ k < ns.length) ∨ (k < ws.length ∧ k < ns.length ∧ ¬ k < 200) := by omega
      obtain ⟨E, hE⟩ : ∃ E, E = endP l at_ := ⟨_, rfl⟩
      have HE1 : Hid (Calls Try.prog 24 #[.pointer (some ⟨b, 0, none⟩)] wr fun e w' => e = .returned (.int .i64 (E : Int)) ∧ ∃ m, w' = wr.drewN m) := by rw [hE]; exact rdend_ok l wr b at_ F hm (by omega) hat
      have HE2 : Hid (∀ m, Calls Try.prog 25 #[.pointer (some ⟨g, 0, none⟩)] (wr.drewN m) fun e w' => e = .returned (.int .i64 (E : Int)) ∧ Below w.heap.size w w') := fun m => by
        rw [hE]
        have hbm : Below w.heap.size w (wr.drewN m) := below_drewN bel m
        refine (rend_any a ca l (wr.drewN m) g at_ G ((rr_kept a ca l).keep hn (fun _ _ => rfl)) (HS.out.below hbm) (fun bb off he hne => by have h2 := HXB.out bb off he hne; have := hbm.size; omega) (by omega) hat).mono ?_
        rintro e w' ⟨rfl, hb⟩
        exact ⟨rfl, bel.trans (Below.mono ⟨hb.os, hb.tape, hb.output, hb.size, hb.block⟩ bel.size)⟩
      clear hm hn hFG hF hG hall hE
      rcases hca2 with hca2 | ⟨k1, hca2⟩ | ⟨k1, k2, hca2⟩
      all_goals
        go_wp2_with fail
        refine HE1.out.mono ?_
        rintro e w7 ⟨rfl, m7, rfl⟩
        go_wp2_with fail
        refine (HE2.out m7).mono ?_
        rintro e w8 ⟨rfl, bel8⟩
        have haw := HAW w8
        clear HE1 HE2
        go_wp2_with fail
        refine haw.mono ?_
        rintro e w9 ⟨rfl, hb9⟩
        clear haw
        go_wp2
        go_ret
        exact ⟨rfl, bel8.trans (hb9.mono bel8.size)⟩
end Go.Proofs.Ytapfcgklocflfaa
