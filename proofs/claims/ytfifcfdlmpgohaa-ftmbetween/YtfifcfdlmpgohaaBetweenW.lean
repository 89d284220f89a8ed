/-
  The law: the middle lies between the good ones. The program's contracts are a premise here.
-/
import Derived.Test.YtfifcfdlmpgohaaFtmN
namespace Go.Proofs.Ytfifcfdlmpgohaa
open Go.ChangeShapes Go.WideShapes Go.ChangeAt Go.RowKit
set_option maxRecDepth 20000

/-- Two lists, one behind the other, laid anew. -/
theorem two_lists (W : World) (a2 : Option Addr) (c2 : Nat) (B : List Int) (a1 : Option Addr) (c1 : Nat) (G : List Int) (hl : B.length + G.length ≤ 900) (s2 : LsO W a2 B) (s1 : LsO W a1 G) :
    ∃ q k V q' k' V', (Builtin.append_ #[22, 22] 22 #[.slice (some ⟨W.heap.size, 0, none⟩) 0 0, .slice a2 B.length c2]).run Try.prog (W.alloc (.cells #[] 2)) = .ok (.slice q B.length k) V ∧
      (Builtin.append_ #[22, 22] 22 #[.slice q B.length k, .slice a1 G.length c1]).run Try.prog V = .ok (.slice q' (B ++ G).length k') V' ∧ LsO V' q' (B ++ G) ∧ (B ++ G).length ≤ k' ∧ Below W.heap.size W V' := by
  have hb0 := Go.Joins.below_alloc1 W (.cells #[] 2)
  obtain ⟨q, k, V, run1, r1, b1, o1, _⟩ := row_tailL (w := W) (Row.empty W) (ts := B) (by simp; omega) hb0 (fun p hp => by cases hp; exact Nat.le_refl _) a2 c2 (s2.below hb0)
  rw [List.nil_append] at run1 r1 o1
  obtain ⟨q', k', V', run2, r2, b2, _, _⟩ := row_tailL (w := W) r1 (ts := G) (by omega) b1 o1 a1 c1 (s1.below b1)
  exact ⟨q, k, V, q', k', V', run1, run2, r2.lsO, r2.fits, b2⟩

set_option maxHeartbeats 8000000 in
theorem between_walk (H : FtmP) (a1 : Option Addr) (c1 : Nat) (G : List Int) (a2 : Option Addr) (c2 : Nat) (B : List Int) (w : World) (s1 : Nums .i64 w a1 c1 G) (s2 : Nums .i64 w a2 c2 B) :
    Calls Try.prog 4 #[.slice a1 G.length c1, .slice a2 B.length c2] w fun e w' => e = .returned (.bool true) ∧ Below w.heap.size w w' := by
  have l1 := s1.len
  have l2 := s2.len
  have HS : Hid (LsO w a1 G ∧ LsO w a2 B) := ⟨Nums.lsO s1, Nums.lsO s2⟩
  have KA : Hid (∀ W, Below w.heap.size w W → Calls Try.prog 7 #[] W fun e w' => e = .returned (.bool true) ∧ Below w.heap.size w w') := fun W hW => (awake_ok H W).mono fun _ _ ⟨h1, h2⟩ => ⟨h1, hW.trans (h2.mono hW.size)⟩
  clear s1 s2
  by_cases g1 : (G.length : Int) ≤ (B.length : Int)
  · have ka := KA.out w (Below.refl _ _)
    clear KA HS
    go_enter Try.func4, Try.ntmps4
    go_wp2_with fail
    refine ka.mono ?_
    rintro e wa ⟨rfl, hb⟩
    have HB : Hid (Below w.heap.size w wa) := hb
    clear hb ka
    go_wp2
    go_ret
    exact ⟨rfl, HB.out⟩
  · by_cases g2 : (100 : Int) < (G.length : Int)
    · have ka := KA.out w (Below.refl _ _)
      clear KA HS
      go_enter Try.func4, Try.ntmps4
      go_wp2_with fail
      refine ka.mono ?_
      rintro e wa ⟨rfl, hb⟩
      have HB : Hid (Below w.heap.size w wa) := hb
      clear hb ka
      go_wp2
      go_ret
      exact ⟨rfl, HB.out⟩
    · have g3 : ¬ (G.length : Int) = 0 := by omega
      obtain ⟨q, k, V, q', k', V', run1, run2, hls, hfc, hbv⟩ := two_lists w a2 c2 B a1 c1 G (by omega) HS.out.2 HS.out.1
      have K := H.mid V' q' k' (B ++ G) (B.length : Int) (by rw [List.length_append]; omega) hfc hls
      have HG : Hid (G.length ≤ 100 ∧ B.length < G.length) := ⟨by omega, by omega⟩
      have hm : ∀ lo hi : Int, (∀ z ∈ G, lo ≤ z ∧ z ≤ hi) → trE (B ++ G) (B.length : Int) = 0 → lo ≤ miV (B ++ G) (B.length : Int) ∧ miV (B ++ G) (B.length : Int) ≤ hi := fun lo hi h he => mi_between h HG.out.2 he
      have hm0 : ¬ trE (B ++ G) (B.length : Int) = 0 → trE (B ++ G) (B.length : Int) = 1 ∧ miV (B ++ G) (B.length : Int) = 0 := fun he => by
        refine ⟨?_, miV_bad he⟩
        rcases trE_cases (B ++ G) (B.length : Int) with ⟨h, _⟩ | ⟨h, _, _, h2⟩ | ⟨h, _⟩
        · exact h
        · rw [List.length_append] at h2; have := HG.out.2; omega
        · exact absurd h he
      have HM : Hid ((∀ lo hi : Int, (∀ z ∈ G, lo ≤ z ∧ z ≤ hi) → trE (B ++ G) (B.length : Int) = 0 → lo ≤ miV (B ++ G) (B.length : Int) ∧ miV (B ++ G) (B.length : Int) ≤ hi) ∧ (¬ trE (B ++ G) (B.length : Int) = 0 → trE (B ++ G) (B.length : Int) = 1 ∧ miV (B ++ G) (B.length : Int) = 0)) := ⟨hm, hm0⟩
      clear hm hm0 hls hfc
      generalize trE (B ++ G) (B.length : Int) = E at *
      generalize miV (B ++ G) (B.length : Int) = M at *
      obtain ⟨N, hN⟩ : ∃ N, N = (B ++ G).length := ⟨_, rfl⟩
      rw [← hN] at run2 K
      have R1 : Hid ((Builtin.append_ #[22, 22] 22 #[.slice (some ⟨w.heap.size, 0, none⟩) 0 0, .slice a2 B.length c2]).run Try.prog (w.alloc (.cells #[] 2)) = .ok (.slice q B.length k) V) := run1
      have R2 : Hid ((Builtin.append_ #[22, 22] 22 #[.slice q B.length k, .slice a1 G.length c1]).run Try.prog V = .ok (.slice q' N k') V') := run2
      have HV : Hid (Below w.heap.size w V') := hbv
      obtain ⟨x0, hx0⟩ : ∃ y, G[0]? = some y := ⟨_, List.getElem?_eq_getElem (by omega)⟩
      obtain ⟨b, o, rfl, cx⟩ := HS.out.1 0 x0 hx0
      have HX : Hid (∀ j y, G[j]? = some y → ∀ W, Below w.heap.size w W → W.cell? ⟨b, o + j, none⟩ = some (.int .i64 y)) := fun j y hy W hW => by
        obtain ⟨b', o', e, hc⟩ := (HS.out.1.below hW) j y hy
        cases e; exact hc
      have gp : (0 : Int) < (G.length : Int) := by omega
      clear run1 run2 hbv hN l1 l2 cx HS hx0
      by_cases hE : E = 0
      · subst hE
        go_enter Try.func4, Try.ntmps4
        go_wp2_with (first | (refine wpList_mk_run rfl 22 0 _ rfl [] _ rfl (mk_empty _) ?_) | (at_builtin; first | (refine wpList_append_run rfl (.tmp 29) (.tmp 30) 22 rfl _ _ _ rfl rfl R1.out ?_) | (refine wpList_append_run rfl (.tmp 31) (.tmp 32) 22 rfl _ _ _ rfl rfl R2.out ?_)) | fail)
        refine K.mono ?_
        rintro e w2 ⟨rfl, hb⟩
        have HB : Hid (Below w.heap.size w w2) := HV.out.trans (hb.mono HV.out.size)
        obtain ⟨x1, hx1⟩ : ∃ y, G[0]? = some y := ⟨_, List.getElem?_eq_getElem (by omega)⟩
        have cx := HX.out 0 x1 hx1 w2 HB.out
        rw [Nat.add_zero] at cx
        have HX1 : Hid (G[0]? = some x1) := hx1
        clear K hb R1 R2 HV hx1
        go_wp2
        go_loopw [9, 10, 11] (fun u v i wr => ∃ (j : Nat) (lo hi : Int), j ≤ G.length ∧ u = .int .i64 lo ∧ v = .int .i64 hi ∧ i = .int .i64 (j : Int) ∧ (∀ t, t < j → ∀ y, G[t]? = some y → lo ≤ y ∧ y ≤ hi) ∧ Below w.heap.size w wr) (fun _ _ i _ => G.length - (intOf i).toNat)
        case atStart => exact ⟨0, x1, x1, Nat.zero_le _, rfl, rfl, rfl, (fun t ht => absurd ht (Nat.not_lt_zero _)), HB.out⟩
        case round =>
          obtain ⟨j, lo, hi, hj, rfl, rfl, rfl, hall, hb⟩ := hrel
          have gj : (0 : Int) ≤ (j : Int) := Int.natCast_nonneg _
          by_cases hlt : (j : Int) < (G.length : Int)
          · obtain ⟨y, hy⟩ : ∃ y, G[j]? = some y := ⟨_, List.getElem?_eq_getElem (by omega)⟩
            have cy := HX.out j y hy wr hb
            have e9 : IntKind.i64.wrap ((j : Int) + 1) = ((j + 1 : Nat) : Int) := by have := HG.out.1; rw [wrap_in (by omega) (by omega)]; omega
            obtain ⟨lo2, h2⟩ : ∃ z, z = (if y < lo then y else lo) := ⟨_, rfl⟩
            obtain ⟨hi2, h3⟩ : ∃ z, z = (if hi < y then y else hi) := ⟨_, rfl⟩
            have HJ : Hid (j < G.length ∧ (∀ t, t < j + 1 → ∀ y, G[t]? = some y → lo2 ≤ y ∧ y ≤ hi2) ∧ Below w.heap.size w wr) := by
              refine ⟨by omega, fun t ht z hz => ?_, hb⟩
              have a3 : lo2 ≤ lo ∧ lo2 ≤ y := by rw [h2]; split <;> omega
              have a4 : hi ≤ hi2 ∧ y ≤ hi2 := by rw [h3]; split <;> omega
              rcases Nat.lt_or_ge t j with h | h
              · have := hall t h z hz; omega
              · have : t = j := by omega
                subst this; rw [hy] at hz; cases hz; omega
            have e2 := h2.symm
            have e3 := h3.symm
            clear hy hb hall h2 h3 hj cx
            go_wp2
            go_roundw
            case rel => exact ⟨j + 1, lo2, hi2, HJ.out.1, rfl, rfl, rfl, HJ.out.2.1, HJ.out.2.2⟩
            case measure => have := HJ.out.1; simp [intOf]; omega
          · have hgood : ∀ z ∈ G, lo ≤ z ∧ z ≤ hi := fun z hz => by
              obtain ⟨t, ht⟩ := List.getElem?_of_mem hz
              have := (List.getElem?_eq_some_iff.1 ht).1
              exact hall t (by omega) z ht
            obtain ⟨f1, f2⟩ := HM.out.1 lo hi hgood (by trivial)
            have ka := KA.out wr hb
            clear hall hb hj cx hgood HM KA
            go_wp2_with fail
            refine ka.mono ?_
            rintro e wa ⟨rfl, hb⟩
            have HB2 : Hid (Below w.heap.size w wa) := hb
            clear hb ka
            go_wp2
            go_ret
            exact ⟨rfl, HB2.out⟩
      · obtain ⟨rfl, rfl⟩ := HM.out.2 hE
        clear hE HM
        go_enter Try.func4, Try.ntmps4
        go_wp2_with (first | (refine wpList_mk_run rfl 22 0 _ rfl [] _ rfl (mk_empty _) ?_) | (at_builtin; first | (refine wpList_append_run rfl (.tmp 29) (.tmp 30) 22 rfl _ _ _ rfl rfl R1.out ?_) | (refine wpList_append_run rfl (.tmp 31) (.tmp 32) 22 rfl _ _ _ rfl rfl R2.out ?_)) | fail)
        refine K.mono ?_
        rintro e w2 ⟨rfl, hb⟩
        have ka := KA.out w2 (HV.out.trans (hb.mono HV.out.size))
        clear K hb R1 R2 HV KA
        go_wp2_with fail
        refine ka.mono ?_
        rintro e wa ⟨rfl, hb⟩
        have HB2 : Hid (Below w.heap.size w wa) := hb
        clear hb ka
        go_wp2
        go_ret
        exact ⟨rfl, HB2.out⟩
end Go.Proofs.Ytfifcfdlmpgohaa
