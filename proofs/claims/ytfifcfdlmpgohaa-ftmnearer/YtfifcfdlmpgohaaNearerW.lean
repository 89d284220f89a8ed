/-
  The law: two come nearer. The program's contracts are a premise here.
-/
import Derived.Test.YtfifcfdlmpgohaaBetweenW
namespace Go.Proofs.Ytfifcfdlmpgohaa
open Go.ChangeShapes Go.WideShapes Go.ChangeAt Go.RowKit
set_option maxRecDepth 20000

theorem tr_rng {bad good : List Int} (h : trE (bad ++ good) bad.length = 0) {z : Int} (hz : z ∈ good) : -1099511627776 ≤ z ∧ z ≤ 1099511627776 := by
  rcases trE_cases (bad ++ good) bad.length with ⟨e, _⟩ | ⟨e, _⟩ | ⟨_, _, h2, _⟩
  · rw [h] at e; cases e
  · rw [h] at e; cases e
  · have := List.all_eq_true.1 h2 z (List.mem_append_right _ hz)
    simpa only [isT, MT, decide_eq_true_eq] using this

set_option maxHeartbeats 16000000 in
theorem nearer_walk (H : FtmP) (a1 : Option Addr) (c1 : Nat) (G : List Int) (a2 : Option Addr) (c2 : Nat) (A : List Int) (a3 : Option Addr) (c3 : Nat) (B : List Int) (w : World) (s1 : Nums .i64 w a1 c1 G) (s2 : Nums .i64 w a2 c2 A) (hla : A.length ≤ 140737488351232) (s3 : Nums .i64 w a3 c3 B) :
    Calls Try.prog 5 #[.slice a1 G.length c1, .slice a2 A.length c2, .slice a3 B.length c3] w fun e w' => e = .returned (.bool true) ∧ Below w.heap.size w w' := by
  have l1 := s1.len
  have l3 := s3.len
  have HS : Hid (LsO w a1 G ∧ LsO w a2 A ∧ LsO w a3 B) := ⟨Nums.lsO s1, Nums.lsO s2, Nums.lsO s3⟩
  have KA : Hid (∀ W, Below w.heap.size w W → Calls Try.prog 7 #[] W fun e w' => e = .returned (.bool true) ∧ Below w.heap.size w w') := fun W hW => (awake_ok H W).mono fun _ _ ⟨h1, h2⟩ => ⟨h1, hW.trans (h2.mono hW.size)⟩
  have e7 : IntKind.i64.wrap (2 * (A.length : Int)) = 2 * (A.length : Int) := wrap_in (by omega) (by omega)
  clear s1 s2 s3
  by_cases g0 : (B.length : Int) = (A.length : Int)
  · have hAB : B.length = A.length := by omega
    rw [hAB] at l3 ⊢
    clear g0
    by_cases g1 : (G.length : Int) ≤ 2 * (A.length : Int)
    · have ka := KA.out w (Below.refl _ _)
      clear KA HS hAB
      go_enter Try.func5, Try.ntmps5
      go_wp2_with fail
      refine ka.mono ?_
      rintro e wa ⟨rfl, hb⟩
      have HB : Hid (Below w.heap.size w wa) := hb
      clear hb ka
      go_wp2
      go_ret
      exact ⟨rfl, HB.out⟩
    · by_cases g2 : (100 : Int) < (G.length : Int)
      · have ka := KA.out w (Below.refl _ _)
        clear KA HS hAB
        go_enter Try.func5, Try.ntmps5
        go_wp2_with fail
        refine ka.mono ?_
        rintro e wa ⟨rfl, hb⟩
        have HB : Hid (Below w.heap.size w wa) := hb
        clear hb ka
        go_wp2
        go_ret
        exact ⟨rfl, HB.out⟩
      · have HAB : Hid (B.length = A.length) := hAB
        clear hAB
        have HG : Hid (G.length ≤ 100 ∧ 2 * A.length < G.length ∧ B.length ≤ 100) := ⟨by omega, by omega, by have := HAB.out; omega⟩
        obtain ⟨q, k, V, q', k', V', run1, run2, hls, hfc, hbv⟩ := two_lists w a2 c2 A a1 c1 G (by omega) HS.out.2.1 HS.out.1
        have K1 := H.mid V' q' k' (A ++ G) (A.length : Int) (by rw [List.length_append]; omega) hfc hls
        have KM : Hid (∀ W b c, (B ++ G).length ≤ c → LsO W b (B ++ G) → Calls Try.prog 10 #[.slice b (B ++ G).length c, .int .i64 (A.length : Int)] W fun e w' => e = .returned (.tuple #[.int .i64 (miV (B ++ G) (A.length : Int)), .int .i64 (trE (B ++ G) (A.length : Int))]) ∧ Below W.heap.size W w') := fun W b c hc h => H.mid W b c (B ++ G) (A.length : Int) (by rw [List.length_append]; have := HG.out; omega) hc h
        have hm : ∀ lo hi : Int, (∀ z ∈ G, lo ≤ z ∧ z ≤ hi) → trE (A ++ G) (A.length : Int) = 0 → trE (B ++ G) (A.length : Int) = 0 →
            2 * (miV (A ++ G) (A.length : Int) - miV (B ++ G) (A.length : Int)) ≤ hi - lo + 2 ∧ 2 * (miV (B ++ G) (A.length : Int) - miV (A ++ G) (A.length : Int)) ≤ hi - lo + 2 := fun lo hi h ha hb => by
          have hab := HAB.out
          rw [← hab] at hb ha ⊢
          rw [hab] at ha
          have h1 := mi_nearer (a := A) (b := B) hab.symm h (by have := HG.out; omega) ha hb
          have h2 := mi_nearer (a := B) (b := A) hab h (by have := HG.out; omega) hb ha
          rw [← hab] at h1 h2
          exact ⟨h1, h2⟩
        have hr : trE (A ++ G) (A.length : Int) = 0 → ∀ z ∈ G, -1099511627776 ≤ z ∧ z ≤ 1099511627776 := fun h z hz => tr_rng h hz
        have hb1 := miV_isT (A ++ G) (A.length : Int)
        have hb2 := miV_isT (B ++ G) (A.length : Int)
        generalize trE (A ++ G) (A.length : Int) = E at *
        generalize miV (A ++ G) (A.length : Int) = M at *
        generalize trE (B ++ G) (A.length : Int) = E' at *
        generalize miV (B ++ G) (A.length : Int) = M' at *
        have HM : Hid ((∀ lo hi : Int, (∀ z ∈ G, lo ≤ z ∧ z ≤ hi) → E = 0 → E' = 0 → 2 * (M - M') ≤ hi - lo + 2 ∧ 2 * (M' - M) ≤ hi - lo + 2) ∧ (E = 0 → ∀ z ∈ G, -1099511627776 ≤ z ∧ z ≤ 1099511627776) ∧ (-1099511627776 ≤ M ∧ M ≤ 1099511627776) ∧ -1099511627776 ≤ M' ∧ M' ≤ 1099511627776) := ⟨hm, hr, hb1, hb2⟩
        clear hm hr hb1 hb2 hls hfc
        obtain ⟨N, hN⟩ : ∃ N, N = (A ++ G).length := ⟨_, rfl⟩
        rw [← hN] at run2 K1
        have R1 : Hid ((Builtin.append_ #[22, 22] 22 #[.slice (some ⟨w.heap.size, 0, none⟩) 0 0, .slice a2 A.length c2]).run Try.prog (w.alloc (.cells #[] 2)) = .ok (.slice q A.length k) V) := run1
        have R2 : Hid ((Builtin.append_ #[22, 22] 22 #[.slice q A.length k, .slice a1 G.length c1]).run Try.prog V = .ok (.slice q' N k') V') := run2
        have HV : Hid (Below w.heap.size w V') := hbv
        have HSB : Hid (∀ W, Below w.heap.size w W → LsO W a1 G ∧ LsO W a3 B) := fun W hW => ⟨HS.out.1.below hW, HS.out.2.2.below hW⟩
        have gp : (0 : Int) < (G.length : Int) := by omega
        clear run1 run2 hbv hN l1 l3 hla
        by_cases hE : E = 0 ∧ E' = 0
        · obtain ⟨x0, hx0⟩ : ∃ y, G[0]? = some y := ⟨_, List.getElem?_eq_getElem (by omega)⟩
          obtain ⟨b, o, rfl, cx⟩ := HS.out.1 0 x0 hx0
          have HX : Hid (∀ j y, G[j]? = some y → ∀ W, Below w.heap.size w W → W.cell? ⟨b, o + j, none⟩ = some (.int .i64 y)) := fun j y hy W hW => by
            obtain ⟨b', o', e, hc⟩ := (HS.out.1.below hW) j y hy
            cases e; exact hc
          have HX1 : Hid (G[0]? = some x0) := hx0
          obtain ⟨rfl, rfl⟩ := hE
          clear cx hx0 HS
          go_enter Try.func5, Try.ntmps5
          go_wp2_with (first | (refine wpList_mk_run rfl 22 0 _ rfl [] _ rfl (mk_empty _) ?_) | (at_builtin; first | (refine wpList_append_run rfl (.tmp 35) (.tmp 36) 22 rfl _ _ _ rfl rfl R1.out ?_) | (refine wpList_append_run rfl (.tmp 37) (.tmp 38) 22 rfl _ _ _ rfl rfl R2.out ?_)) | fail)
          refine K1.mono ?_
          rintro e w2 ⟨rfl, hb⟩
          have HB : Hid (Below w.heap.size w w2) := HV.out.trans (hb.mono HV.out.size)
          obtain ⟨q, k, V3, q3, k3, V4, run1, run2, hls, hfc, hbv⟩ := two_lists w2 a3 c3 B (some ⟨b, o, none⟩) c1 G (by have := HG.out; omega) (HSB.out w2 HB.out).2 (HSB.out w2 HB.out).1
          have K2 := KM.out V4 q3 k3 hfc hls
          rw [HAB.out] at run1 run2
          obtain ⟨N, hN⟩ : ∃ N, N = (B ++ G).length := ⟨_, rfl⟩
          rw [← hN] at run2 K2
          have R3 : Hid ((Builtin.append_ #[22, 22] 22 #[.slice (some ⟨w2.heap.size, 0, none⟩) 0 0, .slice a3 A.length c3]).run Try.prog (w2.alloc (.cells #[] 2)) = .ok (.slice q A.length k) V3) := run1
          have R4 : Hid ((Builtin.append_ #[22, 22] 22 #[.slice q A.length k, .slice (some ⟨b, o, none⟩) G.length c1]).run Try.prog V3 = .ok (.slice q3 N k3) V4) := run2
          have HV4 : Hid (Below w.heap.size w V4) := HB.out.trans (hbv.mono HB.out.size)
          clear K1 hb R1 R2 HV run1 run2 hls hfc hbv hN KM HSB HB HAB
          go_wp2_with (first | (refine wpList_mk_run rfl 22 0 _ rfl [] _ rfl (mk_empty _) ?_) | (at_builtin; first | (refine wpList_append_run rfl (.tmp 45) (.tmp 46) 22 rfl _ _ _ rfl rfl R3.out ?_) | (refine wpList_append_run rfl (.tmp 47) (.tmp 48) 22 rfl _ _ _ rfl rfl R4.out ?_)) | fail)
          refine K2.mono ?_
          rintro e w4 ⟨rfl, hb⟩
          have HB : Hid (Below w.heap.size w w4) := HV4.out.trans (hb.mono HV4.out.size)
          clear K2 hb R3 R4 HV4
          have cx := HX.out 0 x0 HX1.out w4 HB.out
          rw [Nat.add_zero] at cx
          go_wp2
          go_loopw [12, 13, 14] (fun u v i wr => ∃ (j : Nat) (lo hi : Int), j ≤ G.length ∧ u = .int .i64 lo ∧ v = .int .i64 hi ∧ i = .int .i64 (j : Int) ∧ (∀ t, t < j → ∀ y, G[t]? = some y → lo ≤ y ∧ y ≤ hi) ∧ lo ∈ G ∧ hi ∈ G ∧ Below w.heap.size w wr) (fun _ _ i _ => G.length - (intOf i).toNat)
          case atStart => exact ⟨0, x0, x0, Nat.zero_le _, rfl, rfl, rfl, (fun t ht => absurd ht (Nat.not_lt_zero _)), List.mem_of_getElem? HX1.out, List.mem_of_getElem? HX1.out, HB.out⟩
          case round =>
            obtain ⟨j, lo, hi, hj, rfl, rfl, rfl, hall, hlo, hhi, hb⟩ := hrel
            have gj : (0 : Int) ≤ (j : Int) := Int.natCast_nonneg _
            by_cases hlt : (j : Int) < (G.length : Int)
            · obtain ⟨y, hy⟩ : ∃ y, G[j]? = some y := ⟨_, List.getElem?_eq_getElem (by omega)⟩
              have cy := HX.out j y hy wr hb
              have e9 : IntKind.i64.wrap ((j : Int) + 1) = ((j + 1 : Nat) : Int) := by have := HG.out.1; rw [wrap_in (by omega) (by omega)]; omega
              obtain ⟨lo2, h2⟩ : ∃ z, z = (if y < lo then y else lo) := ⟨_, rfl⟩
              obtain ⟨hi2, h3⟩ : ∃ z, z = (if hi < y then y else hi) := ⟨_, rfl⟩
              have HJ : Hid (j < G.length ∧ (∀ t, t < j + 1 → ∀ y, G[t]? = some y → lo2 ≤ y ∧ y ≤ hi2) ∧ lo2 ∈ G ∧ hi2 ∈ G ∧ Below w.heap.size w wr) := by
                refine ⟨by omega, fun t ht z hz => ?_, ?_, ?_, hb⟩
                · have a3 : lo2 ≤ lo ∧ lo2 ≤ y := by rw [h2]; split <;> omega
                  have a4 : hi ≤ hi2 ∧ y ≤ hi2 := by rw [h3]; split <;> omega
                  rcases Nat.lt_or_ge t j with h | h
                  · have := hall t h z hz; omega
                  · have : t = j := by omega
                    subst this; rw [hy] at hz; cases hz; omega
                · rw [h2]; split
                  · exact List.mem_of_getElem? hy
                  · exact hlo
                · rw [h3]; split
                  · exact List.mem_of_getElem? hy
                  · exact hhi
              have e2 := h2.symm
              have e3 := h3.symm
              clear hy hb hall h2 h3 hj cx hlo hhi
              go_wp2
              go_roundw
              case rel => exact ⟨j + 1, lo2, hi2, HJ.out.1, rfl, rfl, rfl, HJ.out.2.1, HJ.out.2.2.1, HJ.out.2.2.2.1, HJ.out.2.2.2.2⟩
              case measure => have := HJ.out.1; simp [intOf]; omega
            · have hgood : ∀ z ∈ G, lo ≤ z ∧ z ≤ hi := fun z hz => by
                obtain ⟨t, ht⟩ := List.getElem?_of_mem hz
                have := (List.getElem?_eq_some_iff.1 ht).1
                exact hall t (by omega) z ht
              obtain ⟨f1, f2⟩ := HM.out.1 lo hi hgood (by trivial) (by trivial)
              have f3 := HM.out.2.1 (by trivial) lo hlo
              have f4 := HM.out.2.1 (by trivial) hi hhi
              have f5 := HM.out.2.2
              obtain ⟨mx, hmx⟩ : ∃ z, z = (if M < M' then M' else M) := ⟨_, rfl⟩
              obtain ⟨mn, hmn⟩ : ∃ z, z = (if M' < M then M' else M) := ⟨_, rfl⟩
              have f6 : 2 * (mx - mn) ≤ hi - lo + 2 ∧ -1099511627776 ≤ mx ∧ mx ≤ 1099511627776 ∧ -1099511627776 ≤ mn ∧ mn ≤ 1099511627776 := by
                rw [hmx, hmn]; split <;> split <;> omega
              have e1 := hmx.symm
              have e2 := hmn.symm
              have e3 : IntKind.i64.wrap (mx - mn) = mx - mn := wrap_in (by omega) (by omega)
              have e4 : IntKind.i64.wrap (2 * (mx - mn)) = 2 * (mx - mn) := wrap_in (by omega) (by omega)
              have e5 : IntKind.i64.wrap (hi - lo) = hi - lo := wrap_in (by omega) (by omega)
              have e6 : IntKind.i64.wrap (hi - lo + 2) = hi - lo + 2 := wrap_in (by omega) (by omega)
              have f7 := f6.1
              have ka := KA.out wr hb
              clear hall hb hj cx hgood HM KA hlo hhi f1 f2 f3 f4 f5 f6 hmx hmn
              go_wp2_with fail
              refine ka.mono ?_
              rintro e wa ⟨rfl, hb⟩
              have HB2 : Hid (Below w.heap.size w wa) := hb
              clear hb ka
              go_wp2
              go_ret
              exact ⟨rfl, HB2.out⟩
        · have hE2 : E ≠ 0 ∨ E = 0 ∧ E' ≠ 0 := by
            by_cases h : E = 0
            · exact .inr ⟨h, fun h' => hE ⟨h, h'⟩⟩
            · exact .inl h
          clear hE HM HS
          rcases hE2 with hE | ⟨rfl, hE⟩
          · go_enter Try.func5, Try.ntmps5
            go_wp2_with (first | (refine wpList_mk_run rfl 22 0 _ rfl [] _ rfl (mk_empty _) ?_) | (at_builtin; first | (refine wpList_append_run rfl (.tmp 35) (.tmp 36) 22 rfl _ _ _ rfl rfl R1.out ?_) | (refine wpList_append_run rfl (.tmp 37) (.tmp 38) 22 rfl _ _ _ rfl rfl R2.out ?_)) | fail)
            refine K1.mono ?_
            rintro e w2 ⟨rfl, hb⟩
            have HB : Hid (Below w.heap.size w w2) := HV.out.trans (hb.mono HV.out.size)
            obtain ⟨q, k, V3, q3, k3, V4, run1, run2, hls, hfc, hbv⟩ := two_lists w2 a3 c3 B a1 c1 G (by have := HG.out; omega) (HSB.out w2 HB.out).2 (HSB.out w2 HB.out).1
            have K2 := KM.out V4 q3 k3 hfc hls
            rw [HAB.out] at run1 run2
            obtain ⟨N, hN⟩ : ∃ N, N = (B ++ G).length := ⟨_, rfl⟩
            rw [← hN] at run2 K2
            have R3 : Hid ((Builtin.append_ #[22, 22] 22 #[.slice (some ⟨w2.heap.size, 0, none⟩) 0 0, .slice a3 A.length c3]).run Try.prog (w2.alloc (.cells #[] 2)) = .ok (.slice q A.length k) V3) := run1
            have R4 : Hid ((Builtin.append_ #[22, 22] 22 #[.slice q A.length k, .slice a1 G.length c1]).run Try.prog V3 = .ok (.slice q3 N k3) V4) := run2
            have HV4 : Hid (Below w.heap.size w V4) := HB.out.trans (hbv.mono HB.out.size)
            clear K1 hb R1 R2 HV run1 run2 hls hfc hbv hN KM HSB HB HAB
            go_wp2_with (first | (refine wpList_mk_run rfl 22 0 _ rfl [] _ rfl (mk_empty _) ?_) | (at_builtin; first | (refine wpList_append_run rfl (.tmp 45) (.tmp 46) 22 rfl _ _ _ rfl rfl R3.out ?_) | (refine wpList_append_run rfl (.tmp 47) (.tmp 48) 22 rfl _ _ _ rfl rfl R4.out ?_)) | fail)
            refine K2.mono ?_
            rintro e w4 ⟨rfl, hb⟩
            have HB : Hid (Below w.heap.size w w4) := HV4.out.trans (hb.mono HV4.out.size)
            clear K2 hb R3 R4 HV4
            have ka := KA.out w4 HB.out
            clear KA
            go_wp2_with fail
            refine ka.mono ?_
            rintro e wa ⟨rfl, hb⟩
            have HB2 : Hid (Below w.heap.size w wa) := hb
            clear hb ka
            go_wp2
            go_ret
            exact ⟨rfl, HB2.out⟩
          · go_enter Try.func5, Try.ntmps5
            go_wp2_with (first | (refine wpList_mk_run rfl 22 0 _ rfl [] _ rfl (mk_empty _) ?_) | (at_builtin; first | (refine wpList_append_run rfl (.tmp 35) (.tmp 36) 22 rfl _ _ _ rfl rfl R1.out ?_) | (refine wpList_append_run rfl (.tmp 37) (.tmp 38) 22 rfl _ _ _ rfl rfl R2.out ?_)) | fail)
            refine K1.mono ?_
            rintro e w2 ⟨rfl, hb⟩
            have HB : Hid (Below w.heap.size w w2) := HV.out.trans (hb.mono HV.out.size)
            obtain ⟨q, k, V3, q3, k3, V4, run1, run2, hls, hfc, hbv⟩ := two_lists w2 a3 c3 B a1 c1 G (by have := HG.out; omega) (HSB.out w2 HB.out).2 (HSB.out w2 HB.out).1
            have K2 := KM.out V4 q3 k3 hfc hls
            rw [HAB.out] at run1 run2
            obtain ⟨N, hN⟩ : ∃ N, N = (B ++ G).length := ⟨_, rfl⟩
            rw [← hN] at run2 K2
            have R3 : Hid ((Builtin.append_ #[22, 22] 22 #[.slice (some ⟨w2.heap.size, 0, none⟩) 0 0, .slice a3 A.length c3]).run Try.prog (w2.alloc (.cells #[] 2)) = .ok (.slice q A.length k) V3) := run1
            have R4 : Hid ((Builtin.append_ #[22, 22] 22 #[.slice q A.length k, .slice a1 G.length c1]).run Try.prog V3 = .ok (.slice q3 N k3) V4) := run2
            have HV4 : Hid (Below w.heap.size w V4) := HB.out.trans (hbv.mono HB.out.size)
            clear K1 hb R1 R2 HV run1 run2 hls hfc hbv hN KM HSB HB HAB
            go_wp2_with (first | (refine wpList_mk_run rfl 22 0 _ rfl [] _ rfl (mk_empty _) ?_) | (at_builtin; first | (refine wpList_append_run rfl (.tmp 45) (.tmp 46) 22 rfl _ _ _ rfl rfl R3.out ?_) | (refine wpList_append_run rfl (.tmp 47) (.tmp 48) 22 rfl _ _ _ rfl rfl R4.out ?_)) | fail)
            refine K2.mono ?_
            rintro e w4 ⟨rfl, hb⟩
            have HB : Hid (Below w.heap.size w w4) := HV4.out.trans (hb.mono HV4.out.size)
            clear K2 hb R3 R4 HV4
            have ka := KA.out w4 HB.out
            clear KA
            go_wp2_with fail
            refine ka.mono ?_
            rintro e wa ⟨rfl, hb⟩
            have HB2 : Hid (Below w.heap.size w wa) := hb
            clear hb ka
            go_wp2
            go_ret
            exact ⟨rfl, HB2.out⟩
  · have ka := KA.out w (Below.refl _ _)
    clear KA HS
    go_enter Try.func5, Try.ntmps5
    go_wp2_with fail
    refine ka.mono ?_
    rintro e wa ⟨rfl, hb⟩
    have HB : Hid (Below w.heap.size w wa) := hb
    clear hb ka
    go_wp2
    go_ret
    exact ⟨rfl, HB.out⟩
end Go.Proofs.Ytfifcfdlmpgohaa
