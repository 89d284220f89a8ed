/-
  The walk of GuardOnce.
-/
import Derived.Test.YtmionehafekokaaGrdD
import Derived.Test.YtmionehafekokaaNums
namespace Go.Proofs.Ytmionehafekokaa
open Go.ChangeShapes Go.WideShapes Go.ChangeAt Go.RowKit

/-- Behind some Datas: its config and its node are what they were; the last round is told. -/
structure Once (c : Cf) (i last : Int) (v : Gs) : Prop where
  ec : v.c = c
  ei : v.i = i
  el : v.last = last
theorem once_new (c : Cf) (i : Int) : Once c i (-1) (newG c i) := ⟨rfl, rfl, rfl⟩
theorem Once.data {c : Cf} {i last : Int} {v : Gs} (h : Once c i last v) (t : Int) : ((dataE v t == 0) = false ∧ Once c i last (dataV v t)) ∨
    (dataE v t = 0 ∧ dataR v t = rdN c t ∧ placeB c t = true ∧ slN c t = i ∧ ¬ rdN c t ≤ last ∧ Once c i (rdN c t) (dataV v t)) := by
  have hc := h.ec
  have hi := h.ei
  have hl := h.el
  by_cases e : dataE v t = 0
  · right
    have e1 : dataR v t = rdN c t := by rw [dataR, if_pos e, hc]
    have e2 : dataV v t = { v with last := rdN v.c t } := by rw [dataV, if_pos e]
    rw [dataE, hc, hi, hl] at e
    split at e
    case isFalse => omega
    rename_i hp
    split at e
    case isFalse => omega
    rename_i hs
    split at e
    case isTrue => omega
    rename_i hn
    exact ⟨by rw [dataE, hc, hi, hl, if_pos hp, if_pos hs, if_neg hn], e1, hp, hs, fun h => hn (.inl h), by rw [e2]; exact ⟨hc, hi, by simp only [hc]⟩⟩
  · left
    have e2 : dataV v t = v := by rw [dataV, if_neg e]
    rw [e2]
    exact ⟨by simpa using e, h⟩

set_option maxHeartbeats 4000000 in
set_option maxRecDepth 20000 in
theorem once_walk (c : Cf) (i : Int) (a2 : Option Addr) (c2 : Nat) (tl : List Int) (w : World) (_w1 : (Lit.int .i64 i).wf = true) (s2 : Nums .i64 w a2 c2 tl) :
    Calls Try.prog 4 #[.agg (cfC c), .int .i64 i, .slice a2 tl.length c2] w fun e w' => e = .returned (.bool true) ∧ Below w.heap.size w w' := by
  have HT : Hid (Nums .i64 w a2 c2 tl) := s2
  have lt := s2.len
  clear s2
  have H0 : Hid (Cfg w w.heap.size c (w.alloc (.cells (cfC c) 23))) := Cfg.new w c
  have HL : Hid ((Instr.loadAt 23 (.pointer (some ⟨w.heap.size, 0, none⟩))).run Try.prog (w.alloc (.cells (cfC c) 23)) = .ok (.agg (cfC c)) (w.alloc (.cells (cfC c) 23))) := H0.out.own.loads
  have KA : Hid (∀ W, Below w.heap.size w W → Calls Try.prog 9 #[] W fun e w' => e = .returned (.bool true) ∧ Below w.heap.size w w') := fun W hW => (awake_ok W).mono fun _ _ ⟨h1, h2⟩ => ⟨h1, hW.trans (h2.mono hW.size)⟩
  cases hn : nodeB c i
  · have K1 := new_no (w.alloc (.cells (cfC c) 23)) c i hn
    clear hn HT
    go_enter Try.func4, Try.ntmps4
    go_wp2_with (first | (refine wpList_gload_run rfl 23 _ rfl _ _ rfl HL.out ?_) | fail)
    refine K1.mono ?_
    rintro e w1 ⟨rfl, hb⟩
    have ka := KA.out w1 (H0.out.step hb).bel
    clear K1 HL H0 hb KA
    go_wp2_with fail
    refine ka.mono ?_
    rintro e w2 ⟨rfl, hb⟩
    have HB : Hid (Below w.heap.size w w2) := hb
    clear ka hb
    go_wp2
    go_ret
    exact ⟨rfl, HB.out⟩
  have K1 := solo_new (w.alloc (.cells (cfC c) 23)) (w.alloc (.cells (cfC c) 23)) (Below.refl _ _) c i hn
  clear hn
  go_enter Try.func4, Try.ntmps4
  go_wp2_with (first | (refine wpList_gload_run rfl 23 _ rfl _ _ rfl HL.out ?_) | fail)
  refine K1.mono ?_
  rintro e wa ⟨g, rfl, ha⟩
  have HS : Hid (Solo (w.alloc (.cells (cfC c) 23)) wa g (newG c i) 0) := ha
  clear K1 HL ha
  go_wp2
  go_loopw [9, 10] (fun u z wr => ∃ (k : Nat) (v : Gs) (y : Int), k ≤ 200 ∧ u = .int .i64 y ∧ z = .int .i64 (k : Int) ∧ Once c i y v ∧ Solo (w.alloc (.cells (cfC c) 23)) wr g v 0) (fun _ z _ => 200 - (intOf z).toNat)
  case atStart => exact ⟨0, _, -1, by omega, rfl, rfl, once_new c i, HS.out⟩
  case round =>
    obtain ⟨k, v, y, hk, rfl, rfl, ho, hs⟩ := hrel
    clear HS
    have g0 : (0 : Int) ≤ (k : Int) := Int.natCast_nonneg _
    by_cases hall : k < tl.length ∧ k < 200
    · obtain ⟨k2, k3⟩ := hall
      obtain ⟨z, hz⟩ : ∃ z, tl[k]? = some z := ⟨tl[k], by simp [k2]⟩
      obtain ⟨nb, no, rfl, cz⟩ := HT.out.get hz
      have HCZ : Hid (∀ W, Below w.heap.size w W → W.cell? ⟨nb, no + k, none⟩ = some (.int .i64 z)) := fun W hW => by rw [hW.cell (p := ⟨nb, no + k, none⟩) (World.block_lt_of_cell? w _ cz)]; exact cz
      have t2 : decide ((k : Int) < (tl.length : Int)) = true := by simp; omega
      have t3 : decide ((k : Int) < 200) = true := by simp; omega
      have i2 : (k : Int) < (tl.length : Int) := by omega
      have H1 : Hid (Cfg w w.heap.size c wr) := H0.out.step hs.low
      have cz1 := HCZ.out wr H1.out.bel
      have kd := hs.data z
      clear hz cz hs
      rcases ho.data z with ⟨e0, ho2⟩ | ⟨e0, e1, hp, hsl, hlt, ho2⟩
      · obtain ⟨E, hE⟩ : ∃ E, E = dataE v z := ⟨_, rfl⟩
        obtain ⟨R, hR⟩ : ∃ R, R = dataR v z := ⟨_, rfl⟩
        obtain ⟨v3, hv3⟩ : ∃ v3, v3 = dataV v z := ⟨_, rfl⟩
        rw [← hE] at kd e0
        rw [← hR, ← hv3] at kd
        rw [← hv3] at ho2
        have HO : Hid (Once c i y v3) := ho2
        clear hE hR hv3 ho ho2 H1 HCZ
        go_wp2_with fail
        refine kd.mono ?_
        rintro e wb ⟨rfl, hb⟩
        have HSb : Hid (Solo (w.alloc (.cells (cfC c) 23)) wb g v3 0) := hb
        clear kd hb cz1
        go_wp2
        go_roundw
        case rel => exact ⟨k + 1, v3, y, by omega, rfl, by go_num, HO.out, HSb.out⟩
        case measure => simp [intOf]; omega
      · have KP : Hid (∀ W, Calls Try.prog 17 #[.agg (cfC c), .int .i64 z] W fun e w' => e = .returned (.tuple #[.agg #[.int .i64 (rdN c z), .int .i64 (slN c z), .int .i64 (z % c.s)], .int .i64 0]) ∧ Below W.heap.size W w') := fun W => by
          have := place_ok W c z
          rw [placeV, if_pos hp] at this
          exact this
        rw [e0, e1] at kd
        rw [hsl] at KP
        obtain ⟨v3, hv3⟩ : ∃ v3, v3 = dataV v z := ⟨_, rfl⟩
        rw [← hv3] at kd ho2
        have HO : Hid (Once c i (rdN c z) v3) := ho2
        clear e0 e1 hp hsl hv3 ho ho2 H1
        generalize rdN c z = R at *
        generalize z % c.s = q3 at *
        go_wp2_with fail
        refine kd.mono ?_
        rintro e wb ⟨rfl, hb⟩
        have H1 : Hid (Cfg w w.heap.size c wb ∧ Solo (w.alloc (.cells (cfC c) 23)) wb g v3 0) := ⟨H0.out.step hb.low, hb⟩
        clear kd hb cz1
        have cz1 := HCZ.out wb H1.out.1.bel
        have HF : Hid (∀ V, Below wb.heap.size wb V → (V.cell? ⟨nb, no + k, none⟩ = some (.int .i64 z) ∧ V.cell? ⟨w.heap.size, 0, none⟩ = some (.int .i64 c.n) ∧ V.cell? ⟨w.heap.size, 1, none⟩ = some (.int .i64 c.f) ∧ V.cell? ⟨w.heap.size, 2, none⟩ = some (.int .i64 c.s) ∧ V.cell? ⟨w.heap.size, 3, none⟩ = some (.int .i64 c.d) ∧ V.cell? ⟨w.heap.size, 4, none⟩ = some (.int .i64 c.k) ∧ V.cell? ⟨w.heap.size, 5, none⟩ = some (.int .i64 c.e) ∧ V.cell? ⟨w.heap.size, 6, none⟩ = some (.int .i64 c.v) ∧ V.cell? ⟨w.heap.size, 7, none⟩ = some (.int .i64 c.r) ∧ V.cell? ⟨w.heap.size, 8, none⟩ = some (.int .i64 c.l) ∧ V.cell? ⟨w.heap.size, 9, none⟩ = some (.int .i64 c.p)) ∧ Below wb.heap.size wb V) := fun V hV => by
          have hc := (H1.out.1.own.below hV)
          exact ⟨⟨by rw [hV.cell (p := ⟨nb, no + k, none⟩) (World.block_lt_of_cell? wb _ cz1)]; exact cz1, hc.c0, hc.c1, hc.c2, hc.c3, hc.c4, hc.c5, hc.c6, hc.c7, hc.c8, hc.c9⟩, hV⟩
        clear cz1 HCZ
        go_upto_region 10 with fail
        refine wp_region_noPanic ?_
        refine wp_region_held (S := fun V => (V.cell? ⟨nb, no + k, none⟩ = some (.int .i64 z) ∧ V.cell? ⟨w.heap.size, 0, none⟩ = some (.int .i64 c.n) ∧ V.cell? ⟨w.heap.size, 1, none⟩ = some (.int .i64 c.f) ∧ V.cell? ⟨w.heap.size, 2, none⟩ = some (.int .i64 c.s) ∧ V.cell? ⟨w.heap.size, 3, none⟩ = some (.int .i64 c.d) ∧ V.cell? ⟨w.heap.size, 4, none⟩ = some (.int .i64 c.k) ∧ V.cell? ⟨w.heap.size, 5, none⟩ = some (.int .i64 c.e) ∧ V.cell? ⟨w.heap.size, 6, none⟩ = some (.int .i64 c.v) ∧ V.cell? ⟨w.heap.size, 7, none⟩ = some (.int .i64 c.r) ∧ V.cell? ⟨w.heap.size, 8, none⟩ = some (.int .i64 c.l) ∧ V.cell? ⟨w.heap.size, 9, none⟩ = some (.int .i64 c.p)) ∧ Below wb.heap.size wb V) (by kernel_rfl) ?_
        have hS := HF.out wb.drew (Below.refl _ _).drew
        refine any_take 0 ?vr10n1 rfl (by kernel_rfl) (by kernel_rfl) (by kernel_rfl) (fun _ _ _ h => h) (by rfl) ?hr10n1 hS ?_
        case hr10n1 => (intro w hSw; (try dsimp only at hSw); go_split_ands; go_simp; (try with_reducible rfl))
        (try simp only [Act.put, List.setIfInBounds_toArray, List.set_cons_zero, List.set_cons_succ])
        refine any_take 1 ?vr10n2 rfl (by kernel_rfl) (by kernel_rfl) (by kernel_rfl) (fun _ _ _ h => h) (by rfl) ?hr10n2 hS ?_
        case hr10n2 => (intro w hSw; (try dsimp only at hSw); go_split_ands; go_simp; (try with_reducible rfl))
        (try simp only [Act.put, List.setIfInBounds_toArray, List.set_cons_zero, List.set_cons_succ])
        refine any_take 2 ?vr10n3 rfl (by kernel_rfl) (by kernel_rfl) (by kernel_rfl) (fun _ _ _ h => h) (by rfl) ?hr10n3 hS ?_
        case hr10n3 => (intro w hSw; (try dsimp only at hSw); go_split_ands; go_simp; (try with_reducible rfl))
        (try simp only [Act.put, List.setIfInBounds_toArray, List.set_cons_zero, List.set_cons_succ])
        refine any_take 3 ?vr10n4 rfl (by kernel_rfl) (by kernel_rfl) (by kernel_rfl) (fun _ _ _ h => h) (by rfl) ?hr10n4 hS ?_
        case hr10n4 => (intro w hSw; (try dsimp only at hSw); go_split_ands; go_simp; (try with_reducible rfl))
        (try simp only [Act.put, List.setIfInBounds_toArray, List.set_cons_zero, List.set_cons_succ])
        refine any_take 4 ?vr10n5 rfl (by kernel_rfl) (by kernel_rfl) (by kernel_rfl) (fun _ _ _ h => h) (by rfl) ?hr10n5 hS ?_
        case hr10n5 => (intro w hSw; (try dsimp only at hSw); go_split_ands; go_simp; (try with_reducible rfl))
        (try simp only [Act.put, List.setIfInBounds_toArray, List.set_cons_zero, List.set_cons_succ])
        refine any_two 5 9 rfl rfl (by kernel_rfl) (by rfl) (by rfl) (fun K hK => ?_) (fun K hK => ?_)
        · have hSS : _ ∧ Below wb.heap.size wb _ := hS
          clear hS
          go_simp
          refine (KP.out _).mono ?_
          rintro e wc ⟨rfl, hbc⟩
          have hBc := hSS.2.trans (hbc.mono hSS.2.size)
          refine hK.out _ _ (HF.out _ hBc) (fun hS => ?_)
          clear hK
          (try simp only [Act.put, List.setIfInBounds_toArray, List.set_cons_zero, List.set_cons_succ])
          refine any_take 6 ?vr10n6 rfl (by kernel_rfl) (by kernel_rfl) (by kernel_rfl) (fun _ _ _ h => h) (by rfl) ?hr10n6 hS ?_
          case hr10n6 => (intro w hSw; (try dsimp only at hSw); go_split_ands; go_simp; (try with_reducible rfl))
          (try simp only [Act.put, List.setIfInBounds_toArray, List.set_cons_zero, List.set_cons_succ])
          refine any_take 7 ?vr10n7 rfl (by kernel_rfl) (by kernel_rfl) (by kernel_rfl) (fun _ _ _ h => h) (by rfl) ?hr10n7 hS ?_
          case hr10n7 => (intro w hSw; (try dsimp only at hSw); go_split_ands; go_simp; (try with_reducible rfl))
          (try simp only [Act.put, List.setIfInBounds_toArray, List.set_cons_zero, List.set_cons_succ])
          refine any_take 8 ?vr10n8 rfl (by kernel_rfl) (by kernel_rfl) (by kernel_rfl) (fun _ _ _ h => h) (by rfl) ?hr10n8 hS ?_
          case hr10n8 => (intro w hSw; (try dsimp only at hSw); go_split_ands; go_simp; (try with_reducible rfl))
          (try simp only [Act.put, List.setIfInBounds_toArray, List.set_cons_zero, List.set_cons_succ])
          refine any_one 9 rfl (by kernel_rfl) (by rfl) (fun K hK => ?_)
          have hSS : _ ∧ Below wb.heap.size wb _ := hS
          clear hS
          go_simp
          refine hK.out _ _ (HF.out _ (hSS.2.alloc hSS.2.size _)) (fun hS => ?_)
          clear hK
          (try simp only [Act.put, List.setIfInBounds_toArray, List.set_cons_zero, List.set_cons_succ])
          refine any_one 10 rfl (by kernel_rfl) (by rfl) (fun K hK => ?_)
          clear hS
          go_simp
          refine hK.out _ _ (HF.out _ (hBc.alloc hBc.size _)) (fun hS => ?_)
          clear hK
          (try simp only [Act.put, List.setIfInBounds_toArray, List.set_cons_zero, List.set_cons_succ])
          refine any_take 11 ?vr10n9 rfl (by kernel_rfl) (by kernel_rfl) (by kernel_rfl) (fun _ _ _ h => h) (by rfl) ?hr10n9 hS ?_
          case hr10n9 => (intro w hSw; (try dsimp only at hSw); go_split_ands; go_simp; (try with_reducible rfl))
          (try simp only [Act.put, List.setIfInBounds_toArray, List.set_cons_zero, List.set_cons_succ])
          refine wpAnyH_done (by kernel_rfl) ?_ _
          refine NoPanic.normal ?_
          clear hS
          have HSb : Hid (Solo (w.alloc (.cells (cfC c) 23)) (wc.alloc (.cells #[.int .i64 R, .int .i64 i, .int .i64 q3] 47)) g v3 0) := H1.out.2.below (hBc.alloc hBc.size _)
          have hT : Tri (wc.alloc (.cells #[.int .i64 R, .int .i64 i, .int .i64 q3] 47)) wc.heap.size R i q3 := Tri.new wc R i q3
          obtain ⟨p0, p1, p2, r0, r1, r2⟩ := hT.facts
          clear hT HF hbc hBc hSS
          go_wp2
          go_roundw
          case rel => exact ⟨k + 1, v3, R, by omega, rfl, by go_num, HO.out, HSb.out⟩
          case measure => simp [intOf]; omega
        · have hSS : _ ∧ Below wb.heap.size wb _ := hS
          clear hS
          go_simp
          refine hK.out _ _ (HF.out _ (hSS.2.alloc hSS.2.size _)) (fun hS => ?_)
          clear hK
          (try simp only [Act.put, List.setIfInBounds_toArray, List.set_cons_zero, List.set_cons_succ])
          refine any_one 5 rfl (by kernel_rfl) (by rfl) (fun K hK => ?_)
          have hSS : _ ∧ Below wb.heap.size wb _ := hS
          clear hS
          go_simp
          refine (KP.out _).mono ?_
          rintro e wc ⟨rfl, hbc⟩
          have hBc := hSS.2.trans (hbc.mono hSS.2.size)
          refine hK.out _ _ (HF.out _ hBc) (fun hS => ?_)
          clear hK
          (try simp only [Act.put, List.setIfInBounds_toArray, List.set_cons_zero, List.set_cons_succ])
          refine any_take 6 ?vr10n10 rfl (by kernel_rfl) (by kernel_rfl) (by kernel_rfl) (fun _ _ _ h => h) (by rfl) ?hr10n10 hS ?_
          case hr10n10 => (intro w hSw; (try dsimp only at hSw); go_split_ands; go_simp; (try with_reducible rfl))
          (try simp only [Act.put, List.setIfInBounds_toArray, List.set_cons_zero, List.set_cons_succ])
          refine any_take 7 ?vr10n11 rfl (by kernel_rfl) (by kernel_rfl) (by kernel_rfl) (fun _ _ _ h => h) (by rfl) ?hr10n11 hS ?_
          case hr10n11 => (intro w hSw; (try dsimp only at hSw); go_split_ands; go_simp; (try with_reducible rfl))
          (try simp only [Act.put, List.setIfInBounds_toArray, List.set_cons_zero, List.set_cons_succ])
          refine any_take 8 ?vr10n12 rfl (by kernel_rfl) (by kernel_rfl) (by kernel_rfl) (fun _ _ _ h => h) (by rfl) ?hr10n12 hS ?_
          case hr10n12 => (intro w hSw; (try dsimp only at hSw); go_split_ands; go_simp; (try with_reducible rfl))
          (try simp only [Act.put, List.setIfInBounds_toArray, List.set_cons_zero, List.set_cons_succ])
          refine any_one 10 rfl (by kernel_rfl) (by rfl) (fun K hK => ?_)
          clear hS
          have hT0 : Tri wc wb.heap.size 0 0 0 := (Tri.new wb.drew 0 0 0).below hbc
          obtain ⟨t0, t1, t2, f0, f1, f2⟩ := hT0.facts
          go_simp
          refine hK.out _ _ (HF.out _ (below_tri hBc (Nat.le_refl _) _ _ _)) (fun hS => ?_)
          clear hK
          (try simp only [Act.put, List.setIfInBounds_toArray, List.set_cons_zero, List.set_cons_succ])
          refine any_take 11 ?vr10n13 rfl (by kernel_rfl) (by kernel_rfl) (by kernel_rfl) (fun _ _ _ h => h) (by rfl) ?hr10n13 hS ?_
          case hr10n13 => (intro w hSw; (try dsimp only at hSw); go_split_ands; go_simp; (try with_reducible rfl))
          (try simp only [Act.put, List.setIfInBounds_toArray, List.set_cons_zero, List.set_cons_succ])
          refine wpAnyH_done (by kernel_rfl) ?_ _
          refine NoPanic.normal ?_
          clear hS
          have HSb : Hid (Solo (w.alloc (.cells (cfC c) 23)) (((wc.setCell ⟨wb.heap.size, 0, none⟩ (.int .i64 R)).setCell ⟨wb.heap.size, 1, none⟩ (.int .i64 i)).setCell ⟨wb.heap.size, 2, none⟩ (.int .i64 q3)) g v3 0) := H1.out.2.below (below_tri hBc (Nat.le_refl _) _ _ _)
          have hT : Tri (((wc.setCell ⟨wb.heap.size, 0, none⟩ (.int .i64 R)).setCell ⟨wb.heap.size, 1, none⟩ (.int .i64 i)).setCell ⟨wb.heap.size, 2, none⟩ (.int .i64 q3)) wb.heap.size R i q3 := hT0.set R i q3
          obtain ⟨p0, p1, p2, r0, r1, r2⟩ := hT.facts
          clear hT HF hbc hBc hSS hT0 t0 t1 t2 f0 f1 f2
          go_wp2
          go_roundw
          case rel => exact ⟨k + 1, v3, R, by omega, rfl, by go_num, HO.out, HSb.out⟩
          case measure => simp [intOf]; omega
    · by_cases b1 : ¬ (k < tl.length)
      · have f1 : decide ((k : Int) < (tl.length : Int)) = false := by simp; omega
        have HB : Hid (Below w.heap.size w wr) := (H0.out.step hs.low).bel
        have kl := hs.last
        rw [ho.el] at kl
        have ka := KA.out wr HB.out
        clear hall hs ho HT H0 KA
        go_wp2_with fail
        refine kl.mono ?_
        rintro e wr ⟨rfl, rfl⟩
        clear kl
        go_wp2_with fail
        refine ka.mono ?_
        rintro e wc ⟨rfl, hc⟩
        have HC : Hid (Below w.heap.size w wc) := hc
        clear hc ka
        go_wp2
        go_ret
        exact ⟨rfl, HC.out⟩
      · have f1 : decide ((k : Int) < (tl.length : Int)) = true := by simp; omega
        have f2 : decide ((k : Int) < 200) = false := by simp; omega
        have HB : Hid (Below w.heap.size w wr) := (H0.out.step hs.low).bel
        have kl := hs.last
        rw [ho.el] at kl
        have ka := KA.out wr HB.out
        clear hall hs ho HT H0 KA
        go_wp2_with fail
        refine kl.mono ?_
        rintro e wr ⟨rfl, rfl⟩
        clear kl
        go_wp2_with fail
        refine ka.mono ?_
        rintro e wc ⟨rfl, hc⟩
        have HC : Hid (Below w.heap.size w wc) := hc
        clear hc ka
        go_wp2
        go_ret
        exact ⟨rfl, HC.out⟩
end Go.Proofs.Ytmionehafekokaa
