/-
  The law: any acts of a table, told as the document tells them.
-/
import Derived.Test.YtoibndfiolipbaaDuoB
import Derived.Test.YtoibndfiolipbaaPairArg
import Derived.Test.YtoibndfiolipbaaIvals
namespace Go.Proofs.Ytoibndfiolipbaa
open Go.ChangeShapes Go.WideShapes Go.ChangeAt Go.RowKit

theorem bounds_u8 {x : Int} (h : (Lit.int .u8 x).wf = true) : 0 ≤ x ∧ x < 256 := by
  simp [Lit.wf, IntKind.min, IntKind.max, IntKind.signed, IntKind.bits] at h; omega
/-- A region whose order is open comes, by whatever order, to one end. -/
theorem wp_join {P : Program} {c : Code} {K : Act → World → Prop} {Q : Exit → Act → World → Prop} {a : Act} {w : World} (Z : Nat → World → Prop) (f : Nat → Act) (h : c.wp P (fun e a' W' => ∃ p, e = .normal ∧ a' = f p ∧ Z p W') a w) (k : ∀ p W', Z p W' → K (f p) W') : c.wp P (Exit.then K Q) a w :=
  wp_mono h (by rintro e a' W' ⟨p, rfl, rfl, hz⟩; exact k p W' hz)

set_option maxHeartbeats 16000000 in
set_option maxRecDepth 20000 in
theorem plays_walk (c : Cf) (i : Int) (a2 : Option Addr) (c2 : Nat) (ks : List Int) (a3 : Option Addr) (c3 : Nat) (fs : List Int) (a4 : Option Addr) (c4 : Nat) (os : List (Int × Int)) (a5 : Option Addr) (c5 : Nat) (ns : List (Int × Int)) (w : World) (_w1 : (Lit.int .i64 i).wf = true)
    (s2 : Nums .u8 w a2 c2 ks) (s3 : Nums .i64 w a3 c3 fs) (s4 : Ivals w a4 c4 os) (s5 : Pairs2 .i64 w a5 c5 ns) :
    Calls Try.prog 3 #[.agg (cfC c), .int .i64 i, .slice a2 ks.length c2, .slice a3 fs.length c3, .slice a4 os.length c4, .slice a5 ns.length c5] w fun e w' => e = .returned (.bool true) ∧ Below w.heap.size w w' := by
  have HS : Hid (Nums .u8 w a2 c2 ks ∧ Nums .i64 w a3 c3 fs ∧ Ivals w a4 c4 os ∧ Pairs2 .i64 w a5 c5 ns) := ⟨s2, s3, s4, s5⟩
  have l2 := s2.len
  have l3 := s3.len
  have l4 := s4.len
  have l5 := s5.len
  clear s2 s3 s4 s5
  obtain ⟨W1, hW1⟩ : ∃ W, W = w.alloc (.cells (cfC c) 23) := ⟨_, rfl⟩
  have H0 : Hid (Cfg w w.heap.size c W1) := by rw [hW1]; exact Cfg.new w c
  have HL : Hid ((Instr.loadAt 23 (.pointer (some ⟨w.heap.size, 0, none⟩))).run Try.prog W1 = .ok (.agg (cfC c)) W1) := H0.out.own.loads
  have KA : Hid (∀ W, Below w.heap.size w W → Calls Try.prog 9 #[] W fun e w' => e = .returned (.bool true) ∧ Below w.heap.size w w') := fun W hW => (awake_ok W).mono fun _ _ ⟨h1, h2⟩ => ⟨h1, hW.trans (h2.mono hW.size)⟩
  cases hn : nodeB c i
  · have kn := new_no W1 c i hn
    have KR : Hid (∀ W, Calls Try.prog 8 #[.agg (cfC c), .int .i64 i] W fun e w' => e = .returned (.tuple #[.pointer none, .int .i64 1]) ∧ Below W.heap.size W w') := fun W => dnew_no W c i hn
    clear hn HS l2 l3 l4 l5
    go_enter Try.func3, Try.ntmps3
    go_upto_region 1 with fail
    rw [← hW1]
    clear hW1
    go_wp2_with (first | (refine wpList_gload_run rfl 23 _ rfl _ _ rfl HL.out ?_) | fail)
    refine kn.mono ?_
    rintro e wa ⟨rfl, hb⟩
    have HC : Hid (Cfg w w.heap.size c wa) := H0.out.step hb
    have HL2 : Hid ((Instr.loadAt 23 (.pointer (some ⟨w.heap.size, 0, none⟩))).run Try.prog wa = .ok (.agg (cfC c)) wa) := HC.out.own.loads
    have kr := KR.out wa
    clear kn HL H0 hb KR
    go_wp2_with (first | (refine wpList_gload_run rfl 23 _ rfl _ _ rfl HL2.out ?_) | fail)
    refine kr.mono ?_
    rintro e wb ⟨rfl, hb⟩
    have ka := KA.out wb (HC.out.step hb).bel
    clear kr HL2 HC hb KA
    go_wp2_with fail
    refine ka.mono ?_
    rintro e wd ⟨rfl, hb⟩
    have HB : Hid (Below w.heap.size w wd) := hb
    clear ka hb
    go_wp2
    go_ret
    exact ⟨rfl, HB.out⟩
  have kn := solo_new W1 W1 (Below.refl _ _) c i hn
  have KR : Hid (∀ W g, Solo W1 W g (newT c i) 0 → Calls Try.prog 8 #[.agg (cfC c), .int .i64 i] W fun e w' => ∃ r, e = .returned (.tuple #[.pointer (some ⟨r, 0, none⟩), .int .i64 0]) ∧ Duo W1 w' g r (newT c i) (newT c i) 0) := fun W g hW => hW.duo c i hn
  clear hn
  go_enter Try.func3, Try.ntmps3
  go_upto_region 1 with fail
  rw [← hW1]
  clear hW1
  go_wp2_with (first | (refine wpList_gload_run rfl 23 _ rfl _ _ rfl HL.out ?_) | fail)
  refine kn.mono ?_
  rintro e wa ⟨g, rfl, ha⟩
  have HC : Hid (Cfg w w.heap.size c wa) := H0.out.step ha.low
  have HL2 : Hid ((Instr.loadAt 23 (.pointer (some ⟨w.heap.size, 0, none⟩))).run Try.prog wa = .ok (.agg (cfC c)) wa) := HC.out.own.loads
  have kr := KR.out wa g ha
  clear kn HL ha KR HC
  go_wp2_with (first | (refine wpList_gload_run rfl 23 _ rfl _ _ rfl HL2.out ?_) | fail)
  refine kr.mono ?_
  rintro e wb ⟨r, rfl, hb⟩
  have HD0 : Hid (Duo W1 wb g r (newT c i) (newT c i) 0) := hb
  have HBL : Hid (∀ W, Below W1.heap.size W1 W → Below w.heap.size w W) := fun W hW => H0.out.bel.trans (hW.mono H0.out.bel.size)
  clear kr hb HL2 H0
  go_wp2
  go_loopw [17] (fun u wr => ∃ (k n : Nat) (v : Bt), k ≤ 60 ∧ n ≤ k ∧ u = .int .i64 (k : Int) ∧ Duo W1 wr g r v v n) (fun u _ => 60 - (intOf u).toNat)
  case atStart => exact ⟨0, 0, _, by omega, by omega, rfl, HD0.out⟩
  case round =>
    obtain ⟨k, n, v, hk, hnk, rfl, hs⟩ := hrel
    clear HD0
    have g0 : (0 : Int) ≤ (k : Int) := Int.natCast_nonneg _
    by_cases hall : k < ks.length ∧ k < fs.length ∧ k < os.length ∧ k < ns.length ∧ k < 60
    · obtain ⟨k1, k2, k3, k4, k5⟩ := hall
      obtain ⟨y, hy⟩ : ∃ y, ks[k]? = some y := ⟨ks[k], by simp [k1]⟩
      obtain ⟨kb, ko, rfl, cy⟩ := HS.out.1.get hy
      obtain ⟨f, hf⟩ : ∃ f, fs[k]? = some f := ⟨fs[k], by simp [k2]⟩
      obtain ⟨fb, fo, rfl, cf⟩ := HS.out.2.1.get hf
      obtain ⟨⟨xa, xb⟩, hx⟩ : ∃ x, os[k]? = some x := ⟨os[k], by simp [k3]⟩
      obtain ⟨ob, oo, rfl, cx0, cx1⟩ := HS.out.2.2.1.get hx
      obtain ⟨⟨t0, t1⟩, ht⟩ : ∃ x, ns[k]? = some x := ⟨ns[k], by simp [k4]⟩
      obtain ⟨nb, no, rfl, ct0, ct1⟩ := HS.out.2.2.2.get ht
      have by1 : 0 ≤ y ∧ y < 256 := bounds_u8 (HS.out.1.wf y (List.mem_of_getElem? hy))
      dsimp only at cx0 cx1 ct0 ct1
      have HC : Hid (∀ W, Below w.heap.size w W → W.cell? ⟨kb, ko + k, none⟩ = some (.int .u8 y) ∧ W.cell? ⟨fb, fo + k, none⟩ = some (.int .i64 f) ∧ W.cell? ⟨ob, oo + k * 2, none⟩ = some (.int .i64 xa) ∧ W.cell? ⟨ob, oo + k * 2 + 1, none⟩ = some (.int .i64 xb) ∧ W.cell? ⟨nb, no + k * 2, none⟩ = some (.int .i64 t0) ∧ W.cell? ⟨nb, no + k * 2 + 1, none⟩ = some (.int .i64 t1)) := fun W hW =>
        ⟨by rw [hW.cell (World.block_lt_of_cell? w _ cy)]; exact cy, by rw [hW.cell (World.block_lt_of_cell? w _ cf)]; exact cf, by rw [hW.cell (World.block_lt_of_cell? w _ cx0)]; exact cx0, by rw [hW.cell (World.block_lt_of_cell? w _ cx1)]; exact cx1, by rw [hW.cell (World.block_lt_of_cell? w _ ct0)]; exact ct0, by rw [hW.cell (World.block_lt_of_cell? w _ ct1)]; exact ct1⟩
      obtain ⟨M, hM⟩ : ∃ M, M = y % 8 := ⟨_, rfl⟩
      have m1 : y.tmod 8 = M := by rw [hM]; exact Int.tmod_eq_emod_of_nonneg by1.1
      have m2 : IntKind.u8.wrap (y % 8) = M := by rw [IntKind.wrap_u8]; omega
      have m3 : IntKind.u8.wrap M = M := by rw [IntKind.wrap_u8]; omega
      have i1 : (k : Int) < (ks.length : Int) := by omega
      have i2 : (k : Int) < (fs.length : Int) := by omega
      have i3 : (k : Int) < (os.length : Int) := by omega
      have i4 : (k : Int) < (ns.length : Int) := by omega
      have i5 : (k : Int) < 60 := by omega
      have e9 : IntKind.i64.wrap ((k : Int) + 1) = ((k + 1 : Nat) : Int) := by rw [wrap_in (by omega) (by omega)]; omega
      have HK : Hid (k < 60 ∧ n ≤ k) := ⟨k5, hnk⟩
      obtain ⟨d1, d2, d3, d4, d5, d6⟩ := HC.out wr (HBL.out wr hs.low)
      clear hy cy hf cf hx cx0 cx1 ht ct0 ct1 by1 HS k1 k2 k3 k4 k5 hk hnk l2 l3 l4 l5 KA
      go_upto_region 11 with fail
      have H2 : Hid (XD W1 (wr.alloc (.cells #[.int .i64 t0, .int .i64 t1] 36)) g r v v n wr.heap.size t0 t1) := hs.box t0 t1
      clear hs d2 d3 d4 d5 d6
      generalize wr.alloc (.cells #[.int .i64 t0, .int .i64 t1] 36) = w2 at *
      generalize wr.heap.size = pn at *
      clear wr d1
      obtain ⟨d1, d2, d3, d4, d5, d6⟩ := HC.out w2 (HBL.out w2 H2.out.low)
      clear d2 d3 d4 d5 d6
      by_cases h7 : M = 7
      · as_aux_lemma =>
        subst h7
        obtain ⟨v3, hv3⟩ : ∃ v3, v3 = clrT v := ⟨_, rfl⟩
        have ka := H2.out.clear
        have KB : Hid (∀ W, XD W1 W g r v3 v n pn t0 t1 → Calls Try.prog 11 #[.pointer (some ⟨r, 0, none⟩)] W fun e w' => e = .returned (.tuple #[]) ∧ XD W1 w' g r v3 v3 n pn t0 t1) := fun W hW => by have := hW.rclear; rw [← hv3] at this; exact this
        rw [← hv3] at ka
        clear hv3 H2
        go_wp2_with fail
        refine ka.mono ?_
        rintro e w4 ⟨rfl, hx4⟩
        have kb := KB.out w4 hx4
        clear ka KB hx4 d1
        go_wp2_with fail
        refine kb.mono ?_
        rintro e wd ⟨rfl, hx5⟩
        have HX : Hid (XD W1 wd g r v3 v3 n pn t0 t1) := hx5
        clear kb hx5 m1 m2 m3
        go_upto_region 16 with fail
        have hQ : ∀ B, XD W1 B g r v3 v3 n pn t0 t1 → ∀ V, Below B.heap.size B V → (V.cell? ⟨fb, fo + k, none⟩ = some (.int .i64 f) ∧ V.cell? ⟨pn, 1, none⟩ = some (.int .i64 t1)) ∧ Below B.heap.size B V := fun B hB V hV => by
          have h1 := hB.below hV
          obtain ⟨d1, d2, d3, d4, d5, d6⟩ := HC.out V (HBL.out V h1.low)
          exact ⟨⟨d2, h1.box.2⟩, hV⟩
        have HQ0 : Hid (∀ B, XD W1 B g r v3 v3 n pn t0 t1 → ∀ V, Below B.heap.size B V → (V.cell? ⟨fb, fo + k, none⟩ = some (.int .i64 f) ∧ V.cell? ⟨pn, 1, none⟩ = some (.int .i64 t1)) ∧ Below B.heap.size B V) := hQ
        have HQ : Hid (∀ V, Below wd.heap.size wd V → (V.cell? ⟨fb, fo + k, none⟩ = some (.int .i64 f) ∧ V.cell? ⟨pn, 1, none⟩ = some (.int .i64 t1)) ∧ Below wd.heap.size wd V) := hQ wd HX.out
        have KAT : Hid (∀ V, XD W1 V g r v3 v3 n pn t0 t1 → Calls Try.prog 14 #[.pointer (some ⟨g, 0, none⟩), .int .i64 f, .int .i64 t1] V fun e w' => e = .returned (.tuple #[.agg #[.int .i64 (atA v3 f t1).a, .int .i64 (atA v3 f t1).b], .int .i64 (atA v3 f t1).e]) ∧ Below V.heap.size V w') := fun V hV => hV.at f t1
        have KRT : Hid (∀ V, XD W1 V g r v3 v3 n pn t0 t1 → Calls Try.prog 15 #[.pointer (some ⟨r, 0, none⟩), .int .i64 f, .int .i64 t1] V fun e w' => e = .returned (.tuple #[.agg #[.int .i64 (atA v3 f t1).a, .int .i64 (atA v3 f t1).b], .int .i64 (atA v3 f t1).e]) ∧ Below V.heap.size V w') := fun V hV => hV.rat f t1
        have KMO : Hid (∀ V, XD W1 V g r v3 v3 n pn t0 t1 → Calls Try.prog 16 #[.pointer (some ⟨g, 0, none⟩), .int .i64 f, .int .i64 t1] V fun e w' => e = .returned (.tuple #[.int .i64 (mosV (atA v3 f t1) t1), .int .i64 (atA v3 f t1).e]) ∧ Below V.heap.size V w') := fun V hV => hV.most f t1
        have KRM : Hid (∀ V, XD W1 V g r v3 v3 n pn t0 t1 → Calls Try.prog 17 #[.pointer (some ⟨r, 0, none⟩), .int .i64 f, .int .i64 t1] V fun e w' => e = .returned (.tuple #[.int .i64 (mosV (atA v3 f t1) t1), .int .i64 (atA v3 f t1).e]) ∧ Below V.heap.size V w') := fun V hV => hV.rmost f t1
        generalize mosV (atA v3 f t1) t1 = mv at *
        generalize atA v3 f t1 = X at *
        obtain ⟨x, y, z⟩ := X
        dsimp only at KAT KRT KMO KRM
        clear hQ
        have KC : Hid (∀ V, Below wd.heap.size wd V → Calls Try.prog 14 #[.pointer (some ⟨g, 0, none⟩), .int .i64 f, .int .i64 t1] V fun e w' => e = .returned (.tuple #[.agg #[.int .i64 x, .int .i64 y], .int .i64 z]) ∧ Below V.heap.size V w') := fun V hV => KAT.out V (HX.out.below hV)
        refine wp_join (fun p W' => XD W1 W' g r v3 v3 n pn t0 t1 ∧ Pair W' p x y) ?faa ?haa ?kaa
        case haa =>
          refine wp_region_noPanic ?_
          refine wp_region_held (S := fun V => (V.cell? ⟨fb, fo + k, none⟩ = some (.int .i64 f) ∧ V.cell? ⟨pn, 1, none⟩ = some (.int .i64 t1)) ∧ Below wd.heap.size wd V) (by kernel_rfl) ?_
          have hS := (HQ.out _ (Below.refl _ _).drew)
          refine any_take 0 ?vsaan1 rfl (by kernel_rfl) (by kernel_rfl) (by kernel_rfl) (fun _ _ _ h => h) (by rfl) ?hsaan1 hS ?_
          case hsaan1 => (intro w hSw; (try dsimp only at hSw); go_split_ands; go_simp; (try with_reducible rfl))
          (try simp only [Act.put, List.setIfInBounds_toArray, List.set_cons_zero, List.set_cons_succ])
          refine any_take 1 ?vsaan2 rfl (by kernel_rfl) (by kernel_rfl) (by kernel_rfl) (fun _ _ _ h => h) (by rfl) ?hsaan2 hS ?_
          case hsaan2 => (intro w hSw; (try dsimp only at hSw); go_split_ands; go_simp; (try with_reducible rfl))
          (try simp only [Act.put, List.setIfInBounds_toArray, List.set_cons_zero, List.set_cons_succ])
          refine any_take 2 ?vsaan3 rfl (by kernel_rfl) (by kernel_rfl) (by kernel_rfl) (fun _ _ _ h => h) (by rfl) ?hsaan3 hS ?_
          case hsaan3 => (intro w hSw; (try dsimp only at hSw); go_split_ands; go_simp; (try with_reducible rfl))
          (try simp only [Act.put, List.setIfInBounds_toArray, List.set_cons_zero, List.set_cons_succ])
          refine any_take 3 ?vsaan4 rfl (by kernel_rfl) (by kernel_rfl) (by kernel_rfl) (fun _ _ _ h => h) (by rfl) ?hsaan4 hS ?_
          case hsaan4 => (intro w hSw; (try dsimp only at hSw); go_split_ands; go_simp; (try with_reducible rfl))
          (try simp only [Act.put, List.setIfInBounds_toArray, List.set_cons_zero, List.set_cons_succ])
          refine any_take 4 ?vsaan5 rfl (by kernel_rfl) (by kernel_rfl) (by kernel_rfl) (fun _ _ _ h => h) (by rfl) ?hsaan5 hS ?_
          case hsaan5 => (intro w hSw; (try dsimp only at hSw); go_split_ands; go_simp; (try with_reducible rfl))
          (try simp only [Act.put, List.setIfInBounds_toArray, List.set_cons_zero, List.set_cons_succ])
          refine any_take 5 ?vsaan6 rfl (by kernel_rfl) (by kernel_rfl) (by kernel_rfl) (fun _ _ _ h => h) (by rfl) ?hsaan6 hS ?_
          case hsaan6 => (intro w hSw; (try dsimp only at hSw); go_split_ands; go_simp; (try with_reducible rfl))
          (try simp only [Act.put, List.setIfInBounds_toArray, List.set_cons_zero, List.set_cons_succ])
          refine any_take 6 ?vsaan7 rfl (by kernel_rfl) (by kernel_rfl) (by kernel_rfl) (fun _ _ _ h => h) (by rfl) ?hsaan7 hS ?_
          case hsaan7 => (intro w hSw; (try dsimp only at hSw); go_split_ands; go_simp; (try with_reducible rfl))
          (try simp only [Act.put, List.setIfInBounds_toArray, List.set_cons_zero, List.set_cons_succ])
          refine any_two 7 11 rfl rfl (by kernel_rfl) (by rfl) (by rfl) (fun K hK => ?_) (fun K hK => ?_)
          · have hSS : _ := hS
            clear hS
            go_simp
            refine (KC.out _ hSS.2).mono ?_
            rintro ev wc ⟨rfl, hbc⟩
            (try have hPc := hP.below hbc)
            refine hK.out _ _ (HQ.out _ (hSS.2.trans (hbc.mono hSS.2.size))) (fun hS => ?_)
            clear hK
            (try simp only [Act.put, List.setIfInBounds_toArray, List.set_cons_zero, List.set_cons_succ])
            refine any_take 8 ?vsaan8 rfl (by kernel_rfl) (by kernel_rfl) (by kernel_rfl) (fun _ _ _ h => h) (by rfl) ?hsaan8 hS ?_
            case hsaan8 => (intro w hSw; (try dsimp only at hSw); go_split_ands; go_simp; (try with_reducible rfl))
            (try simp only [Act.put, List.setIfInBounds_toArray, List.set_cons_zero, List.set_cons_succ])
            refine any_take 9 ?vsaan9 rfl (by kernel_rfl) (by kernel_rfl) (by kernel_rfl) (fun _ _ _ h => h) (by rfl) ?hsaan9 hS ?_
            case hsaan9 => (intro w hSw; (try dsimp only at hSw); go_split_ands; go_simp; (try with_reducible rfl))
            (try simp only [Act.put, List.setIfInBounds_toArray, List.set_cons_zero, List.set_cons_succ])
            refine any_take 10 ?vsaan10 rfl (by kernel_rfl) (by kernel_rfl) (by kernel_rfl) (fun _ _ _ h => h) (by rfl) ?hsaan10 hS ?_
            case hsaan10 => (intro w hSw; (try dsimp only at hSw); go_split_ands; go_simp; (try with_reducible rfl))
            (try simp only [Act.put, List.setIfInBounds_toArray, List.set_cons_zero, List.set_cons_succ])
            refine any_one 11 rfl (by kernel_rfl) (by rfl) (fun K hK => ?_)
            have hSS : _ := hS
            clear hS
            go_simp
            first | (generalize hp9 : wc.heap.size = p9; have hPc : Pair (wc.alloc (.cells #[.int .i64 0, .int .i64 0] 39)) p9 0 0 := hp9 ▸ Pair.new wc 0 0; have hpl : wd.heap.size ≤ p9 := hp9 ▸ hSS.2.size) | (generalize hp9 : wd.heap.size = p9; have hP : Pair (wd.drew.alloc (.cells #[.int .i64 0, .int .i64 0] 39)) p9 0 0 := hp9 ▸ Pair.new wd.drew 0 0; have hpl : wd.heap.size ≤ p9 := Nat.le_of_eq hp9)
            refine hK.out _ _ (HQ.out _ (hSS.2.alloc hSS.2.size _)) (fun hS => ?_)
            clear hK
            (try simp only [Act.put, List.setIfInBounds_toArray, List.set_cons_zero, List.set_cons_succ])
            refine any_one 12 rfl (by kernel_rfl) (by rfl) (fun K hK => ?_)
            have hSS : _ := hS
            clear hS
            refine op_store_run 39 _ _ rfl _ _ rfl rfl (hPc.stores x y) ?_
            have hPd := hPc.stored x y
            have hbe := below_setRow hSS.2 hpl #[.int .i64 x, .int .i64 y]
            refine hK.out _ _ (HQ.out _ hbe) (fun hS => ?_)
            clear hK
            (try simp only [Act.put])
            refine any_take 13 ?vsaan11 rfl (by kernel_rfl) (by kernel_rfl) (by kernel_rfl) (fun _ _ _ h => h) (by rfl) ?hsaan11 hS ?_
            case hsaan11 => (intro w hSw; (try dsimp only at hSw); go_split_ands; go_simp; (try with_reducible rfl))
            (try simp only [Act.put, List.setIfInBounds_toArray, List.set_cons_zero, List.set_cons_succ])
            refine wpAnyH_done (by kernel_rfl) ?_ _
            refine NoPanic.normal ?_
            refine ⟨p9, rfl, ?_, HX.out.below hbe, hPd⟩
            exact rfl
          · have hSS : _ := hS
            clear hS
            go_simp
            first | (generalize hp9 : wc.heap.size = p9; have hPc : Pair (wc.alloc (.cells #[.int .i64 0, .int .i64 0] 39)) p9 0 0 := hp9 ▸ Pair.new wc 0 0; have hpl : wd.heap.size ≤ p9 := hp9 ▸ hSS.2.size) | (generalize hp9 : wd.heap.size = p9; have hP : Pair (wd.drew.alloc (.cells #[.int .i64 0, .int .i64 0] 39)) p9 0 0 := hp9 ▸ Pair.new wd.drew 0 0; have hpl : wd.heap.size ≤ p9 := Nat.le_of_eq hp9)
            refine hK.out _ _ (HQ.out _ (hSS.2.alloc hSS.2.size _)) (fun hS => ?_)
            clear hK
            (try simp only [Act.put, List.setIfInBounds_toArray, List.set_cons_zero, List.set_cons_succ])
            refine any_one 7 rfl (by kernel_rfl) (by rfl) (fun K hK => ?_)
            have hSS : _ := hS
            clear hS
            go_simp
            refine (KC.out _ hSS.2).mono ?_
            rintro ev wc ⟨rfl, hbc⟩
            (try have hPc := hP.below hbc)
            refine hK.out _ _ (HQ.out _ (hSS.2.trans (hbc.mono hSS.2.size))) (fun hS => ?_)
            clear hK
            (try simp only [Act.put, List.setIfInBounds_toArray, List.set_cons_zero, List.set_cons_succ])
            refine any_take 8 ?vsaan12 rfl (by kernel_rfl) (by kernel_rfl) (by kernel_rfl) (fun _ _ _ h => h) (by rfl) ?hsaan12 hS ?_
            case hsaan12 => (intro w hSw; (try dsimp only at hSw); go_split_ands; go_simp; (try with_reducible rfl))
            (try simp only [Act.put, List.setIfInBounds_toArray, List.set_cons_zero, List.set_cons_succ])
            refine any_take 9 ?vsaan13 rfl (by kernel_rfl) (by kernel_rfl) (by kernel_rfl) (fun _ _ _ h => h) (by rfl) ?hsaan13 hS ?_
            case hsaan13 => (intro w hSw; (try dsimp only at hSw); go_split_ands; go_simp; (try with_reducible rfl))
            (try simp only [Act.put, List.setIfInBounds_toArray, List.set_cons_zero, List.set_cons_succ])
            refine any_take 10 ?vsaan14 rfl (by kernel_rfl) (by kernel_rfl) (by kernel_rfl) (fun _ _ _ h => h) (by rfl) ?hsaan14 hS ?_
            case hsaan14 => (intro w hSw; (try dsimp only at hSw); go_split_ands; go_simp; (try with_reducible rfl))
            (try simp only [Act.put, List.setIfInBounds_toArray, List.set_cons_zero, List.set_cons_succ])
            refine any_one 12 rfl (by kernel_rfl) (by rfl) (fun K hK => ?_)
            have hSS : _ := hS
            clear hS
            refine op_store_run 39 _ _ rfl _ _ rfl rfl (hPc.stores x y) ?_
            have hPd := hPc.stored x y
            have hbe := below_setRow hSS.2 hpl #[.int .i64 x, .int .i64 y]
            refine hK.out _ _ (HQ.out _ hbe) (fun hS => ?_)
            clear hK
            (try simp only [Act.put])
            refine any_take 13 ?vsaan15 rfl (by kernel_rfl) (by kernel_rfl) (by kernel_rfl) (fun _ _ _ h => h) (by rfl) ?hsaan15 hS ?_
            case hsaan15 => (intro w hSw; (try dsimp only at hSw); go_split_ands; go_simp; (try with_reducible rfl))
            (try simp only [Act.put, List.setIfInBounds_toArray, List.set_cons_zero, List.set_cons_succ])
            refine wpAnyH_done (by kernel_rfl) ?_ _
            refine NoPanic.normal ?_
            refine ⟨p9, rfl, ?_, HX.out.below hbe, hPd⟩
            exact rfl
        case kaa => as_aux_lemma =>
          rintro p1 w5 ⟨hX5, hP5⟩
          have H5 : Hid (XD W1 w5 g r v3 v3 n pn t0 t1 ∧ Pair w5 p1 x y) := ⟨hX5, hP5⟩
          have HQ5 : Hid (∀ V, Below w5.heap.size w5 V → (V.cell? ⟨fb, fo + k, none⟩ = some (.int .i64 f) ∧ V.cell? ⟨pn, 1, none⟩ = some (.int .i64 t1)) ∧ Below w5.heap.size w5 V) := HQ0.out w5 hX5
          have KC5 : Hid (∀ V, Below w5.heap.size w5 V → Calls Try.prog 15 #[.pointer (some ⟨r, 0, none⟩), .int .i64 f, .int .i64 t1] V fun e w' => e = .returned (.tuple #[.agg #[.int .i64 x, .int .i64 y], .int .i64 z]) ∧ Below V.heap.size V w') := fun V hV => KRT.out V (hX5.below hV)
          clear hX5 hP5 HX HQ KC KAT KRT
          go_upto_region 17 with fail
          refine wp_join (fun p W' => XD W1 W' g r v3 v3 n pn t0 t1 ∧ Pair W' p1 x y ∧ Pair W' p x y) ?fba ?hba ?kba
          case hba =>
            refine wp_region_noPanic ?_
            refine wp_region_held (S := fun V => (V.cell? ⟨fb, fo + k, none⟩ = some (.int .i64 f) ∧ V.cell? ⟨pn, 1, none⟩ = some (.int .i64 t1)) ∧ Below w5.heap.size w5 V) (by kernel_rfl) ?_
            have hS := (HQ5.out _ (Below.refl _ _).drew)
            refine any_take 0 ?vsban1 rfl (by kernel_rfl) (by kernel_rfl) (by kernel_rfl) (fun _ _ _ h => h) (by rfl) ?hsban1 hS ?_
            case hsban1 => (intro w hSw; (try dsimp only at hSw); go_split_ands; go_simp; (try with_reducible rfl))
            (try simp only [Act.put, List.setIfInBounds_toArray, List.set_cons_zero, List.set_cons_succ])
            refine any_take 1 ?vsban2 rfl (by kernel_rfl) (by kernel_rfl) (by kernel_rfl) (fun _ _ _ h => h) (by rfl) ?hsban2 hS ?_
            case hsban2 => (intro w hSw; (try dsimp only at hSw); go_split_ands; go_simp; (try with_reducible rfl))
            (try simp only [Act.put, List.setIfInBounds_toArray, List.set_cons_zero, List.set_cons_succ])
            refine any_take 2 ?vsban3 rfl (by kernel_rfl) (by kernel_rfl) (by kernel_rfl) (fun _ _ _ h => h) (by rfl) ?hsban3 hS ?_
            case hsban3 => (intro w hSw; (try dsimp only at hSw); go_split_ands; go_simp; (try with_reducible rfl))
            (try simp only [Act.put, List.setIfInBounds_toArray, List.set_cons_zero, List.set_cons_succ])
            refine any_take 3 ?vsban4 rfl (by kernel_rfl) (by kernel_rfl) (by kernel_rfl) (fun _ _ _ h => h) (by rfl) ?hsban4 hS ?_
            case hsban4 => (intro w hSw; (try dsimp only at hSw); go_split_ands; go_simp; (try with_reducible rfl))
            (try simp only [Act.put, List.setIfInBounds_toArray, List.set_cons_zero, List.set_cons_succ])
            refine any_take 4 ?vsban5 rfl (by kernel_rfl) (by kernel_rfl) (by kernel_rfl) (fun _ _ _ h => h) (by rfl) ?hsban5 hS ?_
            case hsban5 => (intro w hSw; (try dsimp only at hSw); go_split_ands; go_simp; (try with_reducible rfl))
            (try simp only [Act.put, List.setIfInBounds_toArray, List.set_cons_zero, List.set_cons_succ])
            refine any_take 5 ?vsban6 rfl (by kernel_rfl) (by kernel_rfl) (by kernel_rfl) (fun _ _ _ h => h) (by rfl) ?hsban6 hS ?_
            case hsban6 => (intro w hSw; (try dsimp only at hSw); go_split_ands; go_simp; (try with_reducible rfl))
            (try simp only [Act.put, List.setIfInBounds_toArray, List.set_cons_zero, List.set_cons_succ])
            refine any_take 6 ?vsban7 rfl (by kernel_rfl) (by kernel_rfl) (by kernel_rfl) (fun _ _ _ h => h) (by rfl) ?hsban7 hS ?_
            case hsban7 => (intro w hSw; (try dsimp only at hSw); go_split_ands; go_simp; (try with_reducible rfl))
            (try simp only [Act.put, List.setIfInBounds_toArray, List.set_cons_zero, List.set_cons_succ])
            refine any_two 7 11 rfl rfl (by kernel_rfl) (by rfl) (by rfl) (fun K hK => ?_) (fun K hK => ?_)
            · have hSS : _ := hS
              clear hS
              go_simp
              refine (KC5.out _ hSS.2).mono ?_
              rintro ev wc ⟨rfl, hbc⟩
              (try have hPc := hP.below hbc)
              refine hK.out _ _ (HQ5.out _ (hSS.2.trans (hbc.mono hSS.2.size))) (fun hS => ?_)
              clear hK
              (try simp only [Act.put, List.setIfInBounds_toArray, List.set_cons_zero, List.set_cons_succ])
              refine any_take 8 ?vsban8 rfl (by kernel_rfl) (by kernel_rfl) (by kernel_rfl) (fun _ _ _ h => h) (by rfl) ?hsban8 hS ?_
              case hsban8 => (intro w hSw; (try dsimp only at hSw); go_split_ands; go_simp; (try with_reducible rfl))
              (try simp only [Act.put, List.setIfInBounds_toArray, List.set_cons_zero, List.set_cons_succ])
              refine any_take 9 ?vsban9 rfl (by kernel_rfl) (by kernel_rfl) (by kernel_rfl) (fun _ _ _ h => h) (by rfl) ?hsban9 hS ?_
              case hsban9 => (intro w hSw; (try dsimp only at hSw); go_split_ands; go_simp; (try with_reducible rfl))
              (try simp only [Act.put, List.setIfInBounds_toArray, List.set_cons_zero, List.set_cons_succ])
              refine any_take 10 ?vsban10 rfl (by kernel_rfl) (by kernel_rfl) (by kernel_rfl) (fun _ _ _ h => h) (by rfl) ?hsban10 hS ?_
              case hsban10 => (intro w hSw; (try dsimp only at hSw); go_split_ands; go_simp; (try with_reducible rfl))
              (try simp only [Act.put, List.setIfInBounds_toArray, List.set_cons_zero, List.set_cons_succ])
              refine any_one 11 rfl (by kernel_rfl) (by rfl) (fun K hK => ?_)
              have hSS : _ := hS
              clear hS
              go_simp
              first | (generalize hp9 : wc.heap.size = p9; have hPc : Pair (wc.alloc (.cells #[.int .i64 0, .int .i64 0] 39)) p9 0 0 := hp9 ▸ Pair.new wc 0 0; have hpl : w5.heap.size ≤ p9 := hp9 ▸ hSS.2.size) | (generalize hp9 : w5.heap.size = p9; have hP : Pair (w5.drew.alloc (.cells #[.int .i64 0, .int .i64 0] 39)) p9 0 0 := hp9 ▸ Pair.new w5.drew 0 0; have hpl : w5.heap.size ≤ p9 := Nat.le_of_eq hp9)
              refine hK.out _ _ (HQ5.out _ (hSS.2.alloc hSS.2.size _)) (fun hS => ?_)
              clear hK
              (try simp only [Act.put, List.setIfInBounds_toArray, List.set_cons_zero, List.set_cons_succ])
              refine any_one 12 rfl (by kernel_rfl) (by rfl) (fun K hK => ?_)
              have hSS : _ := hS
              clear hS
              refine op_store_run 39 _ _ rfl _ _ rfl rfl (hPc.stores x y) ?_
              have hPd := hPc.stored x y
              have hbe := below_setRow hSS.2 hpl #[.int .i64 x, .int .i64 y]
              refine hK.out _ _ (HQ5.out _ hbe) (fun hS => ?_)
              clear hK
              (try simp only [Act.put])
              refine any_take 13 ?vsban11 rfl (by kernel_rfl) (by kernel_rfl) (by kernel_rfl) (fun _ _ _ h => h) (by rfl) ?hsban11 hS ?_
              case hsban11 => (intro w hSw; (try dsimp only at hSw); go_split_ands; go_simp; (try with_reducible rfl))
              (try simp only [Act.put, List.setIfInBounds_toArray, List.set_cons_zero, List.set_cons_succ])
              refine wpAnyH_done (by kernel_rfl) ?_ _
              refine NoPanic.normal ?_
              refine ⟨p9, rfl, ?_, H5.out.1.below hbe, H5.out.2.below hbe, hPd⟩
              exact rfl
            · have hSS : _ := hS
              clear hS
              go_simp
              first | (generalize hp9 : wc.heap.size = p9; have hPc : Pair (wc.alloc (.cells #[.int .i64 0, .int .i64 0] 39)) p9 0 0 := hp9 ▸ Pair.new wc 0 0; have hpl : w5.heap.size ≤ p9 := hp9 ▸ hSS.2.size) | (generalize hp9 : w5.heap.size = p9; have hP : Pair (w5.drew.alloc (.cells #[.int .i64 0, .int .i64 0] 39)) p9 0 0 := hp9 ▸ Pair.new w5.drew 0 0; have hpl : w5.heap.size ≤ p9 := Nat.le_of_eq hp9)
              refine hK.out _ _ (HQ5.out _ (hSS.2.alloc hSS.2.size _)) (fun hS => ?_)
              clear hK
              (try simp only [Act.put, List.setIfInBounds_toArray, List.set_cons_zero, List.set_cons_succ])
              refine any_one 7 rfl (by kernel_rfl) (by rfl) (fun K hK => ?_)
              have hSS : _ := hS
              clear hS
              go_simp
              refine (KC5.out _ hSS.2).mono ?_
              rintro ev wc ⟨rfl, hbc⟩
              (try have hPc := hP.below hbc)
              refine hK.out _ _ (HQ5.out _ (hSS.2.trans (hbc.mono hSS.2.size))) (fun hS => ?_)
              clear hK
              (try simp only [Act.put, List.setIfInBounds_toArray, List.set_cons_zero, List.set_cons_succ])
              refine any_take 8 ?vsban12 rfl (by kernel_rfl) (by kernel_rfl) (by kernel_rfl) (fun _ _ _ h => h) (by rfl) ?hsban12 hS ?_
              case hsban12 => (intro w hSw; (try dsimp only at hSw); go_split_ands; go_simp; (try with_reducible rfl))
              (try simp only [Act.put, List.setIfInBounds_toArray, List.set_cons_zero, List.set_cons_succ])
              refine any_take 9 ?vsban13 rfl (by kernel_rfl) (by kernel_rfl) (by kernel_rfl) (fun _ _ _ h => h) (by rfl) ?hsban13 hS ?_
              case hsban13 => (intro w hSw; (try dsimp only at hSw); go_split_ands; go_simp; (try with_reducible rfl))
              (try simp only [Act.put, List.setIfInBounds_toArray, List.set_cons_zero, List.set_cons_succ])
              refine any_take 10 ?vsban14 rfl (by kernel_rfl) (by kernel_rfl) (by kernel_rfl) (fun _ _ _ h => h) (by rfl) ?hsban14 hS ?_
              case hsban14 => (intro w hSw; (try dsimp only at hSw); go_split_ands; go_simp; (try with_reducible rfl))
              (try simp only [Act.put, List.setIfInBounds_toArray, List.set_cons_zero, List.set_cons_succ])
              refine any_one 12 rfl (by kernel_rfl) (by rfl) (fun K hK => ?_)
              have hSS : _ := hS
              clear hS
              refine op_store_run 39 _ _ rfl _ _ rfl rfl (hPc.stores x y) ?_
              have hPd := hPc.stored x y
              have hbe := below_setRow hSS.2 hpl #[.int .i64 x, .int .i64 y]
              refine hK.out _ _ (HQ5.out _ hbe) (fun hS => ?_)
              clear hK
              (try simp only [Act.put])
              refine any_take 13 ?vsban15 rfl (by kernel_rfl) (by kernel_rfl) (by kernel_rfl) (fun _ _ _ h => h) (by rfl) ?hsban15 hS ?_
              case hsban15 => (intro w hSw; (try dsimp only at hSw); go_split_ands; go_simp; (try with_reducible rfl))
              (try simp only [Act.put, List.setIfInBounds_toArray, List.set_cons_zero, List.set_cons_succ])
              refine wpAnyH_done (by kernel_rfl) ?_ _
              refine NoPanic.normal ?_
              refine ⟨p9, rfl, ?_, H5.out.1.below hbe, H5.out.2.below hbe, hPd⟩
              exact rfl
          case kba => as_aux_lemma =>
            rintro p2 w6 ⟨hX6, hPa, hPb⟩
            have Hw6 : Hid (XD W1 w6 g r v3 v3 n pn t0 t1 ∧ Pair w6 p1 x y ∧ Pair w6 p2 x y) := ⟨hX6, hPa, hPb⟩
            clear hX6 hPa hPb H5 HQ5 KC5
            go_upto_region 18 with fail
            refine wp_region_noPanic ?_
            refine wp_region_held (S := fun V => (V.cell? ⟨fb, fo + k, none⟩ = some (.int .i64 f) ∧ V.cell? ⟨pn, 1, none⟩ = some (.int .i64 t1)) ∧ Below w6.heap.size w6 V) (by kernel_rfl) ?_
            have hS := (HQ0.out w6 Hw6.out.1 _ (Below.refl _ _).drew)
            refine any_take 0 ?vscan1 rfl (by kernel_rfl) (by kernel_rfl) (by kernel_rfl) (fun _ _ _ h => h) (by rfl) ?hscan1 hS ?_
            case hscan1 => (intro w hSw; (try dsimp only at hSw); go_split_ands; go_simp; (try with_reducible rfl))
            (try simp only [Act.put, List.setIfInBounds_toArray, List.set_cons_zero, List.set_cons_succ])
            refine any_take 1 ?vscan2 rfl (by kernel_rfl) (by kernel_rfl) (by kernel_rfl) (fun _ _ _ h => h) (by rfl) ?hscan2 hS ?_
            case hscan2 => (intro w hSw; (try dsimp only at hSw); go_split_ands; go_simp; (try with_reducible rfl))
            (try simp only [Act.put, List.setIfInBounds_toArray, List.set_cons_zero, List.set_cons_succ])
            refine any_take 2 ?vscan3 rfl (by kernel_rfl) (by kernel_rfl) (by kernel_rfl) (fun _ _ _ h => h) (by rfl) ?hscan3 hS ?_
            case hscan3 => (intro w hSw; (try dsimp only at hSw); go_split_ands; go_simp; (try with_reducible rfl))
            (try simp only [Act.put, List.setIfInBounds_toArray, List.set_cons_zero, List.set_cons_succ])
            refine any_take 3 ?vscan4 rfl (by kernel_rfl) (by kernel_rfl) (by kernel_rfl) (fun _ _ _ h => h) (by rfl) ?hscan4 hS ?_
            case hscan4 => (intro w hSw; (try dsimp only at hSw); go_split_ands; go_simp; (try with_reducible rfl))
            (try simp only [Act.put, List.setIfInBounds_toArray, List.set_cons_zero, List.set_cons_succ])
            refine any_take 4 ?vscan5 rfl (by kernel_rfl) (by kernel_rfl) (by kernel_rfl) (fun _ _ _ h => h) (by rfl) ?hscan5 hS ?_
            case hscan5 => (intro w hSw; (try dsimp only at hSw); go_split_ands; go_simp; (try with_reducible rfl))
            (try simp only [Act.put, List.setIfInBounds_toArray, List.set_cons_zero, List.set_cons_succ])
            refine any_take 5 ?vscan6 rfl (by kernel_rfl) (by kernel_rfl) (by kernel_rfl) (fun _ _ _ h => h) (by rfl) ?hscan6 hS ?_
            case hscan6 => (intro w hSw; (try dsimp only at hSw); go_split_ands; go_simp; (try with_reducible rfl))
            (try simp only [Act.put, List.setIfInBounds_toArray, List.set_cons_zero, List.set_cons_succ])
            refine any_take 6 ?vscan7 rfl (by kernel_rfl) (by kernel_rfl) (by kernel_rfl) (fun _ _ _ h => h) (by rfl) ?hscan7 hS ?_
            case hscan7 => (intro w hSw; (try dsimp only at hSw); go_split_ands; go_simp; (try with_reducible rfl))
            (try simp only [Act.put, List.setIfInBounds_toArray, List.set_cons_zero, List.set_cons_succ])
            refine any_one 7 rfl (by kernel_rfl) (by rfl) (fun K hK => ?_)
            have hSS : _ := hS
            clear hS
            go_simp
            refine (KMO.out _ (Hw6.out.1.below hSS.2)).mono ?_
            rintro ev w7 ⟨rfl, hbc⟩
            have hbe := hSS.2.trans (hbc.mono hSS.2.size)
            refine hK.out _ _ (HQ0.out w6 Hw6.out.1 _ hbe) (fun hS => ?_)
            clear hK
            (try simp only [Act.put, List.setIfInBounds_toArray, List.set_cons_zero, List.set_cons_succ])
            refine any_take 8 ?vscan8 rfl (by kernel_rfl) (by kernel_rfl) (by kernel_rfl) (fun _ _ _ h => h) (by rfl) ?hscan8 hS ?_
            case hscan8 => (intro w hSw; (try dsimp only at hSw); go_split_ands; go_simp; (try with_reducible rfl))
            (try simp only [Act.put, List.setIfInBounds_toArray, List.set_cons_zero, List.set_cons_succ])
            refine any_take 9 ?vscan9 rfl (by kernel_rfl) (by kernel_rfl) (by kernel_rfl) (fun _ _ _ h => h) (by rfl) ?hscan9 hS ?_
            case hscan9 => (intro w hSw; (try dsimp only at hSw); go_split_ands; go_simp; (try with_reducible rfl))
            (try simp only [Act.put, List.setIfInBounds_toArray, List.set_cons_zero, List.set_cons_succ])
            refine any_take 10 ?vscan10 rfl (by kernel_rfl) (by kernel_rfl) (by kernel_rfl) (fun _ _ _ h => h) (by rfl) ?hscan10 hS ?_
            case hscan10 => (intro w hSw; (try dsimp only at hSw); go_split_ands; go_simp; (try with_reducible rfl))
            (try simp only [Act.put, List.setIfInBounds_toArray, List.set_cons_zero, List.set_cons_succ])
            refine any_take 11 ?vscan11 rfl (by kernel_rfl) (by kernel_rfl) (by kernel_rfl) (fun _ _ _ h => h) (by rfl) ?hscan11 hS ?_
            case hscan11 => (intro w hSw; (try dsimp only at hSw); go_split_ands; go_simp; (try with_reducible rfl))
            (try simp only [Act.put, List.setIfInBounds_toArray, List.set_cons_zero, List.set_cons_succ])
            refine any_take 12 ?vscan12 rfl (by kernel_rfl) (by kernel_rfl) (by kernel_rfl) (fun _ _ _ h => h) (by rfl) ?hscan12 hS ?_
            case hscan12 => (intro w hSw; (try dsimp only at hSw); go_split_ands; go_simp; (try with_reducible rfl))
            (try simp only [Act.put, List.setIfInBounds_toArray, List.set_cons_zero, List.set_cons_succ])
            refine wpAnyH_done (by kernel_rfl) ?_ _
            refine NoPanic.normal ?_
            have Hw7 : Hid (XD W1 w7 g r v3 v3 n pn t0 t1 ∧ Pair w7 p1 x y ∧ Pair w7 p2 x y) := ⟨Hw6.out.1.below hbe, Hw6.out.2.1.below hbe, Hw6.out.2.2.below hbe⟩
            clear hS hSS hbc hbe Hw6 KMO
            go_upto_region 19 with fail
            refine wp_region_noPanic ?_
            refine wp_region_held (S := fun V => (V.cell? ⟨fb, fo + k, none⟩ = some (.int .i64 f) ∧ V.cell? ⟨pn, 1, none⟩ = some (.int .i64 t1)) ∧ Below w7.heap.size w7 V) (by kernel_rfl) ?_
            have hS := (HQ0.out w7 Hw7.out.1 _ (Below.refl _ _).drew)
            refine any_take 0 ?vsdan1 rfl (by kernel_rfl) (by kernel_rfl) (by kernel_rfl) (fun _ _ _ h => h) (by rfl) ?hsdan1 hS ?_
            case hsdan1 => (intro w hSw; (try dsimp only at hSw); go_split_ands; go_simp; (try with_reducible rfl))
            (try simp only [Act.put, List.setIfInBounds_toArray, List.set_cons_zero, List.set_cons_succ])
            refine any_take 1 ?vsdan2 rfl (by kernel_rfl) (by kernel_rfl) (by kernel_rfl) (fun _ _ _ h => h) (by rfl) ?hsdan2 hS ?_
            case hsdan2 => (intro w hSw; (try dsimp only at hSw); go_split_ands; go_simp; (try with_reducible rfl))
            (try simp only [Act.put, List.setIfInBounds_toArray, List.set_cons_zero, List.set_cons_succ])
            refine any_take 2 ?vsdan3 rfl (by kernel_rfl) (by kernel_rfl) (by kernel_rfl) (fun _ _ _ h => h) (by rfl) ?hsdan3 hS ?_
            case hsdan3 => (intro w hSw; (try dsimp only at hSw); go_split_ands; go_simp; (try with_reducible rfl))
            (try simp only [Act.put, List.setIfInBounds_toArray, List.set_cons_zero, List.set_cons_succ])
            refine any_take 3 ?vsdan4 rfl (by kernel_rfl) (by kernel_rfl) (by kernel_rfl) (fun _ _ _ h => h) (by rfl) ?hsdan4 hS ?_
            case hsdan4 => (intro w hSw; (try dsimp only at hSw); go_split_ands; go_simp; (try with_reducible rfl))
            (try simp only [Act.put, List.setIfInBounds_toArray, List.set_cons_zero, List.set_cons_succ])
            refine any_take 4 ?vsdan5 rfl (by kernel_rfl) (by kernel_rfl) (by kernel_rfl) (fun _ _ _ h => h) (by rfl) ?hsdan5 hS ?_
            case hsdan5 => (intro w hSw; (try dsimp only at hSw); go_split_ands; go_simp; (try with_reducible rfl))
            (try simp only [Act.put, List.setIfInBounds_toArray, List.set_cons_zero, List.set_cons_succ])
            refine any_take 5 ?vsdan6 rfl (by kernel_rfl) (by kernel_rfl) (by kernel_rfl) (fun _ _ _ h => h) (by rfl) ?hsdan6 hS ?_
            case hsdan6 => (intro w hSw; (try dsimp only at hSw); go_split_ands; go_simp; (try with_reducible rfl))
            (try simp only [Act.put, List.setIfInBounds_toArray, List.set_cons_zero, List.set_cons_succ])
            refine any_take 6 ?vsdan7 rfl (by kernel_rfl) (by kernel_rfl) (by kernel_rfl) (fun _ _ _ h => h) (by rfl) ?hsdan7 hS ?_
            case hsdan7 => (intro w hSw; (try dsimp only at hSw); go_split_ands; go_simp; (try with_reducible rfl))
            (try simp only [Act.put, List.setIfInBounds_toArray, List.set_cons_zero, List.set_cons_succ])
            refine any_one 7 rfl (by kernel_rfl) (by rfl) (fun K hK => ?_)
            have hSS : _ := hS
            clear hS
            go_simp
            refine (KRM.out _ (Hw7.out.1.below hSS.2)).mono ?_
            rintro ev w8 ⟨rfl, hbc⟩
            have hbe := hSS.2.trans (hbc.mono hSS.2.size)
            refine hK.out _ _ (HQ0.out w7 Hw7.out.1 _ hbe) (fun hS => ?_)
            clear hK
            (try simp only [Act.put, List.setIfInBounds_toArray, List.set_cons_zero, List.set_cons_succ])
            refine any_take 8 ?vsdan8 rfl (by kernel_rfl) (by kernel_rfl) (by kernel_rfl) (fun _ _ _ h => h) (by rfl) ?hsdan8 hS ?_
            case hsdan8 => (intro w hSw; (try dsimp only at hSw); go_split_ands; go_simp; (try with_reducible rfl))
            (try simp only [Act.put, List.setIfInBounds_toArray, List.set_cons_zero, List.set_cons_succ])
            refine any_take 9 ?vsdan9 rfl (by kernel_rfl) (by kernel_rfl) (by kernel_rfl) (fun _ _ _ h => h) (by rfl) ?hsdan9 hS ?_
            case hsdan9 => (intro w hSw; (try dsimp only at hSw); go_split_ands; go_simp; (try with_reducible rfl))
            (try simp only [Act.put, List.setIfInBounds_toArray, List.set_cons_zero, List.set_cons_succ])
            refine any_take 10 ?vsdan10 rfl (by kernel_rfl) (by kernel_rfl) (by kernel_rfl) (fun _ _ _ h => h) (by rfl) ?hsdan10 hS ?_
            case hsdan10 => (intro w hSw; (try dsimp only at hSw); go_split_ands; go_simp; (try with_reducible rfl))
            (try simp only [Act.put, List.setIfInBounds_toArray, List.set_cons_zero, List.set_cons_succ])
            refine any_take 11 ?vsdan11 rfl (by kernel_rfl) (by kernel_rfl) (by kernel_rfl) (fun _ _ _ h => h) (by rfl) ?hsdan11 hS ?_
            case hsdan11 => (intro w hSw; (try dsimp only at hSw); go_split_ands; go_simp; (try with_reducible rfl))
            (try simp only [Act.put, List.setIfInBounds_toArray, List.set_cons_zero, List.set_cons_succ])
            refine any_take 12 ?vsdan12 rfl (by kernel_rfl) (by kernel_rfl) (by kernel_rfl) (fun _ _ _ h => h) (by rfl) ?hsdan12 hS ?_
            case hsdan12 => (intro w hSw; (try dsimp only at hSw); go_split_ands; go_simp; (try with_reducible rfl))
            (try simp only [Act.put, List.setIfInBounds_toArray, List.set_cons_zero, List.set_cons_succ])
            refine wpAnyH_done (by kernel_rfl) ?_ _
            refine NoPanic.normal ?_
            have Hw8 : Hid (XD W1 w8 g r v3 v3 n pn t0 t1 ∧ Pair w8 p1 x y ∧ Pair w8 p2 x y) := ⟨Hw7.out.1.below hbe, Hw7.out.2.1.below hbe, Hw7.out.2.2.below hbe⟩
            clear hS hSS hbc hbe Hw7 KRM
            go_upto_region 20 with fail
            have hneq : ∀ W, (binOp .neq 39 (.agg #[.int .i64 x, .int .i64 y]) (.agg #[.int .i64 x, .int .i64 y])).run Try.prog W = .ok (.bool false) W := fun W => by
              have := neqIv x y x y W
              simpa using this
            have HQ8 : Hid (∀ V, Below w8.heap.size w8 V → (V.cell? ⟨p1, 0, none⟩ = some (.int .i64 x) ∧ V.cell? ⟨p1, 1, none⟩ = some (.int .i64 y) ∧ V.cell? ⟨p2, 0, none⟩ = some (.int .i64 x) ∧ V.cell? ⟨p2, 1, none⟩ = some (.int .i64 y) ∧ V.cell? ⟨pn, 1, none⟩ = some (.int .i64 t1)) ∧ Below w8.heap.size w8 V) := fun V hV => by
              have a1 := Hw8.out.2.1.below hV
              have a2 := Hw8.out.2.2.below hV
              exact ⟨⟨a1.c0, a1.c1, a2.c0, a2.c1, (Hw8.out.1.below hV).box.2⟩, hV⟩
            have KNE : Hid (∀ V, XD W1 V g r v3 v3 n pn t0 t1 → Calls Try.prog 18 #[.pointer (some ⟨g, 0, none⟩), .int .i64 t1] V fun e w' => e = .returned (.int .i64 (neU v3 t1 v3.c.n.toNat)) ∧ Below V.heap.size V w') := fun V hV => hV.near t1
            have KRN : Hid (∀ V, XD W1 V g r v3 v3 n pn t0 t1 → Calls Try.prog 19 #[.pointer (some ⟨r, 0, none⟩), .int .i64 t1] V fun e w' => e = .returned (.int .i64 (neU v3 t1 v3.c.n.toNat)) ∧ Below V.heap.size V w') := fun V hV => hV.rnear t1
            generalize neU v3 t1 v3.c.n.toNat = NN at *
            refine wp_region_noPanic ?_
            refine wp_region_held (S := fun V => (V.cell? ⟨p1, 0, none⟩ = some (.int .i64 x) ∧ V.cell? ⟨p1, 1, none⟩ = some (.int .i64 y) ∧ V.cell? ⟨p2, 0, none⟩ = some (.int .i64 x) ∧ V.cell? ⟨p2, 1, none⟩ = some (.int .i64 y) ∧ V.cell? ⟨pn, 1, none⟩ = some (.int .i64 t1)) ∧ Below w8.heap.size w8 V) (by kernel_rfl) ?_
            have hS := (HQ8.out _ (Below.refl _ _).drew)
            refine any_take 0 ?vsean1 rfl (by kernel_rfl) (by kernel_rfl) (by kernel_rfl) (fun _ _ _ h => h) (by rfl) ?hsean1 hS ?_
            case hsean1 => (intro w hSw; (try dsimp only at hSw); go_split_ands; go_simp; (try with_reducible rfl))
            (try simp only [Act.put, List.setIfInBounds_toArray, List.set_cons_zero, List.set_cons_succ])
            refine any_take 1 ?vsean2 rfl (by kernel_rfl) (by kernel_rfl) (by kernel_rfl) (fun _ _ _ h => h) (by rfl) ?hsean2 hS ?_
            case hsean2 => (intro w hSw; (try dsimp only at hSw); go_split_ands; go_simp; (try with_reducible rfl))
            (try simp only [Act.put, List.setIfInBounds_toArray, List.set_cons_zero, List.set_cons_succ])
            refine any_take 2 (Value.bool false) rfl (by kernel_rfl) (by kernel_rfl) (by kernel_rfl) (fun _ _ _ h => h) (by rfl) (by intro w hSw; (try dsimp only at hSw); go_split_ands; go_simp) hS ?_
            (try simp only [Act.put, List.setIfInBounds_toArray, List.set_cons_zero, List.set_cons_succ])
            refine any_take 3 ?vsean3 rfl (by kernel_rfl) (by kernel_rfl) (by kernel_rfl) (fun _ _ _ h => h) (by rfl) ?hsean3 hS ?_
            case hsean3 => (intro w hSw; (try dsimp only at hSw); go_split_ands; go_simp; (try with_reducible rfl))
            (try simp only [Act.put, List.setIfInBounds_toArray, List.set_cons_zero, List.set_cons_succ])
            refine any_take 4 ?vsean4 rfl (by kernel_rfl) (by kernel_rfl) (by kernel_rfl) (fun _ _ _ h => h) (by rfl) ?hsean4 hS ?_
            case hsean4 => (intro w hSw; (try dsimp only at hSw); go_split_ands; go_simp; (try with_reducible rfl))
            (try simp only [Act.put, List.setIfInBounds_toArray, List.set_cons_zero, List.set_cons_succ])
            refine any_take 5 ?vsean5 rfl (by kernel_rfl) (by kernel_rfl) (by kernel_rfl) (fun _ _ _ h => h) (by rfl) ?hsean5 hS ?_
            case hsean5 => (intro w hSw; (try dsimp only at hSw); go_split_ands; go_simp; (try with_reducible rfl))
            (try simp only [Act.put, List.setIfInBounds_toArray, List.set_cons_zero, List.set_cons_succ])
            refine any_take 6 ?vsean6 rfl (by kernel_rfl) (by kernel_rfl) (by kernel_rfl) (fun _ _ _ h => h) (by rfl) ?hsean6 hS ?_
            case hsean6 => (intro w hSw; (try dsimp only at hSw); go_split_ands; go_simp; (try with_reducible rfl))
            (try simp only [Act.put, List.setIfInBounds_toArray, List.set_cons_zero, List.set_cons_succ])
            refine any_take 7 ?vsean7 rfl (by kernel_rfl) (by kernel_rfl) (by kernel_rfl) (fun _ _ _ h => h) (by rfl) ?hsean7 hS ?_
            case hsean7 => (intro w hSw; (try dsimp only at hSw); go_split_ands; go_simp; (try with_reducible rfl))
            (try simp only [Act.put, List.setIfInBounds_toArray, List.set_cons_zero, List.set_cons_succ])
            refine any_take 8 ?vsean8 rfl (by kernel_rfl) (by kernel_rfl) (by kernel_rfl) (fun _ _ _ h => h) (by rfl) ?hsean8 hS ?_
            case hsean8 => (intro w hSw; (try dsimp only at hSw); go_split_ands; go_simp; (try with_reducible rfl))
            (try simp only [Act.put, List.setIfInBounds_toArray, List.set_cons_zero, List.set_cons_succ])
            refine any_take 9 ?vsean9 rfl (by kernel_rfl) (by kernel_rfl) (by kernel_rfl) (fun _ _ _ h => h) (by rfl) ?hsean9 hS ?_
            case hsean9 => (intro w hSw; (try dsimp only at hSw); go_split_ands; go_simp; (try with_reducible rfl))
            (try simp only [Act.put, List.setIfInBounds_toArray, List.set_cons_zero, List.set_cons_succ])
            refine any_take 10 ?vsean10 rfl (by kernel_rfl) (by kernel_rfl) (by kernel_rfl) (fun _ _ _ h => h) (by rfl) ?hsean10 hS ?_
            case hsean10 => (intro w hSw; (try dsimp only at hSw); go_split_ands; go_simp; (try with_reducible rfl))
            (try simp only [Act.put, List.setIfInBounds_toArray, List.set_cons_zero, List.set_cons_succ])
            refine any_take 11 ?vsean11 rfl (by kernel_rfl) (by kernel_rfl) (by kernel_rfl) (fun _ _ _ h => h) (by rfl) ?hsean11 hS ?_
            case hsean11 => (intro w hSw; (try dsimp only at hSw); go_split_ands; go_simp; (try with_reducible rfl))
            (try simp only [Act.put, List.setIfInBounds_toArray, List.set_cons_zero, List.set_cons_succ])
            refine any_take 12 ?vsean12 rfl (by kernel_rfl) (by kernel_rfl) (by kernel_rfl) (fun _ _ _ h => h) (by rfl) ?hsean12 hS ?_
            case hsean12 => (intro w hSw; (try dsimp only at hSw); go_split_ands; go_simp; (try with_reducible rfl))
            (try simp only [Act.put, List.setIfInBounds_toArray, List.set_cons_zero, List.set_cons_succ])
            refine any_take 13 ?vsean13 rfl (by kernel_rfl) (by kernel_rfl) (by kernel_rfl) (fun _ _ _ h => h) (by rfl) ?hsean13 hS ?_
            case hsean13 => (intro w hSw; (try dsimp only at hSw); go_split_ands; go_simp; (try with_reducible rfl))
            (try simp only [Act.put, List.setIfInBounds_toArray, List.set_cons_zero, List.set_cons_succ])
            refine any_take 14 ?vsean14 rfl (by kernel_rfl) (by kernel_rfl) (by kernel_rfl) (fun _ _ _ h => h) (by rfl) ?hsean14 hS ?_
            case hsean14 => (intro w hSw; (try dsimp only at hSw); go_split_ands; go_simp; (try with_reducible rfl))
            (try simp only [Act.put, List.setIfInBounds_toArray, List.set_cons_zero, List.set_cons_succ])
            refine any_take 15 ?vsean15 rfl (by kernel_rfl) (by kernel_rfl) (by kernel_rfl) (fun _ _ _ h => h) (by rfl) ?hsean15 hS ?_
            case hsean15 => (intro w hSw; (try dsimp only at hSw); go_split_ands; go_simp; (try with_reducible rfl))
            (try simp only [Act.put, List.setIfInBounds_toArray, List.set_cons_zero, List.set_cons_succ])
            refine any_take 16 ?vsean16 rfl (by kernel_rfl) (by kernel_rfl) (by kernel_rfl) (fun _ _ _ h => h) (by rfl) ?hsean16 hS ?_
            case hsean16 => (intro w hSw; (try dsimp only at hSw); go_split_ands; go_simp; (try with_reducible rfl))
            (try simp only [Act.put, List.setIfInBounds_toArray, List.set_cons_zero, List.set_cons_succ])
            refine any_take 17 ?vsean17 rfl (by kernel_rfl) (by kernel_rfl) (by kernel_rfl) (fun _ _ _ h => h) (by rfl) ?hsean17 hS ?_
            case hsean17 => (intro w hSw; (try dsimp only at hSw); go_split_ands; go_simp; (try with_reducible rfl))
            (try simp only [Act.put, List.setIfInBounds_toArray, List.set_cons_zero, List.set_cons_succ])
            refine any_take 18 ?vsean18 rfl (by kernel_rfl) (by kernel_rfl) (by kernel_rfl) (fun _ _ _ h => h) (by rfl) ?hsean18 hS ?_
            case hsean18 => (intro w hSw; (try dsimp only at hSw); go_split_ands; go_simp; (try with_reducible rfl))
            (try simp only [Act.put, List.setIfInBounds_toArray, List.set_cons_zero, List.set_cons_succ])
            refine any_take 19 ?vsean19 rfl (by kernel_rfl) (by kernel_rfl) (by kernel_rfl) (fun _ _ _ h => h) (by rfl) ?hsean19 hS ?_
            case hsean19 => (intro w hSw; (try dsimp only at hSw); go_split_ands; go_simp; (try with_reducible rfl))
            (try simp only [Act.put, List.setIfInBounds_toArray, List.set_cons_zero, List.set_cons_succ])
            refine any_take 20 ?vsean20 rfl (by kernel_rfl) (by kernel_rfl) (by kernel_rfl) (fun _ _ _ h => h) (by rfl) ?hsean20 hS ?_
            case hsean20 => (intro w hSw; (try dsimp only at hSw); go_split_ands; go_simp; (try with_reducible rfl))
            (try simp only [Act.put, List.setIfInBounds_toArray, List.set_cons_zero, List.set_cons_succ])
            refine any_take 21 ?vsean21 rfl (by kernel_rfl) (by kernel_rfl) (by kernel_rfl) (fun _ _ _ h => h) (by rfl) ?hsean21 hS ?_
            case hsean21 => (intro w hSw; (try dsimp only at hSw); go_split_ands; go_simp; (try with_reducible rfl))
            (try simp only [Act.put, List.setIfInBounds_toArray, List.set_cons_zero, List.set_cons_succ])
            refine any_take 23 ?vsean22 rfl (by kernel_rfl) (by kernel_rfl) (by kernel_rfl) (fun _ _ _ h => h) (by rfl) ?hsean22 hS ?_
            case hsean22 => (intro w hSw; (try dsimp only at hSw); go_split_ands; go_simp; (try with_reducible rfl))
            (try simp only [Act.put, List.setIfInBounds_toArray, List.set_cons_zero, List.set_cons_succ])
            refine any_take 24 ?vsean23 rfl (by kernel_rfl) (by kernel_rfl) (by kernel_rfl) (fun _ _ _ h => h) (by rfl) ?hsean23 hS ?_
            case hsean23 => (intro w hSw; (try dsimp only at hSw); go_split_ands; go_simp; (try with_reducible rfl))
            (try simp only [Act.put, List.setIfInBounds_toArray, List.set_cons_zero, List.set_cons_succ])
            refine any_take 25 ?vsean24 rfl (by kernel_rfl) (by kernel_rfl) (by kernel_rfl) (fun _ _ _ h => h) (by rfl) ?hsean24 hS ?_
            case hsean24 => (intro w hSw; (try dsimp only at hSw); go_split_ands; go_simp; (try with_reducible rfl))
            (try simp only [Act.put, List.setIfInBounds_toArray, List.set_cons_zero, List.set_cons_succ])
            refine any_one 22 rfl (by kernel_rfl) (by rfl) (fun K hK => ?_)
            have hSS : _ := hS
            clear hS
            go_simp
            refine (KNE.out _ (Hw8.out.1.below hSS.2)).mono ?_
            rintro ev wp ⟨rfl, hbp⟩
            have hbe := hSS.2.trans (hbp.mono hSS.2.size)
            refine hK.out _ _ (HQ8.out _ hbe) (fun hS => ?_)
            clear hK
            (try simp only [Act.put, List.setIfInBounds_toArray, List.set_cons_zero, List.set_cons_succ])
            refine any_one 26 rfl (by kernel_rfl) (by rfl) (fun K hK => ?_)
            have hSS : _ := hS
            clear hS
            go_simp
            refine (KRN.out _ (Hw8.out.1.below hbe)).mono ?_
            rintro ev w9 ⟨rfl, hb9⟩
            have hbf := hbe.trans (hb9.mono hbe.size)
            refine hK.out _ _ (HQ8.out _ hbf) (fun hS => ?_)
            clear hK
            (try simp only [Act.put, List.setIfInBounds_toArray, List.set_cons_zero, List.set_cons_succ])
            refine any_take 27 ?vsean25 rfl (by kernel_rfl) (by kernel_rfl) (by kernel_rfl) (fun _ _ _ h => h) (by rfl) ?hsean25 hS ?_
            case hsean25 => (intro w hSw; (try dsimp only at hSw); go_split_ands; go_simp; (try with_reducible rfl))
            (try simp only [Act.put, List.setIfInBounds_toArray, List.set_cons_zero, List.set_cons_succ])
            refine any_take 28 ?vsean26 rfl (by kernel_rfl) (by kernel_rfl) (by kernel_rfl) (fun _ _ _ h => h) (by rfl) ?hsean26 hS ?_
            case hsean26 => (intro w hSw; (try dsimp only at hSw); go_split_ands; go_simp; (try with_reducible rfl))
            (try simp only [Act.put, List.setIfInBounds_toArray, List.set_cons_zero, List.set_cons_succ])
            refine wpAnyH_done (by kernel_rfl) ?_ _
            refine NoPanic.normal ?_
            have H9 : Hid (XD W1 w9 g r v3 v3 n pn t0 t1) := Hw8.out.1.below hbf
            clear hS hSS hbp hb9 hbe hbf Hw8 HQ8 KNE KRN hneq HQ0 HC i1 i2 i3 i4
            have hbx := H9.out.box.2
            have KF : Hid (∀ V, XD W1 V g r v3 v3 n pn t0 t1 → Calls Try.prog 20 #[.pointer (some ⟨g, 0, none⟩), .int .i64 t1] V fun e w' => ∃ x c, e = .returned (.slice x (frU v3 t1 v3.c.n.toNat).length c) ∧ LsI w' x (frU v3 t1 v3.c.n.toNat) ∧ Below V.heap.size V w') := fun V hV => hV.fresh t1
            have KRF : Hid (∀ V, XD W1 V g r v3 v3 n pn t0 t1 → Calls Try.prog 21 #[.pointer (some ⟨r, 0, none⟩), .int .i64 t1] V fun e w' => ∃ x c, e = .returned (.slice x (frU v3 t1 v3.c.n.toNat).length c) ∧ LsI w' x (frU v3 t1 v3.c.n.toNat) ∧ Below V.heap.size V w') := fun V hV => hV.rfresh t1
            have KO : Hid (∀ V, XD W1 V g r v3 v3 n pn t0 t1 → Calls Try.prog 22 #[.pointer (some ⟨g, 0, none⟩), .int .i64 t1] V fun e w' => ∃ x c, e = .returned (.slice x (ofU v3 t1 v3.c.n.toNat).length c) ∧ LsV w' x (ofU v3 t1 v3.c.n.toNat) ∧ Below V.heap.size V w') := fun V hV => hV.offs t1
            have KRO : Hid (∀ V, XD W1 V g r v3 v3 n pn t0 t1 → Calls Try.prog 23 #[.pointer (some ⟨r, 0, none⟩), .int .i64 t1] V fun e w' => ∃ x c, e = .returned (.slice x (ofU v3 t1 v3.c.n.toNat).length c) ∧ LsV w' x (ofU v3 t1 v3.c.n.toNat) ∧ Below V.heap.size V w') := fun V hV => hV.roffs t1
            have HLN : Hid ((frU v3 t1 v3.c.n.toNat).length ≤ 8 ∧ (ofU v3 t1 v3.c.n.toNat).length ≤ 8) := by
              have h1 := fr_len v3 t1 v3.c.n.toNat
              have h2 := of_len v3 t1 v3.c.n.toNat
              have h3 := (right_of H9.out.vk.r).n1
              exact ⟨by omega, by omega⟩
            generalize frU v3 t1 v3.c.n.toNat = LA at *
            generalize ofU v3 t1 v3.c.n.toNat = LB at *
            go_wp2_with fail
            refine (KF.out _ H9.out).mono ?_
            rintro ev wA ⟨sa, ca, rfl, hL, hbb⟩
            have HA : Hid (XD W1 wA g r v3 v3 n pn t0 t1 ∧ LsI wA sa LA) := ⟨H9.out.below hbb, hL⟩
            clear hbx hL hbb H9 KF
            have hbx := HA.out.1.box.2
            go_wp2_with fail
            refine (KRF.out _ HA.out.1).mono ?_
            rintro ev wB ⟨sb, cb, rfl, hL, hbb⟩
            have HB : Hid (XD W1 wB g r v3 v3 n pn t0 t1 ∧ LsI wB sa LA ∧ LsI wB sb LA) := ⟨HA.out.1.below hbb, HA.out.2.below hbb, hL⟩
            clear hbx hL hbb HA KRF
            have hbx := HB.out.1.box.2
            go_wp2_with fail
            refine (KO.out _ HB.out.1).mono ?_
            rintro ev wC ⟨sc, cc, rfl, hL, hbb⟩
            have HCC : Hid (XD W1 wC g r v3 v3 n pn t0 t1 ∧ LsI wC sa LA ∧ LsI wC sb LA ∧ LsV wC sc LB) := ⟨HB.out.1.below hbb, HB.out.2.1.below hbb, HB.out.2.2.below hbb, hL⟩
            clear hbx hL hbb HB KO
            have hbx := HCC.out.1.box.2
            go_wp2_with fail
            refine (KRO.out _ HCC.out.1).mono ?_
            rintro ev wD ⟨sd, cd, rfl, hL, hbb⟩
            have HD : Hid (XD W1 wD g r v3 v3 n pn t0 t1 ∧ LsI wD sa LA ∧ LsI wD sb LA ∧ LsV wD sc LB ∧ LsV wD sd LB) := ⟨HCC.out.1.below hbb, HCC.out.2.1.below hbb, HCC.out.2.2.1.below hbb, HCC.out.2.2.2.below hbb, hL⟩
            clear hbx hL hbb HCC KRO
            go_wp2
            go_loopw [31] (fun u wr => ∃ d : Nat, d ≤ LA.length ∧ u = .int .i64 (d : Int) ∧ Below wD.heap.size wD wr) (fun u _ => LA.length - (intOf u).toNat)
            case atStart => exact ⟨0, Nat.zero_le _, rfl, Below.refl _ _⟩
            case round =>
              obtain ⟨d, hd, rfl, hbd⟩ := hrel
              have gd : (0 : Int) ≤ (d : Int) := Int.natCast_nonneg _
              have HBD : Hid (Below wD.heap.size wD wr ∧ d ≤ LA.length) := ⟨hbd, hd⟩
              clear hbd hd
              by_cases hlt : (d : Int) < (LA.length : Int)
              · obtain ⟨z1, hz1⟩ : ∃ z, LA[d]? = some z := ⟨_, List.getElem?_eq_getElem (by omega)⟩
                have e10 : IntKind.i64.wrap ((d : Int) + 1) = ((d + 1 : Nat) : Int) := by have := HLN.out; rw [wrap_in (by omega) (by omega)]; omega
                obtain ⟨q1, hq1, _⟩ := HD.out.2.1 d z1 hz1
                obtain ⟨q2, hq2, _⟩ := HD.out.2.2.1 d z1 hz1
                subst hq1
                subst hq2
                have hS0 : wr.drew.cell? ⟨q1, d, none⟩ = some (.int .i64 z1) ∧ wr.drew.cell? ⟨q2, d, none⟩ = some (.int .i64 z1) := by
                  obtain ⟨b1, hb1, h1⟩ := (HD.out.2.1.below (HBD.out.1.drew)) d z1 hz1
                  obtain ⟨b2, hb2, h2⟩ := (HD.out.2.2.1.below (HBD.out.1.drew)) d z1 hz1
                  cases hb1
                  cases hb2
                  exact ⟨h1, h2⟩
                have HJD : Hid (d < LA.length) := by show d < LA.length; omega
                clear hz1
                go_upto_region 31 with fail
                refine wp_region_noPanic ?_
                refine wp_region_held (S := fun V => V.cell? ⟨q1, d, none⟩ = some (.int .i64 z1) ∧ V.cell? ⟨q2, d, none⟩ = some (.int .i64 z1)) (by kernel_rfl) ?_
                have hS := hS0
                refine any_take 0 ?vsfan1 rfl (by kernel_rfl) (by kernel_rfl) (by kernel_rfl) (fun _ _ _ h => h) (by rfl) ?hsfan1 hS ?_
                case hsfan1 => (intro w hSw; (try dsimp only at hSw); go_split_ands; go_simp; (try with_reducible rfl))
                (try simp only [Act.put, List.setIfInBounds_toArray, List.set_cons_zero, List.set_cons_succ])
                refine any_take 1 ?vsfan2 rfl (by kernel_rfl) (by kernel_rfl) (by kernel_rfl) (fun _ _ _ h => h) (by rfl) ?hsfan2 hS ?_
                case hsfan2 => (intro w hSw; (try dsimp only at hSw); go_split_ands; go_simp; (try with_reducible rfl))
                (try simp only [Act.put, List.setIfInBounds_toArray, List.set_cons_zero, List.set_cons_succ])
                refine any_take 2 ?vsfan3 rfl (by kernel_rfl) (by kernel_rfl) (by kernel_rfl) (fun _ _ _ h => h) (by rfl) ?hsfan3 hS ?_
                case hsfan3 => (intro w hSw; (try dsimp only at hSw); go_split_ands; go_simp; (try with_reducible rfl))
                (try simp only [Act.put, List.setIfInBounds_toArray, List.set_cons_zero, List.set_cons_succ])
                refine any_take 3 ?vsfan4 rfl (by kernel_rfl) (by kernel_rfl) (by kernel_rfl) (fun _ _ _ h => h) (by rfl) ?hsfan4 hS ?_
                case hsfan4 => (intro w hSw; (try dsimp only at hSw); go_split_ands; go_simp; (try with_reducible rfl))
                (try simp only [Act.put, List.setIfInBounds_toArray, List.set_cons_zero, List.set_cons_succ])
                refine any_take 4 ?vsfan5 rfl (by kernel_rfl) (by kernel_rfl) (by kernel_rfl) (fun _ _ _ h => h) (by rfl) ?hsfan5 hS ?_
                case hsfan5 => (intro w hSw; (try dsimp only at hSw); go_split_ands; go_simp; (try with_reducible rfl))
                (try simp only [Act.put, List.setIfInBounds_toArray, List.set_cons_zero, List.set_cons_succ])
                refine any_take 5 ?vsfan6 rfl (by kernel_rfl) (by kernel_rfl) (by kernel_rfl) (fun _ _ _ h => h) (by rfl) ?hsfan6 hS ?_
                case hsfan6 => (intro w hSw; (try dsimp only at hSw); go_split_ands; go_simp; (try with_reducible rfl))
                (try simp only [Act.put, List.setIfInBounds_toArray, List.set_cons_zero, List.set_cons_succ])
                refine any_take 6 ?vsfan7 rfl (by kernel_rfl) (by kernel_rfl) (by kernel_rfl) (fun _ _ _ h => h) (by rfl) ?hsfan7 hS ?_
                case hsfan7 => (intro w hSw; (try dsimp only at hSw); go_split_ands; go_simp; (try with_reducible rfl))
                (try simp only [Act.put, List.setIfInBounds_toArray, List.set_cons_zero, List.set_cons_succ])
                refine any_take 7 ?vsfan8 rfl (by kernel_rfl) (by kernel_rfl) (by kernel_rfl) (fun _ _ _ h => h) (by rfl) ?hsfan8 hS ?_
                case hsfan8 => (intro w hSw; (try dsimp only at hSw); go_split_ands; go_simp; (try with_reducible rfl))
                (try simp only [Act.put, List.setIfInBounds_toArray, List.set_cons_zero, List.set_cons_succ])
                refine any_take 8 (Value.bool false) rfl (by kernel_rfl) (by kernel_rfl) (by kernel_rfl) (fun _ _ _ h => h) (by rfl) (by intro w hSw; (try dsimp only at hSw); go_split_ands; go_simp) hS ?_
                (try simp only [Act.put, List.setIfInBounds_toArray, List.set_cons_zero, List.set_cons_succ])
                refine wpAnyH_done (by kernel_rfl) ?_ _
                refine NoPanic.normal ?_
                clear hS hS0
                go_wp2
                go_roundw
                case rel => exact ⟨d + 1, HJD.out, rfl, HBD.out.1.drew⟩
                case measure => have := HJD.out; simp [intOf]; omega
              · clear gd
                go_wp2
                clear hlt
                go_loopw [32] (fun u wr => ∃ d : Nat, d ≤ LB.length ∧ u = .int .i64 (d : Int) ∧ Below wD.heap.size wD wr) (fun u _ => LB.length - (intOf u).toNat)
                case atStart => exact ⟨0, Nat.zero_le _, rfl, HBD.out.1⟩
                case round =>
                  clear HBD
                  obtain ⟨d, hd, rfl, hbd⟩ := hrel
                  have gd : (0 : Int) ≤ (d : Int) := Int.natCast_nonneg _
                  have HBD : Hid (Below wD.heap.size wD wr ∧ d ≤ LB.length) := ⟨hbd, hd⟩
                  clear hbd hd
                  by_cases hlt : (d : Int) < (LB.length : Int)
                  · obtain ⟨⟨z1, z2⟩, hz1⟩ : ∃ z, LB[d]? = some z := ⟨_, List.getElem?_eq_getElem (by omega)⟩
                    have e10 : IntKind.i64.wrap ((d : Int) + 1) = ((d + 1 : Nat) : Int) := by have := HLN.out; rw [wrap_in (by omega) (by omega)]; omega
                    obtain ⟨q1, hq1, _⟩ := HD.out.2.2.2.1 d (z1, z2) hz1
                    obtain ⟨q2, hq2, _⟩ := HD.out.2.2.2.2 d (z1, z2) hz1
                    subst hq1
                    subst hq2
                    have hS0 : wr.drew.cell? ⟨q1, d * 2, none⟩ = some (.int .i64 z1) ∧ wr.drew.cell? ⟨q1, d * 2 + 1, none⟩ = some (.int .i64 z2) ∧ wr.drew.cell? ⟨q2, d * 2, none⟩ = some (.int .i64 z1) ∧ wr.drew.cell? ⟨q2, d * 2 + 1, none⟩ = some (.int .i64 z2) := by
                      obtain ⟨b1, hb1, h1, h2⟩ := (HD.out.2.2.2.1.below (HBD.out.1.drew)) d (z1, z2) hz1
                      obtain ⟨b2, hb2, h3, h4⟩ := (HD.out.2.2.2.2.below (HBD.out.1.drew)) d (z1, z2) hz1
                      cases hb1
                      cases hb2
                      exact ⟨h1, h2, h3, h4⟩
                    have hneq : ∀ W, (binOp .neq 39 (.agg #[.int .i64 z1, .int .i64 z2]) (.agg #[.int .i64 z1, .int .i64 z2])).run Try.prog W = .ok (.bool false) W := fun W => by
                      have := neqIv z1 z2 z1 z2 W
                      simpa using this
                    have HJD : Hid (d < LB.length) := by show d < LB.length; omega
                    clear hz1
                    go_upto_region 36 with fail
                    refine wp_region_noPanic ?_
                    refine wp_region_held (S := fun V => V.cell? ⟨q1, d * 2, none⟩ = some (.int .i64 z1) ∧ V.cell? ⟨q1, d * 2 + 1, none⟩ = some (.int .i64 z2) ∧ V.cell? ⟨q2, d * 2, none⟩ = some (.int .i64 z1) ∧ V.cell? ⟨q2, d * 2 + 1, none⟩ = some (.int .i64 z2)) (by kernel_rfl) ?_
                    have hS := hS0
                    refine any_take 0 ?vsgan1 rfl (by kernel_rfl) (by kernel_rfl) (by kernel_rfl) (fun _ _ _ h => h) (by rfl) ?hsgan1 hS ?_
                    case hsgan1 => (intro w hSw; (try dsimp only at hSw); go_split_ands; go_simp; (try with_reducible rfl))
                    (try simp only [Act.put, List.setIfInBounds_toArray, List.set_cons_zero, List.set_cons_succ])
                    refine any_take 1 ?vsgan2 rfl (by kernel_rfl) (by kernel_rfl) (by kernel_rfl) (fun _ _ _ h => h) (by rfl) ?hsgan2 hS ?_
                    case hsgan2 => (intro w hSw; (try dsimp only at hSw); go_split_ands; go_simp; (try with_reducible rfl))
                    (try simp only [Act.put, List.setIfInBounds_toArray, List.set_cons_zero, List.set_cons_succ])
                    refine any_take 2 ?vsgan3 rfl (by kernel_rfl) (by kernel_rfl) (by kernel_rfl) (fun _ _ _ h => h) (by rfl) ?hsgan3 hS ?_
                    case hsgan3 => (intro w hSw; (try dsimp only at hSw); go_split_ands; go_simp; (try with_reducible rfl))
                    (try simp only [Act.put, List.setIfInBounds_toArray, List.set_cons_zero, List.set_cons_succ])
                    refine any_take 3 ?vsgan4 rfl (by kernel_rfl) (by kernel_rfl) (by kernel_rfl) (fun _ _ _ h => h) (by rfl) ?hsgan4 hS ?_
                    case hsgan4 => (intro w hSw; (try dsimp only at hSw); go_split_ands; go_simp; (try with_reducible rfl))
                    (try simp only [Act.put, List.setIfInBounds_toArray, List.set_cons_zero, List.set_cons_succ])
                    refine any_take 4 ?vsgan5 rfl (by kernel_rfl) (by kernel_rfl) (by kernel_rfl) (fun _ _ _ h => h) (by rfl) ?hsgan5 hS ?_
                    case hsgan5 => (intro w hSw; (try dsimp only at hSw); go_split_ands; go_simp; (try with_reducible rfl))
                    (try simp only [Act.put, List.setIfInBounds_toArray, List.set_cons_zero, List.set_cons_succ])
                    refine any_take 5 ?vsgan6 rfl (by kernel_rfl) (by kernel_rfl) (by kernel_rfl) (fun _ _ _ h => h) (by rfl) ?hsgan6 hS ?_
                    case hsgan6 => (intro w hSw; (try dsimp only at hSw); go_split_ands; go_simp; (try with_reducible rfl))
                    (try simp only [Act.put, List.setIfInBounds_toArray, List.set_cons_zero, List.set_cons_succ])
                    refine any_take 6 ?vsgan7 rfl (by kernel_rfl) (by kernel_rfl) (by kernel_rfl) (fun _ _ _ h => h) (by rfl) ?hsgan7 hS ?_
                    case hsgan7 => (intro w hSw; (try dsimp only at hSw); go_split_ands; go_simp; (try with_reducible rfl))
                    (try simp only [Act.put, List.setIfInBounds_toArray, List.set_cons_zero, List.set_cons_succ])
                    refine any_take 7 ?vsgan8 rfl (by kernel_rfl) (by kernel_rfl) (by kernel_rfl) (fun _ _ _ h => h) (by rfl) ?hsgan8 hS ?_
                    case hsgan8 => (intro w hSw; (try dsimp only at hSw); go_split_ands; go_simp; (try with_reducible rfl))
                    (try simp only [Act.put, List.setIfInBounds_toArray, List.set_cons_zero, List.set_cons_succ])
                    refine any_take 8 (Value.bool false) rfl (by kernel_rfl) (by kernel_rfl) (by kernel_rfl) (fun _ _ _ h => h) (by rfl) (by intro w hSw; (try dsimp only at hSw); go_split_ands; go_simp) hS ?_
                    (try simp only [Act.put, List.setIfInBounds_toArray, List.set_cons_zero, List.set_cons_succ])
                    refine wpAnyH_done (by kernel_rfl) ?_ _
                    refine NoPanic.normal ?_
                    clear hS hS0 hneq
                    go_wp2
                    go_roundw
                    case rel => exact ⟨d + 1, HJD.out, rfl, HBD.out.1.drew⟩
                    case measure => have := HJD.out; simp [intOf]; omega
                  · have HE : Hid (Duo W1 wr g r v3 v3 n) := (HD.out.1.below HBD.out.1).duo
                    clear gd HD HBD
                    go_wp2
                    go_roundw
                    case rel => exact ⟨k + 1, n, v3, HK.out.1, by have := HK.out; omega, rfl, HE.out⟩
                    case measure => have := HK.out; simp [intOf]; omega
      · as_aux_lemma =>
        have h7b : (M == 7) = false := by simpa using h7
        obtain ⟨v3, hv3⟩ : ∃ v3, v3 = putV v f xa xb t0 := ⟨_, rfl⟩
        obtain ⟨E, hE⟩ : ∃ E, E = putE v f xa xb t0 := ⟨_, rfl⟩
        have ka := H2.out.drew.put (by have := HK.out; omega) f xa xb t0
        have KB : Hid (∀ W, XD W1 W g r v3 v (n + 1) pn t0 t1 → Calls Try.prog 13 #[.pointer (some ⟨r, 0, none⟩), .int .i64 f, .agg #[.int .i64 xa, .int .i64 xb], .int .i64 t0] W fun e w' => e = .returned (.int .i64 E) ∧ XD W1 w' g r v3 v3 (n + 1) pn t0 t1) := fun W hW => by have := hW.rput f xa xb t0; rw [← hv3, ← hE] at this; exact this
        rw [← hv3, ← hE] at ka
        have HQ : Hid (∀ W v u n, XD W1 W g r v u n pn t0 t1 → W.cell? ⟨fb, fo + k, none⟩ = some (.int .i64 f) ∧ W.cell? ⟨ob, oo + k * 2, none⟩ = some (.int .i64 xa) ∧ W.cell? ⟨ob, oo + k * 2 + 1, none⟩ = some (.int .i64 xb) ∧ W.cell? ⟨pn, 0, none⟩ = some (.int .i64 t0)) := fun W v u n hW => by
          obtain ⟨d1, d2, d3, d4, d5, d6⟩ := HC.out W (HBL.out W hW.low)
          exact ⟨d2, d3, d4, hW.box.1⟩
        have hS0 := HQ.out _ _ _ _ H2.out.drew
        clear hv3 hE H2
        go_upto_region 14 with fail
        clear d1
        refine wp_region_noPanic ?_
        refine wp_region_held (S := fun V => V.cell? ⟨fb, fo + k, none⟩ = some (.int .i64 f) ∧ V.cell? ⟨ob, oo + k * 2, none⟩ = some (.int .i64 xa) ∧ V.cell? ⟨ob, oo + k * 2 + 1, none⟩ = some (.int .i64 xb) ∧ V.cell? ⟨pn, 0, none⟩ = some (.int .i64 t0)) (by kernel_rfl) ?_
        have hS := hS0
        refine any_take 0 ?vrpn1 rfl (by kernel_rfl) (by kernel_rfl) (by kernel_rfl) (fun _ _ _ h => h) (by rfl) ?hrpn1 hS ?_
        case hrpn1 => (intro w hSw; (try dsimp only at hSw); go_split_ands; go_simp; (try with_reducible rfl))
        (try simp only [Act.put, List.setIfInBounds_toArray, List.set_cons_zero, List.set_cons_succ])
        refine any_take 1 ?vrpn2 rfl (by kernel_rfl) (by kernel_rfl) (by kernel_rfl) (fun _ _ _ h => h) (by rfl) ?hrpn2 hS ?_
        case hrpn2 => (intro w hSw; (try dsimp only at hSw); go_split_ands; go_simp; (try with_reducible rfl))
        (try simp only [Act.put, List.setIfInBounds_toArray, List.set_cons_zero, List.set_cons_succ])
        refine any_take 2 ?vrpn3 rfl (by kernel_rfl) (by kernel_rfl) (by kernel_rfl) (fun _ _ _ h => h) (by rfl) ?hrpn3 hS ?_
        case hrpn3 => (intro w hSw; (try dsimp only at hSw); go_split_ands; go_simp; (try with_reducible rfl))
        (try simp only [Act.put, List.setIfInBounds_toArray, List.set_cons_zero, List.set_cons_succ])
        refine any_take 3 ?vrpn4 rfl (by kernel_rfl) (by kernel_rfl) (by kernel_rfl) (fun _ _ _ h => h) (by rfl) ?hrpn4 hS ?_
        case hrpn4 => (intro w hSw; (try dsimp only at hSw); go_split_ands; go_simp; (try with_reducible rfl))
        (try simp only [Act.put, List.setIfInBounds_toArray, List.set_cons_zero, List.set_cons_succ])
        refine any_take 4 ?vrpn5 rfl (by kernel_rfl) (by kernel_rfl) (by kernel_rfl) (fun _ _ _ h => h) (by rfl) ?hrpn5 hS ?_
        case hrpn5 => (intro w hSw; (try dsimp only at hSw); go_split_ands; go_simp; (try with_reducible rfl))
        (try simp only [Act.put, List.setIfInBounds_toArray, List.set_cons_zero, List.set_cons_succ])
        refine any_take 5 ?vrpn6 rfl (by kernel_rfl) (by kernel_rfl) (by kernel_rfl) (fun _ _ _ h => h) (by rfl) ?hrpn6 hS ?_
        case hrpn6 => (intro w hSw; (try dsimp only at hSw); go_split_ands; go_simp; (try with_reducible rfl))
        (try simp only [Act.put, List.setIfInBounds_toArray, List.set_cons_zero, List.set_cons_succ])
        refine any_take 6 ?vrpn7 rfl (by kernel_rfl) (by kernel_rfl) (by kernel_rfl) (fun _ _ _ h => h) (by rfl) ?hrpn7 hS ?_
        case hrpn7 => (intro w hSw; (try dsimp only at hSw); go_split_ands; go_simp; (try with_reducible rfl))
        (try simp only [Act.put, List.setIfInBounds_toArray, List.set_cons_zero, List.set_cons_succ])
        refine any_take 7 ?vrpn8 rfl (by kernel_rfl) (by kernel_rfl) (by kernel_rfl) (fun _ _ _ h => h) (by rfl) ?hrpn8 hS ?_
        case hrpn8 => (intro w hSw; (try dsimp only at hSw); go_split_ands; go_simp; (try with_reducible rfl))
        (try simp only [Act.put, List.setIfInBounds_toArray, List.set_cons_zero, List.set_cons_succ])
        refine any_take 8 ?vrpn9 rfl (by kernel_rfl) (by kernel_rfl) (by kernel_rfl) (fun _ _ _ h => h) (by rfl) ?hrpn9 hS ?_
        case hrpn9 => (intro w hSw; (try dsimp only at hSw); go_split_ands; go_simp; (try with_reducible rfl))
        (try simp only [Act.put, List.setIfInBounds_toArray, List.set_cons_zero, List.set_cons_succ])
        refine any_take 9 ?vrpn10 rfl (by kernel_rfl) (by kernel_rfl) (by kernel_rfl) (fun _ _ _ h => h) (by rfl) ?hrpn10 hS ?_
        case hrpn10 => (intro w hSw; (try dsimp only at hSw); go_split_ands; go_simp; (try with_reducible rfl))
        (try simp only [Act.put, List.setIfInBounds_toArray, List.set_cons_zero, List.set_cons_succ])
        refine any_take 10 ?vrpn11 rfl (by kernel_rfl) (by kernel_rfl) (by kernel_rfl) (fun _ _ _ h => h) (by rfl) ?hrpn11 hS ?_
        case hrpn11 => (intro w hSw; (try dsimp only at hSw); go_split_ands; go_simp; (try with_reducible rfl))
        (try simp only [Act.put, List.setIfInBounds_toArray, List.set_cons_zero, List.set_cons_succ])
        refine any_take 12 ?vrpn12 rfl (by kernel_rfl) (by kernel_rfl) (by kernel_rfl) (fun _ _ _ h => h) (by rfl) ?hrpn12 hS ?_
        case hrpn12 => (intro w hSw; (try dsimp only at hSw); go_split_ands; go_simp; (try with_reducible rfl))
        (try simp only [Act.put, List.setIfInBounds_toArray, List.set_cons_zero, List.set_cons_succ])
        refine any_take 13 ?vrpn13 rfl (by kernel_rfl) (by kernel_rfl) (by kernel_rfl) (fun _ _ _ h => h) (by rfl) ?hrpn13 hS ?_
        case hrpn13 => (intro w hSw; (try dsimp only at hSw); go_split_ands; go_simp; (try with_reducible rfl))
        (try simp only [Act.put, List.setIfInBounds_toArray, List.set_cons_zero, List.set_cons_succ])
        refine any_take 14 ?vrpn14 rfl (by kernel_rfl) (by kernel_rfl) (by kernel_rfl) (fun _ _ _ h => h) (by rfl) ?hrpn14 hS ?_
        case hrpn14 => (intro w hSw; (try dsimp only at hSw); go_split_ands; go_simp; (try with_reducible rfl))
        (try simp only [Act.put, List.setIfInBounds_toArray, List.set_cons_zero, List.set_cons_succ])
        refine any_take 15 ?vrpn15 rfl (by kernel_rfl) (by kernel_rfl) (by kernel_rfl) (fun _ _ _ h => h) (by rfl) ?hrpn15 hS ?_
        case hrpn15 => (intro w hSw; (try dsimp only at hSw); go_split_ands; go_simp; (try with_reducible rfl))
        (try simp only [Act.put, List.setIfInBounds_toArray, List.set_cons_zero, List.set_cons_succ])
        refine any_take 16 ?vrpn16 rfl (by kernel_rfl) (by kernel_rfl) (by kernel_rfl) (fun _ _ _ h => h) (by rfl) ?hrpn16 hS ?_
        case hrpn16 => (intro w hSw; (try dsimp only at hSw); go_split_ands; go_simp; (try with_reducible rfl))
        (try simp only [Act.put, List.setIfInBounds_toArray, List.set_cons_zero, List.set_cons_succ])
        refine any_take 17 ?vrpn17 rfl (by kernel_rfl) (by kernel_rfl) (by kernel_rfl) (fun _ _ _ h => h) (by rfl) ?hrpn17 hS ?_
        case hrpn17 => (intro w hSw; (try dsimp only at hSw); go_split_ands; go_simp; (try with_reducible rfl))
        (try simp only [Act.put, List.setIfInBounds_toArray, List.set_cons_zero, List.set_cons_succ])
        refine any_take 18 ?vrpn18 rfl (by kernel_rfl) (by kernel_rfl) (by kernel_rfl) (fun _ _ _ h => h) (by rfl) ?hrpn18 hS ?_
        case hrpn18 => (intro w hSw; (try dsimp only at hSw); go_split_ands; go_simp; (try with_reducible rfl))
        (try simp only [Act.put, List.setIfInBounds_toArray, List.set_cons_zero, List.set_cons_succ])
        refine any_take 19 ?vrpn19 rfl (by kernel_rfl) (by kernel_rfl) (by kernel_rfl) (fun _ _ _ h => h) (by rfl) ?hrpn19 hS ?_
        case hrpn19 => (intro w hSw; (try dsimp only at hSw); go_split_ands; go_simp; (try with_reducible rfl))
        (try simp only [Act.put, List.setIfInBounds_toArray, List.set_cons_zero, List.set_cons_succ])
        refine any_take 20 ?vrpn20 rfl (by kernel_rfl) (by kernel_rfl) (by kernel_rfl) (fun _ _ _ h => h) (by rfl) ?hrpn20 hS ?_
        case hrpn20 => (intro w hSw; (try dsimp only at hSw); go_split_ands; go_simp; (try with_reducible rfl))
        (try simp only [Act.put, List.setIfInBounds_toArray, List.set_cons_zero, List.set_cons_succ])
        refine any_take 21 ?vrpn21 rfl (by kernel_rfl) (by kernel_rfl) (by kernel_rfl) (fun _ _ _ h => h) (by rfl) ?hrpn21 hS ?_
        case hrpn21 => (intro w hSw; (try dsimp only at hSw); go_split_ands; go_simp; (try with_reducible rfl))
        (try simp only [Act.put, List.setIfInBounds_toArray, List.set_cons_zero, List.set_cons_succ])
        refine any_take 22 ?vrpn22 rfl (by kernel_rfl) (by kernel_rfl) (by kernel_rfl) (fun _ _ _ h => h) (by rfl) ?hrpn22 hS ?_
        case hrpn22 => (intro w hSw; (try dsimp only at hSw); go_split_ands; go_simp; (try with_reducible rfl))
        (try simp only [Act.put, List.setIfInBounds_toArray, List.set_cons_zero, List.set_cons_succ])
        refine any_one 11 rfl (by kernel_rfl) (by rfl) (fun K hK => ?_)
        clear hS
        go_simp
        refine ka.mono ?_
        rintro ev w4 ⟨rfl, hx4⟩
        have kb := KB.out w4 hx4
        refine hK.out _ _ (HQ.out _ _ _ _ hx4) (fun hS => ?_)
        clear hK
        (try simp only [Act.put, List.setIfInBounds_toArray, List.set_cons_zero, List.set_cons_succ])
        refine any_one 23 rfl (by kernel_rfl) (by rfl) (fun K hK => ?_)
        clear hS
        go_simp
        refine kb.mono ?_
        rintro ev wd ⟨rfl, hx5⟩
        refine hK.out _ _ (HQ.out _ _ _ _ hx5) (fun hS => ?_)
        clear hK
        (try simp only [Act.put, List.setIfInBounds_toArray, List.set_cons_zero, List.set_cons_succ])
        refine any_take 24 ?vrpn23 rfl (by kernel_rfl) (by kernel_rfl) (by kernel_rfl) (fun _ _ _ h => h) (by rfl) ?hrpn23 hS ?_
        case hrpn23 => (intro w hSw; (try dsimp only at hSw); go_split_ands; go_simp; (try with_reducible rfl))
        (try simp only [Act.put, List.setIfInBounds_toArray, List.set_cons_zero, List.set_cons_succ])
        refine wpAnyH_done (by kernel_rfl) ?_ _
        refine NoPanic.normal ?_
        have HX : Hid (XD W1 wd g r v3 v3 (n + 1) pn t0 t1) := hx5
        clear hS hS0 ka kb KB HQ hx4 hx5 m1 m2 m3 h7 h7b
        go_upto_region 16 with fail
        have hQ : ∀ B, XD W1 B g r v3 v3 (n + 1) pn t0 t1 → ∀ V, Below B.heap.size B V → (V.cell? ⟨fb, fo + k, none⟩ = some (.int .i64 f) ∧ V.cell? ⟨pn, 1, none⟩ = some (.int .i64 t1)) ∧ Below B.heap.size B V := fun B hB V hV => by
          have h1 := hB.below hV
          obtain ⟨d1, d2, d3, d4, d5, d6⟩ := HC.out V (HBL.out V h1.low)
          exact ⟨⟨d2, h1.box.2⟩, hV⟩
        have HQ0 : Hid (∀ B, XD W1 B g r v3 v3 (n + 1) pn t0 t1 → ∀ V, Below B.heap.size B V → (V.cell? ⟨fb, fo + k, none⟩ = some (.int .i64 f) ∧ V.cell? ⟨pn, 1, none⟩ = some (.int .i64 t1)) ∧ Below B.heap.size B V) := hQ
        have HQ : Hid (∀ V, Below wd.heap.size wd V → (V.cell? ⟨fb, fo + k, none⟩ = some (.int .i64 f) ∧ V.cell? ⟨pn, 1, none⟩ = some (.int .i64 t1)) ∧ Below wd.heap.size wd V) := hQ wd HX.out
        have KAT : Hid (∀ V, XD W1 V g r v3 v3 (n + 1) pn t0 t1 → Calls Try.prog 14 #[.pointer (some ⟨g, 0, none⟩), .int .i64 f, .int .i64 t1] V fun e w' => e = .returned (.tuple #[.agg #[.int .i64 (atA v3 f t1).a, .int .i64 (atA v3 f t1).b], .int .i64 (atA v3 f t1).e]) ∧ Below V.heap.size V w') := fun V hV => hV.at f t1
        have KRT : Hid (∀ V, XD W1 V g r v3 v3 (n + 1) pn t0 t1 → Calls Try.prog 15 #[.pointer (some ⟨r, 0, none⟩), .int .i64 f, .int .i64 t1] V fun e w' => e = .returned (.tuple #[.agg #[.int .i64 (atA v3 f t1).a, .int .i64 (atA v3 f t1).b], .int .i64 (atA v3 f t1).e]) ∧ Below V.heap.size V w') := fun V hV => hV.rat f t1
        have KMO : Hid (∀ V, XD W1 V g r v3 v3 (n + 1) pn t0 t1 → Calls Try.prog 16 #[.pointer (some ⟨g, 0, none⟩), .int .i64 f, .int .i64 t1] V fun e w' => e = .returned (.tuple #[.int .i64 (mosV (atA v3 f t1) t1), .int .i64 (atA v3 f t1).e]) ∧ Below V.heap.size V w') := fun V hV => hV.most f t1
        have KRM : Hid (∀ V, XD W1 V g r v3 v3 (n + 1) pn t0 t1 → Calls Try.prog 17 #[.pointer (some ⟨r, 0, none⟩), .int .i64 f, .int .i64 t1] V fun e w' => e = .returned (.tuple #[.int .i64 (mosV (atA v3 f t1) t1), .int .i64 (atA v3 f t1).e]) ∧ Below V.heap.size V w') := fun V hV => hV.rmost f t1
        generalize mosV (atA v3 f t1) t1 = mv at *
        generalize atA v3 f t1 = X at *
        obtain ⟨x, y, z⟩ := X
        dsimp only at KAT KRT KMO KRM
        clear hQ
        have KC : Hid (∀ V, Below wd.heap.size wd V → Calls Try.prog 14 #[.pointer (some ⟨g, 0, none⟩), .int .i64 f, .int .i64 t1] V fun e w' => e = .returned (.tuple #[.agg #[.int .i64 x, .int .i64 y], .int .i64 z]) ∧ Below V.heap.size V w') := fun V hV => KAT.out V (HX.out.below hV)
        refine wp_join (fun p W' => XD W1 W' g r v3 v3 (n + 1) pn t0 t1 ∧ Pair W' p x y) ?fab ?hab ?kab
        case hab =>
          refine wp_region_noPanic ?_
          refine wp_region_held (S := fun V => (V.cell? ⟨fb, fo + k, none⟩ = some (.int .i64 f) ∧ V.cell? ⟨pn, 1, none⟩ = some (.int .i64 t1)) ∧ Below wd.heap.size wd V) (by kernel_rfl) ?_
          have hS := (HQ.out _ (Below.refl _ _).drew)
          refine any_take 0 ?vsabn1 rfl (by kernel_rfl) (by kernel_rfl) (by kernel_rfl) (fun _ _ _ h => h) (by rfl) ?hsabn1 hS ?_
          case hsabn1 => (intro w hSw; (try dsimp only at hSw); go_split_ands; go_simp; (try with_reducible rfl))
          (try simp only [Act.put, List.setIfInBounds_toArray, List.set_cons_zero, List.set_cons_succ])
          refine any_take 1 ?vsabn2 rfl (by kernel_rfl) (by kernel_rfl) (by kernel_rfl) (fun _ _ _ h => h) (by rfl) ?hsabn2 hS ?_
          case hsabn2 => (intro w hSw; (try dsimp only at hSw); go_split_ands; go_simp; (try with_reducible rfl))
          (try simp only [Act.put, List.setIfInBounds_toArray, List.set_cons_zero, List.set_cons_succ])
          refine any_take 2 ?vsabn3 rfl (by kernel_rfl) (by kernel_rfl) (by kernel_rfl) (fun _ _ _ h => h) (by rfl) ?hsabn3 hS ?_
          case hsabn3 => (intro w hSw; (try dsimp only at hSw); go_split_ands; go_simp; (try with_reducible rfl))
          (try simp only [Act.put, List.setIfInBounds_toArray, List.set_cons_zero, List.set_cons_succ])
          refine any_take 3 ?vsabn4 rfl (by kernel_rfl) (by kernel_rfl) (by kernel_rfl) (fun _ _ _ h => h) (by rfl) ?hsabn4 hS ?_
          case hsabn4 => (intro w hSw; (try dsimp only at hSw); go_split_ands; go_simp; (try with_reducible rfl))
          (try simp only [Act.put, List.setIfInBounds_toArray, List.set_cons_zero, List.set_cons_succ])
          refine any_take 4 ?vsabn5 rfl (by kernel_rfl) (by kernel_rfl) (by kernel_rfl) (fun _ _ _ h => h) (by rfl) ?hsabn5 hS ?_
          case hsabn5 => (intro w hSw; (try dsimp only at hSw); go_split_ands; go_simp; (try with_reducible rfl))
          (try simp only [Act.put, List.setIfInBounds_toArray, List.set_cons_zero, List.set_cons_succ])
          refine any_take 5 ?vsabn6 rfl (by kernel_rfl) (by kernel_rfl) (by kernel_rfl) (fun _ _ _ h => h) (by rfl) ?hsabn6 hS ?_
          case hsabn6 => (intro w hSw; (try dsimp only at hSw); go_split_ands; go_simp; (try with_reducible rfl))
          (try simp only [Act.put, List.setIfInBounds_toArray, List.set_cons_zero, List.set_cons_succ])
          refine any_take 6 ?vsabn7 rfl (by kernel_rfl) (by kernel_rfl) (by kernel_rfl) (fun _ _ _ h => h) (by rfl) ?hsabn7 hS ?_
          case hsabn7 => (intro w hSw; (try dsimp only at hSw); go_split_ands; go_simp; (try with_reducible rfl))
          (try simp only [Act.put, List.setIfInBounds_toArray, List.set_cons_zero, List.set_cons_succ])
          refine any_two 7 11 rfl rfl (by kernel_rfl) (by rfl) (by rfl) (fun K hK => ?_) (fun K hK => ?_)
          · have hSS : _ := hS
            clear hS
            go_simp
            refine (KC.out _ hSS.2).mono ?_
            rintro ev wc ⟨rfl, hbc⟩
            (try have hPc := hP.below hbc)
            refine hK.out _ _ (HQ.out _ (hSS.2.trans (hbc.mono hSS.2.size))) (fun hS => ?_)
            clear hK
            (try simp only [Act.put, List.setIfInBounds_toArray, List.set_cons_zero, List.set_cons_succ])
            refine any_take 8 ?vsabn8 rfl (by kernel_rfl) (by kernel_rfl) (by kernel_rfl) (fun _ _ _ h => h) (by rfl) ?hsabn8 hS ?_
            case hsabn8 => (intro w hSw; (try dsimp only at hSw); go_split_ands; go_simp; (try with_reducible rfl))
            (try simp only [Act.put, List.setIfInBounds_toArray, List.set_cons_zero, List.set_cons_succ])
            refine any_take 9 ?vsabn9 rfl (by kernel_rfl) (by kernel_rfl) (by kernel_rfl) (fun _ _ _ h => h) (by rfl) ?hsabn9 hS ?_
            case hsabn9 => (intro w hSw; (try dsimp only at hSw); go_split_ands; go_simp; (try with_reducible rfl))
            (try simp only [Act.put, List.setIfInBounds_toArray, List.set_cons_zero, List.set_cons_succ])
            refine any_take 10 ?vsabn10 rfl (by kernel_rfl) (by kernel_rfl) (by kernel_rfl) (fun _ _ _ h => h) (by rfl) ?hsabn10 hS ?_
            case hsabn10 => (intro w hSw; (try dsimp only at hSw); go_split_ands; go_simp; (try with_reducible rfl))
            (try simp only [Act.put, List.setIfInBounds_toArray, List.set_cons_zero, List.set_cons_succ])
            refine any_one 11 rfl (by kernel_rfl) (by rfl) (fun K hK => ?_)
            have hSS : _ := hS
            clear hS
            go_simp
            first | (generalize hp9 : wc.heap.size = p9; have hPc : Pair (wc.alloc (.cells #[.int .i64 0, .int .i64 0] 39)) p9 0 0 := hp9 ▸ Pair.new wc 0 0; have hpl : wd.heap.size ≤ p9 := hp9 ▸ hSS.2.size) | (generalize hp9 : wd.heap.size = p9; have hP : Pair (wd.drew.alloc (.cells #[.int .i64 0, .int .i64 0] 39)) p9 0 0 := hp9 ▸ Pair.new wd.drew 0 0; have hpl : wd.heap.size ≤ p9 := Nat.le_of_eq hp9)
            refine hK.out _ _ (HQ.out _ (hSS.2.alloc hSS.2.size _)) (fun hS => ?_)
            clear hK
            (try simp only [Act.put, List.setIfInBounds_toArray, List.set_cons_zero, List.set_cons_succ])
            refine any_one 12 rfl (by kernel_rfl) (by rfl) (fun K hK => ?_)
            have hSS : _ := hS
            clear hS
            refine op_store_run 39 _ _ rfl _ _ rfl rfl (hPc.stores x y) ?_
            have hPd := hPc.stored x y
            have hbe := below_setRow hSS.2 hpl #[.int .i64 x, .int .i64 y]
            refine hK.out _ _ (HQ.out _ hbe) (fun hS => ?_)
            clear hK
            (try simp only [Act.put])
            refine any_take 13 ?vsabn11 rfl (by kernel_rfl) (by kernel_rfl) (by kernel_rfl) (fun _ _ _ h => h) (by rfl) ?hsabn11 hS ?_
            case hsabn11 => (intro w hSw; (try dsimp only at hSw); go_split_ands; go_simp; (try with_reducible rfl))
            (try simp only [Act.put, List.setIfInBounds_toArray, List.set_cons_zero, List.set_cons_succ])
            refine wpAnyH_done (by kernel_rfl) ?_ _
            refine NoPanic.normal ?_
            refine ⟨p9, rfl, ?_, HX.out.below hbe, hPd⟩
            exact rfl
          · have hSS : _ := hS
            clear hS
            go_simp
            first | (generalize hp9 : wc.heap.size = p9; have hPc : Pair (wc.alloc (.cells #[.int .i64 0, .int .i64 0] 39)) p9 0 0 := hp9 ▸ Pair.new wc 0 0; have hpl : wd.heap.size ≤ p9 := hp9 ▸ hSS.2.size) | (generalize hp9 : wd.heap.size = p9; have hP : Pair (wd.drew.alloc (.cells #[.int .i64 0, .int .i64 0] 39)) p9 0 0 := hp9 ▸ Pair.new wd.drew 0 0; have hpl : wd.heap.size ≤ p9 := Nat.le_of_eq hp9)
            refine hK.out _ _ (HQ.out _ (hSS.2.alloc hSS.2.size _)) (fun hS => ?_)
            clear hK
            (try simp only [Act.put, List.setIfInBounds_toArray, List.set_cons_zero, List.set_cons_succ])
            refine any_one 7 rfl (by kernel_rfl) (by rfl) (fun K hK => ?_)
            have hSS : _ := hS
            clear hS
            go_simp
            refine (KC.out _ hSS.2).mono ?_
            rintro ev wc ⟨rfl, hbc⟩
            (try have hPc := hP.below hbc)
            refine hK.out _ _ (HQ.out _ (hSS.2.trans (hbc.mono hSS.2.size))) (fun hS => ?_)
            clear hK
            (try simp only [Act.put, List.setIfInBounds_toArray, List.set_cons_zero, List.set_cons_succ])
            refine any_take 8 ?vsabn12 rfl (by kernel_rfl) (by kernel_rfl) (by kernel_rfl) (fun _ _ _ h => h) (by rfl) ?hsabn12 hS ?_
            case hsabn12 => (intro w hSw; (try dsimp only at hSw); go_split_ands; go_simp; (try with_reducible rfl))
            (try simp only [Act.put, List.setIfInBounds_toArray, List.set_cons_zero, List.set_cons_succ])
            refine any_take 9 ?vsabn13 rfl (by kernel_rfl) (by kernel_rfl) (by kernel_rfl) (fun _ _ _ h => h) (by rfl) ?hsabn13 hS ?_
            case hsabn13 => (intro w hSw; (try dsimp only at hSw); go_split_ands; go_simp; (try with_reducible rfl))
            (try simp only [Act.put, List.setIfInBounds_toArray, List.set_cons_zero, List.set_cons_succ])
            refine any_take 10 ?vsabn14 rfl (by kernel_rfl) (by kernel_rfl) (by kernel_rfl) (fun _ _ _ h => h) (by rfl) ?hsabn14 hS ?_
            case hsabn14 => (intro w hSw; (try dsimp only at hSw); go_split_ands; go_simp; (try with_reducible rfl))
            (try simp only [Act.put, List.setIfInBounds_toArray, List.set_cons_zero, List.set_cons_succ])
            refine any_one 12 rfl (by kernel_rfl) (by rfl) (fun K hK => ?_)
            have hSS : _ := hS
            clear hS
            refine op_store_run 39 _ _ rfl _ _ rfl rfl (hPc.stores x y) ?_
            have hPd := hPc.stored x y
            have hbe := below_setRow hSS.2 hpl #[.int .i64 x, .int .i64 y]
            refine hK.out _ _ (HQ.out _ hbe) (fun hS => ?_)
            clear hK
            (try simp only [Act.put])
            refine any_take 13 ?vsabn15 rfl (by kernel_rfl) (by kernel_rfl) (by kernel_rfl) (fun _ _ _ h => h) (by rfl) ?hsabn15 hS ?_
            case hsabn15 => (intro w hSw; (try dsimp only at hSw); go_split_ands; go_simp; (try with_reducible rfl))
            (try simp only [Act.put, List.setIfInBounds_toArray, List.set_cons_zero, List.set_cons_succ])
            refine wpAnyH_done (by kernel_rfl) ?_ _
            refine NoPanic.normal ?_
            refine ⟨p9, rfl, ?_, HX.out.below hbe, hPd⟩
            exact rfl
        case kab => as_aux_lemma =>
          rintro p1 w5 ⟨hX5, hP5⟩
          have H5 : Hid (XD W1 w5 g r v3 v3 (n + 1) pn t0 t1 ∧ Pair w5 p1 x y) := ⟨hX5, hP5⟩
          have HQ5 : Hid (∀ V, Below w5.heap.size w5 V → (V.cell? ⟨fb, fo + k, none⟩ = some (.int .i64 f) ∧ V.cell? ⟨pn, 1, none⟩ = some (.int .i64 t1)) ∧ Below w5.heap.size w5 V) := HQ0.out w5 hX5
          have KC5 : Hid (∀ V, Below w5.heap.size w5 V → Calls Try.prog 15 #[.pointer (some ⟨r, 0, none⟩), .int .i64 f, .int .i64 t1] V fun e w' => e = .returned (.tuple #[.agg #[.int .i64 x, .int .i64 y], .int .i64 z]) ∧ Below V.heap.size V w') := fun V hV => KRT.out V (hX5.below hV)
          clear hX5 hP5 HX HQ KC KAT KRT
          go_upto_region 17 with fail
          refine wp_join (fun p W' => XD W1 W' g r v3 v3 (n + 1) pn t0 t1 ∧ Pair W' p1 x y ∧ Pair W' p x y) ?fbb ?hbb ?kbb
          case hbb =>
            refine wp_region_noPanic ?_
            refine wp_region_held (S := fun V => (V.cell? ⟨fb, fo + k, none⟩ = some (.int .i64 f) ∧ V.cell? ⟨pn, 1, none⟩ = some (.int .i64 t1)) ∧ Below w5.heap.size w5 V) (by kernel_rfl) ?_
            have hS := (HQ5.out _ (Below.refl _ _).drew)
            refine any_take 0 ?vsbbn1 rfl (by kernel_rfl) (by kernel_rfl) (by kernel_rfl) (fun _ _ _ h => h) (by rfl) ?hsbbn1 hS ?_
            case hsbbn1 => (intro w hSw; (try dsimp only at hSw); go_split_ands; go_simp; (try with_reducible rfl))
            (try simp only [Act.put, List.setIfInBounds_toArray, List.set_cons_zero, List.set_cons_succ])
            refine any_take 1 ?vsbbn2 rfl (by kernel_rfl) (by kernel_rfl) (by kernel_rfl) (fun _ _ _ h => h) (by rfl) ?hsbbn2 hS ?_
            case hsbbn2 => (intro w hSw; (try dsimp only at hSw); go_split_ands; go_simp; (try with_reducible rfl))
            (try simp only [Act.put, List.setIfInBounds_toArray, List.set_cons_zero, List.set_cons_succ])
            refine any_take 2 ?vsbbn3 rfl (by kernel_rfl) (by kernel_rfl) (by kernel_rfl) (fun _ _ _ h => h) (by rfl) ?hsbbn3 hS ?_
            case hsbbn3 => (intro w hSw; (try dsimp only at hSw); go_split_ands; go_simp; (try with_reducible rfl))
            (try simp only [Act.put, List.setIfInBounds_toArray, List.set_cons_zero, List.set_cons_succ])
            refine any_take 3 ?vsbbn4 rfl (by kernel_rfl) (by kernel_rfl) (by kernel_rfl) (fun _ _ _ h => h) (by rfl) ?hsbbn4 hS ?_
            case hsbbn4 => (intro w hSw; (try dsimp only at hSw); go_split_ands; go_simp; (try with_reducible rfl))
            (try simp only [Act.put, List.setIfInBounds_toArray, List.set_cons_zero, List.set_cons_succ])
            refine any_take 4 ?vsbbn5 rfl (by kernel_rfl) (by kernel_rfl) (by kernel_rfl) (fun _ _ _ h => h) (by rfl) ?hsbbn5 hS ?_
            case hsbbn5 => (intro w hSw; (try dsimp only at hSw); go_split_ands; go_simp; (try with_reducible rfl))
            (try simp only [Act.put, List.setIfInBounds_toArray, List.set_cons_zero, List.set_cons_succ])
            refine any_take 5 ?vsbbn6 rfl (by kernel_rfl) (by kernel_rfl) (by kernel_rfl) (fun _ _ _ h => h) (by rfl) ?hsbbn6 hS ?_
            case hsbbn6 => (intro w hSw; (try dsimp only at hSw); go_split_ands; go_simp; (try with_reducible rfl))
            (try simp only [Act.put, List.setIfInBounds_toArray, List.set_cons_zero, List.set_cons_succ])
            refine any_take 6 ?vsbbn7 rfl (by kernel_rfl) (by kernel_rfl) (by kernel_rfl) (fun _ _ _ h => h) (by rfl) ?hsbbn7 hS ?_
            case hsbbn7 => (intro w hSw; (try dsimp only at hSw); go_split_ands; go_simp; (try with_reducible rfl))
            (try simp only [Act.put, List.setIfInBounds_toArray, List.set_cons_zero, List.set_cons_succ])
            refine any_two 7 11 rfl rfl (by kernel_rfl) (by rfl) (by rfl) (fun K hK => ?_) (fun K hK => ?_)
            · have hSS : _ := hS
              clear hS
              go_simp
              refine (KC5.out _ hSS.2).mono ?_
              rintro ev wc ⟨rfl, hbc⟩
              (try have hPc := hP.below hbc)
              refine hK.out _ _ (HQ5.out _ (hSS.2.trans (hbc.mono hSS.2.size))) (fun hS => ?_)
              clear hK
              (try simp only [Act.put, List.setIfInBounds_toArray, List.set_cons_zero, List.set_cons_succ])
              refine any_take 8 ?vsbbn8 rfl (by kernel_rfl) (by kernel_rfl) (by kernel_rfl) (fun _ _ _ h => h) (by rfl) ?hsbbn8 hS ?_
              case hsbbn8 => (intro w hSw; (try dsimp only at hSw); go_split_ands; go_simp; (try with_reducible rfl))
              (try simp only [Act.put, List.setIfInBounds_toArray, List.set_cons_zero, List.set_cons_succ])
              refine any_take 9 ?vsbbn9 rfl (by kernel_rfl) (by kernel_rfl) (by kernel_rfl) (fun _ _ _ h => h) (by rfl) ?hsbbn9 hS ?_
              case hsbbn9 => (intro w hSw; (try dsimp only at hSw); go_split_ands; go_simp; (try with_reducible rfl))
              (try simp only [Act.put, List.setIfInBounds_toArray, List.set_cons_zero, List.set_cons_succ])
              refine any_take 10 ?vsbbn10 rfl (by kernel_rfl) (by kernel_rfl) (by kernel_rfl) (fun _ _ _ h => h) (by rfl) ?hsbbn10 hS ?_
              case hsbbn10 => (intro w hSw; (try dsimp only at hSw); go_split_ands; go_simp; (try with_reducible rfl))
              (try simp only [Act.put, List.setIfInBounds_toArray, List.set_cons_zero, List.set_cons_succ])
              refine any_one 11 rfl (by kernel_rfl) (by rfl) (fun K hK => ?_)
              have hSS : _ := hS
              clear hS
              go_simp
              first | (generalize hp9 : wc.heap.size = p9; have hPc : Pair (wc.alloc (.cells #[.int .i64 0, .int .i64 0] 39)) p9 0 0 := hp9 ▸ Pair.new wc 0 0; have hpl : w5.heap.size ≤ p9 := hp9 ▸ hSS.2.size) | (generalize hp9 : w5.heap.size = p9; have hP : Pair (w5.drew.alloc (.cells #[.int .i64 0, .int .i64 0] 39)) p9 0 0 := hp9 ▸ Pair.new w5.drew 0 0; have hpl : w5.heap.size ≤ p9 := Nat.le_of_eq hp9)
              refine hK.out _ _ (HQ5.out _ (hSS.2.alloc hSS.2.size _)) (fun hS => ?_)
              clear hK
              (try simp only [Act.put, List.setIfInBounds_toArray, List.set_cons_zero, List.set_cons_succ])
              refine any_one 12 rfl (by kernel_rfl) (by rfl) (fun K hK => ?_)
              have hSS : _ := hS
              clear hS
              refine op_store_run 39 _ _ rfl _ _ rfl rfl (hPc.stores x y) ?_
              have hPd := hPc.stored x y
              have hbe := below_setRow hSS.2 hpl #[.int .i64 x, .int .i64 y]
              refine hK.out _ _ (HQ5.out _ hbe) (fun hS => ?_)
              clear hK
              (try simp only [Act.put])
              refine any_take 13 ?vsbbn11 rfl (by kernel_rfl) (by kernel_rfl) (by kernel_rfl) (fun _ _ _ h => h) (by rfl) ?hsbbn11 hS ?_
              case hsbbn11 => (intro w hSw; (try dsimp only at hSw); go_split_ands; go_simp; (try with_reducible rfl))
              (try simp only [Act.put, List.setIfInBounds_toArray, List.set_cons_zero, List.set_cons_succ])
              refine wpAnyH_done (by kernel_rfl) ?_ _
              refine NoPanic.normal ?_
              refine ⟨p9, rfl, ?_, H5.out.1.below hbe, H5.out.2.below hbe, hPd⟩
              exact rfl
            · have hSS : _ := hS
              clear hS
              go_simp
              first | (generalize hp9 : wc.heap.size = p9; have hPc : Pair (wc.alloc (.cells #[.int .i64 0, .int .i64 0] 39)) p9 0 0 := hp9 ▸ Pair.new wc 0 0; have hpl : w5.heap.size ≤ p9 := hp9 ▸ hSS.2.size) | (generalize hp9 : w5.heap.size = p9; have hP : Pair (w5.drew.alloc (.cells #[.int .i64 0, .int .i64 0] 39)) p9 0 0 := hp9 ▸ Pair.new w5.drew 0 0; have hpl : w5.heap.size ≤ p9 := Nat.le_of_eq hp9)
              refine hK.out _ _ (HQ5.out _ (hSS.2.alloc hSS.2.size _)) (fun hS => ?_)
              clear hK
              (try simp only [Act.put, List.setIfInBounds_toArray, List.set_cons_zero, List.set_cons_succ])
              refine any_one 7 rfl (by kernel_rfl) (by rfl) (fun K hK => ?_)
              have hSS : _ := hS
              clear hS
              go_simp
              refine (KC5.out _ hSS.2).mono ?_
              rintro ev wc ⟨rfl, hbc⟩
              (try have hPc := hP.below hbc)
              refine hK.out _ _ (HQ5.out _ (hSS.2.trans (hbc.mono hSS.2.size))) (fun hS => ?_)
              clear hK
              (try simp only [Act.put, List.setIfInBounds_toArray, List.set_cons_zero, List.set_cons_succ])
              refine any_take 8 ?vsbbn12 rfl (by kernel_rfl) (by kernel_rfl) (by kernel_rfl) (fun _ _ _ h => h) (by rfl) ?hsbbn12 hS ?_
              case hsbbn12 => (intro w hSw; (try dsimp only at hSw); go_split_ands; go_simp; (try with_reducible rfl))
              (try simp only [Act.put, List.setIfInBounds_toArray, List.set_cons_zero, List.set_cons_succ])
              refine any_take 9 ?vsbbn13 rfl (by kernel_rfl) (by kernel_rfl) (by kernel_rfl) (fun _ _ _ h => h) (by rfl) ?hsbbn13 hS ?_
              case hsbbn13 => (intro w hSw; (try dsimp only at hSw); go_split_ands; go_simp; (try with_reducible rfl))
              (try simp only [Act.put, List.setIfInBounds_toArray, List.set_cons_zero, List.set_cons_succ])
              refine any_take 10 ?vsbbn14 rfl (by kernel_rfl) (by kernel_rfl) (by kernel_rfl) (fun _ _ _ h => h) (by rfl) ?hsbbn14 hS ?_
              case hsbbn14 => (intro w hSw; (try dsimp only at hSw); go_split_ands; go_simp; (try with_reducible rfl))
              (try simp only [Act.put, List.setIfInBounds_toArray, List.set_cons_zero, List.set_cons_succ])
              refine any_one 12 rfl (by kernel_rfl) (by rfl) (fun K hK => ?_)
              have hSS : _ := hS
              clear hS
              refine op_store_run 39 _ _ rfl _ _ rfl rfl (hPc.stores x y) ?_
              have hPd := hPc.stored x y
              have hbe := below_setRow hSS.2 hpl #[.int .i64 x, .int .i64 y]
              refine hK.out _ _ (HQ5.out _ hbe) (fun hS => ?_)
              clear hK
              (try simp only [Act.put])
              refine any_take 13 ?vsbbn15 rfl (by kernel_rfl) (by kernel_rfl) (by kernel_rfl) (fun _ _ _ h => h) (by rfl) ?hsbbn15 hS ?_
              case hsbbn15 => (intro w hSw; (try dsimp only at hSw); go_split_ands; go_simp; (try with_reducible rfl))
              (try simp only [Act.put, List.setIfInBounds_toArray, List.set_cons_zero, List.set_cons_succ])
              refine wpAnyH_done (by kernel_rfl) ?_ _
              refine NoPanic.normal ?_
              refine ⟨p9, rfl, ?_, H5.out.1.below hbe, H5.out.2.below hbe, hPd⟩
              exact rfl
          case kbb => as_aux_lemma =>
            rintro p2 w6 ⟨hX6, hPa, hPb⟩
            have Hw6 : Hid (XD W1 w6 g r v3 v3 (n + 1) pn t0 t1 ∧ Pair w6 p1 x y ∧ Pair w6 p2 x y) := ⟨hX6, hPa, hPb⟩
            clear hX6 hPa hPb H5 HQ5 KC5
            go_upto_region 18 with fail
            refine wp_region_noPanic ?_
            refine wp_region_held (S := fun V => (V.cell? ⟨fb, fo + k, none⟩ = some (.int .i64 f) ∧ V.cell? ⟨pn, 1, none⟩ = some (.int .i64 t1)) ∧ Below w6.heap.size w6 V) (by kernel_rfl) ?_
            have hS := (HQ0.out w6 Hw6.out.1 _ (Below.refl _ _).drew)
            refine any_take 0 ?vscbn1 rfl (by kernel_rfl) (by kernel_rfl) (by kernel_rfl) (fun _ _ _ h => h) (by rfl) ?hscbn1 hS ?_
            case hscbn1 => (intro w hSw; (try dsimp only at hSw); go_split_ands; go_simp; (try with_reducible rfl))
            (try simp only [Act.put, List.setIfInBounds_toArray, List.set_cons_zero, List.set_cons_succ])
            refine any_take 1 ?vscbn2 rfl (by kernel_rfl) (by kernel_rfl) (by kernel_rfl) (fun _ _ _ h => h) (by rfl) ?hscbn2 hS ?_
            case hscbn2 => (intro w hSw; (try dsimp only at hSw); go_split_ands; go_simp; (try with_reducible rfl))
            (try simp only [Act.put, List.setIfInBounds_toArray, List.set_cons_zero, List.set_cons_succ])
            refine any_take 2 ?vscbn3 rfl (by kernel_rfl) (by kernel_rfl) (by kernel_rfl) (fun _ _ _ h => h) (by rfl) ?hscbn3 hS ?_
            case hscbn3 => (intro w hSw; (try dsimp only at hSw); go_split_ands; go_simp; (try with_reducible rfl))
            (try simp only [Act.put, List.setIfInBounds_toArray, List.set_cons_zero, List.set_cons_succ])
            refine any_take 3 ?vscbn4 rfl (by kernel_rfl) (by kernel_rfl) (by kernel_rfl) (fun _ _ _ h => h) (by rfl) ?hscbn4 hS ?_
            case hscbn4 => (intro w hSw; (try dsimp only at hSw); go_split_ands; go_simp; (try with_reducible rfl))
            (try simp only [Act.put, List.setIfInBounds_toArray, List.set_cons_zero, List.set_cons_succ])
            refine any_take 4 ?vscbn5 rfl (by kernel_rfl) (by kernel_rfl) (by kernel_rfl) (fun _ _ _ h => h) (by rfl) ?hscbn5 hS ?_
            case hscbn5 => (intro w hSw; (try dsimp only at hSw); go_split_ands; go_simp; (try with_reducible rfl))
            (try simp only [Act.put, List.setIfInBounds_toArray, List.set_cons_zero, List.set_cons_succ])
            refine any_take 5 ?vscbn6 rfl (by kernel_rfl) (by kernel_rfl) (by kernel_rfl) (fun _ _ _ h => h) (by rfl) ?hscbn6 hS ?_
            case hscbn6 => (intro w hSw; (try dsimp only at hSw); go_split_ands; go_simp; (try with_reducible rfl))
            (try simp only [Act.put, List.setIfInBounds_toArray, List.set_cons_zero, List.set_cons_succ])
            refine any_take 6 ?vscbn7 rfl (by kernel_rfl) (by kernel_rfl) (by kernel_rfl) (fun _ _ _ h => h) (by rfl) ?hscbn7 hS ?_
            case hscbn7 => (intro w hSw; (try dsimp only at hSw); go_split_ands; go_simp; (try with_reducible rfl))
            (try simp only [Act.put, List.setIfInBounds_toArray, List.set_cons_zero, List.set_cons_succ])
            refine any_one 7 rfl (by kernel_rfl) (by rfl) (fun K hK => ?_)
            have hSS : _ := hS
            clear hS
            go_simp
            refine (KMO.out _ (Hw6.out.1.below hSS.2)).mono ?_
            rintro ev w7 ⟨rfl, hbc⟩
            have hbe := hSS.2.trans (hbc.mono hSS.2.size)
            refine hK.out _ _ (HQ0.out w6 Hw6.out.1 _ hbe) (fun hS => ?_)
            clear hK
            (try simp only [Act.put, List.setIfInBounds_toArray, List.set_cons_zero, List.set_cons_succ])
            refine any_take 8 ?vscbn8 rfl (by kernel_rfl) (by kernel_rfl) (by kernel_rfl) (fun _ _ _ h => h) (by rfl) ?hscbn8 hS ?_
            case hscbn8 => (intro w hSw; (try dsimp only at hSw); go_split_ands; go_simp; (try with_reducible rfl))
            (try simp only [Act.put, List.setIfInBounds_toArray, List.set_cons_zero, List.set_cons_succ])
            refine any_take 9 ?vscbn9 rfl (by kernel_rfl) (by kernel_rfl) (by kernel_rfl) (fun _ _ _ h => h) (by rfl) ?hscbn9 hS ?_
            case hscbn9 => (intro w hSw; (try dsimp only at hSw); go_split_ands; go_simp; (try with_reducible rfl))
            (try simp only [Act.put, List.setIfInBounds_toArray, List.set_cons_zero, List.set_cons_succ])
            refine any_take 10 ?vscbn10 rfl (by kernel_rfl) (by kernel_rfl) (by kernel_rfl) (fun _ _ _ h => h) (by rfl) ?hscbn10 hS ?_
            case hscbn10 => (intro w hSw; (try dsimp only at hSw); go_split_ands; go_simp; (try with_reducible rfl))
            (try simp only [Act.put, List.setIfInBounds_toArray, List.set_cons_zero, List.set_cons_succ])
            refine any_take 11 ?vscbn11 rfl (by kernel_rfl) (by kernel_rfl) (by kernel_rfl) (fun _ _ _ h => h) (by rfl) ?hscbn11 hS ?_
            case hscbn11 => (intro w hSw; (try dsimp only at hSw); go_split_ands; go_simp; (try with_reducible rfl))
            (try simp only [Act.put, List.setIfInBounds_toArray, List.set_cons_zero, List.set_cons_succ])
            refine any_take 12 ?vscbn12 rfl (by kernel_rfl) (by kernel_rfl) (by kernel_rfl) (fun _ _ _ h => h) (by rfl) ?hscbn12 hS ?_
            case hscbn12 => (intro w hSw; (try dsimp only at hSw); go_split_ands; go_simp; (try with_reducible rfl))
            (try simp only [Act.put, List.setIfInBounds_toArray, List.set_cons_zero, List.set_cons_succ])
            refine wpAnyH_done (by kernel_rfl) ?_ _
            refine NoPanic.normal ?_
            have Hw7 : Hid (XD W1 w7 g r v3 v3 (n + 1) pn t0 t1 ∧ Pair w7 p1 x y ∧ Pair w7 p2 x y) := ⟨Hw6.out.1.below hbe, Hw6.out.2.1.below hbe, Hw6.out.2.2.below hbe⟩
            clear hS hSS hbc hbe Hw6 KMO
            go_upto_region 19 with fail
            refine wp_region_noPanic ?_
            refine wp_region_held (S := fun V => (V.cell? ⟨fb, fo + k, none⟩ = some (.int .i64 f) ∧ V.cell? ⟨pn, 1, none⟩ = some (.int .i64 t1)) ∧ Below w7.heap.size w7 V) (by kernel_rfl) ?_
            have hS := (HQ0.out w7 Hw7.out.1 _ (Below.refl _ _).drew)
            refine any_take 0 ?vsdbn1 rfl (by kernel_rfl) (by kernel_rfl) (by kernel_rfl) (fun _ _ _ h => h) (by rfl) ?hsdbn1 hS ?_
            case hsdbn1 => (intro w hSw; (try dsimp only at hSw); go_split_ands; go_simp; (try with_reducible rfl))
            (try simp only [Act.put, List.setIfInBounds_toArray, List.set_cons_zero, List.set_cons_succ])
            refine any_take 1 ?vsdbn2 rfl (by kernel_rfl) (by kernel_rfl) (by kernel_rfl) (fun _ _ _ h => h) (by rfl) ?hsdbn2 hS ?_
            case hsdbn2 => (intro w hSw; (try dsimp only at hSw); go_split_ands; go_simp; (try with_reducible rfl))
            (try simp only [Act.put, List.setIfInBounds_toArray, List.set_cons_zero, List.set_cons_succ])
            refine any_take 2 ?vsdbn3 rfl (by kernel_rfl) (by kernel_rfl) (by kernel_rfl) (fun _ _ _ h => h) (by rfl) ?hsdbn3 hS ?_
            case hsdbn3 => (intro w hSw; (try dsimp only at hSw); go_split_ands; go_simp; (try with_reducible rfl))
            (try simp only [Act.put, List.setIfInBounds_toArray, List.set_cons_zero, List.set_cons_succ])
            refine any_take 3 ?vsdbn4 rfl (by kernel_rfl) (by kernel_rfl) (by kernel_rfl) (fun _ _ _ h => h) (by rfl) ?hsdbn4 hS ?_
            case hsdbn4 => (intro w hSw; (try dsimp only at hSw); go_split_ands; go_simp; (try with_reducible rfl))
            (try simp only [Act.put, List.setIfInBounds_toArray, List.set_cons_zero, List.set_cons_succ])
            refine any_take 4 ?vsdbn5 rfl (by kernel_rfl) (by kernel_rfl) (by kernel_rfl) (fun _ _ _ h => h) (by rfl) ?hsdbn5 hS ?_
            case hsdbn5 => (intro w hSw; (try dsimp only at hSw); go_split_ands; go_simp; (try with_reducible rfl))
            (try simp only [Act.put, List.setIfInBounds_toArray, List.set_cons_zero, List.set_cons_succ])
            refine any_take 5 ?vsdbn6 rfl (by kernel_rfl) (by kernel_rfl) (by kernel_rfl) (fun _ _ _ h => h) (by rfl) ?hsdbn6 hS ?_
            case hsdbn6 => (intro w hSw; (try dsimp only at hSw); go_split_ands; go_simp; (try with_reducible rfl))
            (try simp only [Act.put, List.setIfInBounds_toArray, List.set_cons_zero, List.set_cons_succ])
            refine any_take 6 ?vsdbn7 rfl (by kernel_rfl) (by kernel_rfl) (by kernel_rfl) (fun _ _ _ h => h) (by rfl) ?hsdbn7 hS ?_
            case hsdbn7 => (intro w hSw; (try dsimp only at hSw); go_split_ands; go_simp; (try with_reducible rfl))
            (try simp only [Act.put, List.setIfInBounds_toArray, List.set_cons_zero, List.set_cons_succ])
            refine any_one 7 rfl (by kernel_rfl) (by rfl) (fun K hK => ?_)
            have hSS : _ := hS
            clear hS
            go_simp
            refine (KRM.out _ (Hw7.out.1.below hSS.2)).mono ?_
            rintro ev w8 ⟨rfl, hbc⟩
            have hbe := hSS.2.trans (hbc.mono hSS.2.size)
            refine hK.out _ _ (HQ0.out w7 Hw7.out.1 _ hbe) (fun hS => ?_)
            clear hK
            (try simp only [Act.put, List.setIfInBounds_toArray, List.set_cons_zero, List.set_cons_succ])
            refine any_take 8 ?vsdbn8 rfl (by kernel_rfl) (by kernel_rfl) (by kernel_rfl) (fun _ _ _ h => h) (by rfl) ?hsdbn8 hS ?_
            case hsdbn8 => (intro w hSw; (try dsimp only at hSw); go_split_ands; go_simp; (try with_reducible rfl))
            (try simp only [Act.put, List.setIfInBounds_toArray, List.set_cons_zero, List.set_cons_succ])
            refine any_take 9 ?vsdbn9 rfl (by kernel_rfl) (by kernel_rfl) (by kernel_rfl) (fun _ _ _ h => h) (by rfl) ?hsdbn9 hS ?_
            case hsdbn9 => (intro w hSw; (try dsimp only at hSw); go_split_ands; go_simp; (try with_reducible rfl))
            (try simp only [Act.put, List.setIfInBounds_toArray, List.set_cons_zero, List.set_cons_succ])
            refine any_take 10 ?vsdbn10 rfl (by kernel_rfl) (by kernel_rfl) (by kernel_rfl) (fun _ _ _ h => h) (by rfl) ?hsdbn10 hS ?_
            case hsdbn10 => (intro w hSw; (try dsimp only at hSw); go_split_ands; go_simp; (try with_reducible rfl))
            (try simp only [Act.put, List.setIfInBounds_toArray, List.set_cons_zero, List.set_cons_succ])
            refine any_take 11 ?vsdbn11 rfl (by kernel_rfl) (by kernel_rfl) (by kernel_rfl) (fun _ _ _ h => h) (by rfl) ?hsdbn11 hS ?_
            case hsdbn11 => (intro w hSw; (try dsimp only at hSw); go_split_ands; go_simp; (try with_reducible rfl))
            (try simp only [Act.put, List.setIfInBounds_toArray, List.set_cons_zero, List.set_cons_succ])
            refine any_take 12 ?vsdbn12 rfl (by kernel_rfl) (by kernel_rfl) (by kernel_rfl) (fun _ _ _ h => h) (by rfl) ?hsdbn12 hS ?_
            case hsdbn12 => (intro w hSw; (try dsimp only at hSw); go_split_ands; go_simp; (try with_reducible rfl))
            (try simp only [Act.put, List.setIfInBounds_toArray, List.set_cons_zero, List.set_cons_succ])
            refine wpAnyH_done (by kernel_rfl) ?_ _
            refine NoPanic.normal ?_
            have Hw8 : Hid (XD W1 w8 g r v3 v3 (n + 1) pn t0 t1 ∧ Pair w8 p1 x y ∧ Pair w8 p2 x y) := ⟨Hw7.out.1.below hbe, Hw7.out.2.1.below hbe, Hw7.out.2.2.below hbe⟩
            clear hS hSS hbc hbe Hw7 KRM
            go_upto_region 20 with fail
            have hneq : ∀ W, (binOp .neq 39 (.agg #[.int .i64 x, .int .i64 y]) (.agg #[.int .i64 x, .int .i64 y])).run Try.prog W = .ok (.bool false) W := fun W => by
              have := neqIv x y x y W
              simpa using this
            have HQ8 : Hid (∀ V, Below w8.heap.size w8 V → (V.cell? ⟨p1, 0, none⟩ = some (.int .i64 x) ∧ V.cell? ⟨p1, 1, none⟩ = some (.int .i64 y) ∧ V.cell? ⟨p2, 0, none⟩ = some (.int .i64 x) ∧ V.cell? ⟨p2, 1, none⟩ = some (.int .i64 y) ∧ V.cell? ⟨pn, 1, none⟩ = some (.int .i64 t1)) ∧ Below w8.heap.size w8 V) := fun V hV => by
              have a1 := Hw8.out.2.1.below hV
              have a2 := Hw8.out.2.2.below hV
              exact ⟨⟨a1.c0, a1.c1, a2.c0, a2.c1, (Hw8.out.1.below hV).box.2⟩, hV⟩
            have KNE : Hid (∀ V, XD W1 V g r v3 v3 (n + 1) pn t0 t1 → Calls Try.prog 18 #[.pointer (some ⟨g, 0, none⟩), .int .i64 t1] V fun e w' => e = .returned (.int .i64 (neU v3 t1 v3.c.n.toNat)) ∧ Below V.heap.size V w') := fun V hV => hV.near t1
            have KRN : Hid (∀ V, XD W1 V g r v3 v3 (n + 1) pn t0 t1 → Calls Try.prog 19 #[.pointer (some ⟨r, 0, none⟩), .int .i64 t1] V fun e w' => e = .returned (.int .i64 (neU v3 t1 v3.c.n.toNat)) ∧ Below V.heap.size V w') := fun V hV => hV.rnear t1
            generalize neU v3 t1 v3.c.n.toNat = NN at *
            refine wp_region_noPanic ?_
            refine wp_region_held (S := fun V => (V.cell? ⟨p1, 0, none⟩ = some (.int .i64 x) ∧ V.cell? ⟨p1, 1, none⟩ = some (.int .i64 y) ∧ V.cell? ⟨p2, 0, none⟩ = some (.int .i64 x) ∧ V.cell? ⟨p2, 1, none⟩ = some (.int .i64 y) ∧ V.cell? ⟨pn, 1, none⟩ = some (.int .i64 t1)) ∧ Below w8.heap.size w8 V) (by kernel_rfl) ?_
            have hS := (HQ8.out _ (Below.refl _ _).drew)
            refine any_take 0 ?vsebn1 rfl (by kernel_rfl) (by kernel_rfl) (by kernel_rfl) (fun _ _ _ h => h) (by rfl) ?hsebn1 hS ?_
            case hsebn1 => (intro w hSw; (try dsimp only at hSw); go_split_ands; go_simp; (try with_reducible rfl))
            (try simp only [Act.put, List.setIfInBounds_toArray, List.set_cons_zero, List.set_cons_succ])
            refine any_take 1 ?vsebn2 rfl (by kernel_rfl) (by kernel_rfl) (by kernel_rfl) (fun _ _ _ h => h) (by rfl) ?hsebn2 hS ?_
            case hsebn2 => (intro w hSw; (try dsimp only at hSw); go_split_ands; go_simp; (try with_reducible rfl))
            (try simp only [Act.put, List.setIfInBounds_toArray, List.set_cons_zero, List.set_cons_succ])
            refine any_take 2 (Value.bool false) rfl (by kernel_rfl) (by kernel_rfl) (by kernel_rfl) (fun _ _ _ h => h) (by rfl) (by intro w hSw; (try dsimp only at hSw); go_split_ands; go_simp) hS ?_
            (try simp only [Act.put, List.setIfInBounds_toArray, List.set_cons_zero, List.set_cons_succ])
            refine any_take 3 ?vsebn3 rfl (by kernel_rfl) (by kernel_rfl) (by kernel_rfl) (fun _ _ _ h => h) (by rfl) ?hsebn3 hS ?_
            case hsebn3 => (intro w hSw; (try dsimp only at hSw); go_split_ands; go_simp; (try with_reducible rfl))
            (try simp only [Act.put, List.setIfInBounds_toArray, List.set_cons_zero, List.set_cons_succ])
            refine any_take 4 ?vsebn4 rfl (by kernel_rfl) (by kernel_rfl) (by kernel_rfl) (fun _ _ _ h => h) (by rfl) ?hsebn4 hS ?_
            case hsebn4 => (intro w hSw; (try dsimp only at hSw); go_split_ands; go_simp; (try with_reducible rfl))
            (try simp only [Act.put, List.setIfInBounds_toArray, List.set_cons_zero, List.set_cons_succ])
            refine any_take 5 ?vsebn5 rfl (by kernel_rfl) (by kernel_rfl) (by kernel_rfl) (fun _ _ _ h => h) (by rfl) ?hsebn5 hS ?_
            case hsebn5 => (intro w hSw; (try dsimp only at hSw); go_split_ands; go_simp; (try with_reducible rfl))
            (try simp only [Act.put, List.setIfInBounds_toArray, List.set_cons_zero, List.set_cons_succ])
            refine any_take 6 ?vsebn6 rfl (by kernel_rfl) (by kernel_rfl) (by kernel_rfl) (fun _ _ _ h => h) (by rfl) ?hsebn6 hS ?_
            case hsebn6 => (intro w hSw; (try dsimp only at hSw); go_split_ands; go_simp; (try with_reducible rfl))
            (try simp only [Act.put, List.setIfInBounds_toArray, List.set_cons_zero, List.set_cons_succ])
            refine any_take 7 ?vsebn7 rfl (by kernel_rfl) (by kernel_rfl) (by kernel_rfl) (fun _ _ _ h => h) (by rfl) ?hsebn7 hS ?_
            case hsebn7 => (intro w hSw; (try dsimp only at hSw); go_split_ands; go_simp; (try with_reducible rfl))
            (try simp only [Act.put, List.setIfInBounds_toArray, List.set_cons_zero, List.set_cons_succ])
            refine any_take 8 ?vsebn8 rfl (by kernel_rfl) (by kernel_rfl) (by kernel_rfl) (fun _ _ _ h => h) (by rfl) ?hsebn8 hS ?_
            case hsebn8 => (intro w hSw; (try dsimp only at hSw); go_split_ands; go_simp; (try with_reducible rfl))
            (try simp only [Act.put, List.setIfInBounds_toArray, List.set_cons_zero, List.set_cons_succ])
            refine any_take 9 ?vsebn9 rfl (by kernel_rfl) (by kernel_rfl) (by kernel_rfl) (fun _ _ _ h => h) (by rfl) ?hsebn9 hS ?_
            case hsebn9 => (intro w hSw; (try dsimp only at hSw); go_split_ands; go_simp; (try with_reducible rfl))
            (try simp only [Act.put, List.setIfInBounds_toArray, List.set_cons_zero, List.set_cons_succ])
            refine any_take 10 ?vsebn10 rfl (by kernel_rfl) (by kernel_rfl) (by kernel_rfl) (fun _ _ _ h => h) (by rfl) ?hsebn10 hS ?_
            case hsebn10 => (intro w hSw; (try dsimp only at hSw); go_split_ands; go_simp; (try with_reducible rfl))
            (try simp only [Act.put, List.setIfInBounds_toArray, List.set_cons_zero, List.set_cons_succ])
            refine any_take 11 ?vsebn11 rfl (by kernel_rfl) (by kernel_rfl) (by kernel_rfl) (fun _ _ _ h => h) (by rfl) ?hsebn11 hS ?_
            case hsebn11 => (intro w hSw; (try dsimp only at hSw); go_split_ands; go_simp; (try with_reducible rfl))
            (try simp only [Act.put, List.setIfInBounds_toArray, List.set_cons_zero, List.set_cons_succ])
            refine any_take 12 ?vsebn12 rfl (by kernel_rfl) (by kernel_rfl) (by kernel_rfl) (fun _ _ _ h => h) (by rfl) ?hsebn12 hS ?_
            case hsebn12 => (intro w hSw; (try dsimp only at hSw); go_split_ands; go_simp; (try with_reducible rfl))
            (try simp only [Act.put, List.setIfInBounds_toArray, List.set_cons_zero, List.set_cons_succ])
            refine any_take 13 ?vsebn13 rfl (by kernel_rfl) (by kernel_rfl) (by kernel_rfl) (fun _ _ _ h => h) (by rfl) ?hsebn13 hS ?_
            case hsebn13 => (intro w hSw; (try dsimp only at hSw); go_split_ands; go_simp; (try with_reducible rfl))
            (try simp only [Act.put, List.setIfInBounds_toArray, List.set_cons_zero, List.set_cons_succ])
            refine any_take 14 ?vsebn14 rfl (by kernel_rfl) (by kernel_rfl) (by kernel_rfl) (fun _ _ _ h => h) (by rfl) ?hsebn14 hS ?_
            case hsebn14 => (intro w hSw; (try dsimp only at hSw); go_split_ands; go_simp; (try with_reducible rfl))
            (try simp only [Act.put, List.setIfInBounds_toArray, List.set_cons_zero, List.set_cons_succ])
            refine any_take 15 ?vsebn15 rfl (by kernel_rfl) (by kernel_rfl) (by kernel_rfl) (fun _ _ _ h => h) (by rfl) ?hsebn15 hS ?_
            case hsebn15 => (intro w hSw; (try dsimp only at hSw); go_split_ands; go_simp; (try with_reducible rfl))
            (try simp only [Act.put, List.setIfInBounds_toArray, List.set_cons_zero, List.set_cons_succ])
            refine any_take 16 ?vsebn16 rfl (by kernel_rfl) (by kernel_rfl) (by kernel_rfl) (fun _ _ _ h => h) (by rfl) ?hsebn16 hS ?_
            case hsebn16 => (intro w hSw; (try dsimp only at hSw); go_split_ands; go_simp; (try with_reducible rfl))
            (try simp only [Act.put, List.setIfInBounds_toArray, List.set_cons_zero, List.set_cons_succ])
            refine any_take 17 ?vsebn17 rfl (by kernel_rfl) (by kernel_rfl) (by kernel_rfl) (fun _ _ _ h => h) (by rfl) ?hsebn17 hS ?_
            case hsebn17 => (intro w hSw; (try dsimp only at hSw); go_split_ands; go_simp; (try with_reducible rfl))
            (try simp only [Act.put, List.setIfInBounds_toArray, List.set_cons_zero, List.set_cons_succ])
            refine any_take 18 ?vsebn18 rfl (by kernel_rfl) (by kernel_rfl) (by kernel_rfl) (fun _ _ _ h => h) (by rfl) ?hsebn18 hS ?_
            case hsebn18 => (intro w hSw; (try dsimp only at hSw); go_split_ands; go_simp; (try with_reducible rfl))
            (try simp only [Act.put, List.setIfInBounds_toArray, List.set_cons_zero, List.set_cons_succ])
            refine any_take 19 ?vsebn19 rfl (by kernel_rfl) (by kernel_rfl) (by kernel_rfl) (fun _ _ _ h => h) (by rfl) ?hsebn19 hS ?_
            case hsebn19 => (intro w hSw; (try dsimp only at hSw); go_split_ands; go_simp; (try with_reducible rfl))
            (try simp only [Act.put, List.setIfInBounds_toArray, List.set_cons_zero, List.set_cons_succ])
            refine any_take 20 ?vsebn20 rfl (by kernel_rfl) (by kernel_rfl) (by kernel_rfl) (fun _ _ _ h => h) (by rfl) ?hsebn20 hS ?_
            case hsebn20 => (intro w hSw; (try dsimp only at hSw); go_split_ands; go_simp; (try with_reducible rfl))
            (try simp only [Act.put, List.setIfInBounds_toArray, List.set_cons_zero, List.set_cons_succ])
            refine any_take 21 ?vsebn21 rfl (by kernel_rfl) (by kernel_rfl) (by kernel_rfl) (fun _ _ _ h => h) (by rfl) ?hsebn21 hS ?_
            case hsebn21 => (intro w hSw; (try dsimp only at hSw); go_split_ands; go_simp; (try with_reducible rfl))
            (try simp only [Act.put, List.setIfInBounds_toArray, List.set_cons_zero, List.set_cons_succ])
            refine any_take 23 ?vsebn22 rfl (by kernel_rfl) (by kernel_rfl) (by kernel_rfl) (fun _ _ _ h => h) (by rfl) ?hsebn22 hS ?_
            case hsebn22 => (intro w hSw; (try dsimp only at hSw); go_split_ands; go_simp; (try with_reducible rfl))
            (try simp only [Act.put, List.setIfInBounds_toArray, List.set_cons_zero, List.set_cons_succ])
            refine any_take 24 ?vsebn23 rfl (by kernel_rfl) (by kernel_rfl) (by kernel_rfl) (fun _ _ _ h => h) (by rfl) ?hsebn23 hS ?_
            case hsebn23 => (intro w hSw; (try dsimp only at hSw); go_split_ands; go_simp; (try with_reducible rfl))
            (try simp only [Act.put, List.setIfInBounds_toArray, List.set_cons_zero, List.set_cons_succ])
            refine any_take 25 ?vsebn24 rfl (by kernel_rfl) (by kernel_rfl) (by kernel_rfl) (fun _ _ _ h => h) (by rfl) ?hsebn24 hS ?_
            case hsebn24 => (intro w hSw; (try dsimp only at hSw); go_split_ands; go_simp; (try with_reducible rfl))
            (try simp only [Act.put, List.setIfInBounds_toArray, List.set_cons_zero, List.set_cons_succ])
            refine any_one 22 rfl (by kernel_rfl) (by rfl) (fun K hK => ?_)
            have hSS : _ := hS
            clear hS
            go_simp
            refine (KNE.out _ (Hw8.out.1.below hSS.2)).mono ?_
            rintro ev wp ⟨rfl, hbp⟩
            have hbe := hSS.2.trans (hbp.mono hSS.2.size)
            refine hK.out _ _ (HQ8.out _ hbe) (fun hS => ?_)
            clear hK
            (try simp only [Act.put, List.setIfInBounds_toArray, List.set_cons_zero, List.set_cons_succ])
            refine any_one 26 rfl (by kernel_rfl) (by rfl) (fun K hK => ?_)
            have hSS : _ := hS
            clear hS
            go_simp
            refine (KRN.out _ (Hw8.out.1.below hbe)).mono ?_
            rintro ev w9 ⟨rfl, hb9⟩
            have hbf := hbe.trans (hb9.mono hbe.size)
            refine hK.out _ _ (HQ8.out _ hbf) (fun hS => ?_)
            clear hK
            (try simp only [Act.put, List.setIfInBounds_toArray, List.set_cons_zero, List.set_cons_succ])
            refine any_take 27 ?vsebn25 rfl (by kernel_rfl) (by kernel_rfl) (by kernel_rfl) (fun _ _ _ h => h) (by rfl) ?hsebn25 hS ?_
            case hsebn25 => (intro w hSw; (try dsimp only at hSw); go_split_ands; go_simp; (try with_reducible rfl))
            (try simp only [Act.put, List.setIfInBounds_toArray, List.set_cons_zero, List.set_cons_succ])
            refine any_take 28 ?vsebn26 rfl (by kernel_rfl) (by kernel_rfl) (by kernel_rfl) (fun _ _ _ h => h) (by rfl) ?hsebn26 hS ?_
            case hsebn26 => (intro w hSw; (try dsimp only at hSw); go_split_ands; go_simp; (try with_reducible rfl))
            (try simp only [Act.put, List.setIfInBounds_toArray, List.set_cons_zero, List.set_cons_succ])
            refine wpAnyH_done (by kernel_rfl) ?_ _
            refine NoPanic.normal ?_
            have H9 : Hid (XD W1 w9 g r v3 v3 (n + 1) pn t0 t1) := Hw8.out.1.below hbf
            clear hS hSS hbp hb9 hbe hbf Hw8 HQ8 KNE KRN hneq HQ0 HC i1 i2 i3 i4
            have hbx := H9.out.box.2
            have KF : Hid (∀ V, XD W1 V g r v3 v3 (n + 1) pn t0 t1 → Calls Try.prog 20 #[.pointer (some ⟨g, 0, none⟩), .int .i64 t1] V fun e w' => ∃ x c, e = .returned (.slice x (frU v3 t1 v3.c.n.toNat).length c) ∧ LsI w' x (frU v3 t1 v3.c.n.toNat) ∧ Below V.heap.size V w') := fun V hV => hV.fresh t1
            have KRF : Hid (∀ V, XD W1 V g r v3 v3 (n + 1) pn t0 t1 → Calls Try.prog 21 #[.pointer (some ⟨r, 0, none⟩), .int .i64 t1] V fun e w' => ∃ x c, e = .returned (.slice x (frU v3 t1 v3.c.n.toNat).length c) ∧ LsI w' x (frU v3 t1 v3.c.n.toNat) ∧ Below V.heap.size V w') := fun V hV => hV.rfresh t1
            have KO : Hid (∀ V, XD W1 V g r v3 v3 (n + 1) pn t0 t1 → Calls Try.prog 22 #[.pointer (some ⟨g, 0, none⟩), .int .i64 t1] V fun e w' => ∃ x c, e = .returned (.slice x (ofU v3 t1 v3.c.n.toNat).length c) ∧ LsV w' x (ofU v3 t1 v3.c.n.toNat) ∧ Below V.heap.size V w') := fun V hV => hV.offs t1
            have KRO : Hid (∀ V, XD W1 V g r v3 v3 (n + 1) pn t0 t1 → Calls Try.prog 23 #[.pointer (some ⟨r, 0, none⟩), .int .i64 t1] V fun e w' => ∃ x c, e = .returned (.slice x (ofU v3 t1 v3.c.n.toNat).length c) ∧ LsV w' x (ofU v3 t1 v3.c.n.toNat) ∧ Below V.heap.size V w') := fun V hV => hV.roffs t1
            have HLN : Hid ((frU v3 t1 v3.c.n.toNat).length ≤ 8 ∧ (ofU v3 t1 v3.c.n.toNat).length ≤ 8) := by
              have h1 := fr_len v3 t1 v3.c.n.toNat
              have h2 := of_len v3 t1 v3.c.n.toNat
              have h3 := (right_of H9.out.vk.r).n1
              exact ⟨by omega, by omega⟩
            generalize frU v3 t1 v3.c.n.toNat = LA at *
            generalize ofU v3 t1 v3.c.n.toNat = LB at *
            go_wp2_with fail
            refine (KF.out _ H9.out).mono ?_
            rintro ev wA ⟨sa, ca, rfl, hL, hbb⟩
            have HA : Hid (XD W1 wA g r v3 v3 (n + 1) pn t0 t1 ∧ LsI wA sa LA) := ⟨H9.out.below hbb, hL⟩
            clear hbx hL hbb H9 KF
            have hbx := HA.out.1.box.2
            go_wp2_with fail
            refine (KRF.out _ HA.out.1).mono ?_
            rintro ev wB ⟨sb, cb, rfl, hL, hbb⟩
            have HB : Hid (XD W1 wB g r v3 v3 (n + 1) pn t0 t1 ∧ LsI wB sa LA ∧ LsI wB sb LA) := ⟨HA.out.1.below hbb, HA.out.2.below hbb, hL⟩
            clear hbx hL hbb HA KRF
            have hbx := HB.out.1.box.2
            go_wp2_with fail
            refine (KO.out _ HB.out.1).mono ?_
            rintro ev wC ⟨sc, cc, rfl, hL, hbb⟩
            have HCC : Hid (XD W1 wC g r v3 v3 (n + 1) pn t0 t1 ∧ LsI wC sa LA ∧ LsI wC sb LA ∧ LsV wC sc LB) := ⟨HB.out.1.below hbb, HB.out.2.1.below hbb, HB.out.2.2.below hbb, hL⟩
            clear hbx hL hbb HB KO
            have hbx := HCC.out.1.box.2
            go_wp2_with fail
            refine (KRO.out _ HCC.out.1).mono ?_
            rintro ev wD ⟨sd, cd, rfl, hL, hbb⟩
            have HD : Hid (XD W1 wD g r v3 v3 (n + 1) pn t0 t1 ∧ LsI wD sa LA ∧ LsI wD sb LA ∧ LsV wD sc LB ∧ LsV wD sd LB) := ⟨HCC.out.1.below hbb, HCC.out.2.1.below hbb, HCC.out.2.2.1.below hbb, HCC.out.2.2.2.below hbb, hL⟩
            clear hbx hL hbb HCC KRO
            go_wp2
            go_loopw [31] (fun u wr => ∃ d : Nat, d ≤ LA.length ∧ u = .int .i64 (d : Int) ∧ Below wD.heap.size wD wr) (fun u _ => LA.length - (intOf u).toNat)
            case atStart => exact ⟨0, Nat.zero_le _, rfl, Below.refl _ _⟩
            case round =>
              obtain ⟨d, hd, rfl, hbd⟩ := hrel
              have gd : (0 : Int) ≤ (d : Int) := Int.natCast_nonneg _
              have HBD : Hid (Below wD.heap.size wD wr ∧ d ≤ LA.length) := ⟨hbd, hd⟩
              clear hbd hd
              by_cases hlt : (d : Int) < (LA.length : Int)
              · obtain ⟨z1, hz1⟩ : ∃ z, LA[d]? = some z := ⟨_, List.getElem?_eq_getElem (by omega)⟩
                have e10 : IntKind.i64.wrap ((d : Int) + 1) = ((d + 1 : Nat) : Int) := by have := HLN.out; rw [wrap_in (by omega) (by omega)]; omega
                obtain ⟨q1, hq1, _⟩ := HD.out.2.1 d z1 hz1
                obtain ⟨q2, hq2, _⟩ := HD.out.2.2.1 d z1 hz1
                subst hq1
                subst hq2
                have hS0 : wr.drew.cell? ⟨q1, d, none⟩ = some (.int .i64 z1) ∧ wr.drew.cell? ⟨q2, d, none⟩ = some (.int .i64 z1) := by
                  obtain ⟨b1, hb1, h1⟩ := (HD.out.2.1.below (HBD.out.1.drew)) d z1 hz1
                  obtain ⟨b2, hb2, h2⟩ := (HD.out.2.2.1.below (HBD.out.1.drew)) d z1 hz1
                  cases hb1
                  cases hb2
                  exact ⟨h1, h2⟩
                have HJD : Hid (d < LA.length) := by show d < LA.length; omega
                clear hz1
                go_upto_region 31 with fail
                refine wp_region_noPanic ?_
                refine wp_region_held (S := fun V => V.cell? ⟨q1, d, none⟩ = some (.int .i64 z1) ∧ V.cell? ⟨q2, d, none⟩ = some (.int .i64 z1)) (by kernel_rfl) ?_
                have hS := hS0
                refine any_take 0 ?vsfbn1 rfl (by kernel_rfl) (by kernel_rfl) (by kernel_rfl) (fun _ _ _ h => h) (by rfl) ?hsfbn1 hS ?_
                case hsfbn1 => (intro w hSw; (try dsimp only at hSw); go_split_ands; go_simp; (try with_reducible rfl))
                (try simp only [Act.put, List.setIfInBounds_toArray, List.set_cons_zero, List.set_cons_succ])
                refine any_take 1 ?vsfbn2 rfl (by kernel_rfl) (by kernel_rfl) (by kernel_rfl) (fun _ _ _ h => h) (by rfl) ?hsfbn2 hS ?_
                case hsfbn2 => (intro w hSw; (try dsimp only at hSw); go_split_ands; go_simp; (try with_reducible rfl))
                (try simp only [Act.put, List.setIfInBounds_toArray, List.set_cons_zero, List.set_cons_succ])
                refine any_take 2 ?vsfbn3 rfl (by kernel_rfl) (by kernel_rfl) (by kernel_rfl) (fun _ _ _ h => h) (by rfl) ?hsfbn3 hS ?_
                case hsfbn3 => (intro w hSw; (try dsimp only at hSw); go_split_ands; go_simp; (try with_reducible rfl))
                (try simp only [Act.put, List.setIfInBounds_toArray, List.set_cons_zero, List.set_cons_succ])
                refine any_take 3 ?vsfbn4 rfl (by kernel_rfl) (by kernel_rfl) (by kernel_rfl) (fun _ _ _ h => h) (by rfl) ?hsfbn4 hS ?_
                case hsfbn4 => (intro w hSw; (try dsimp only at hSw); go_split_ands; go_simp; (try with_reducible rfl))
                (try simp only [Act.put, List.setIfInBounds_toArray, List.set_cons_zero, List.set_cons_succ])
                refine any_take 4 ?vsfbn5 rfl (by kernel_rfl) (by kernel_rfl) (by kernel_rfl) (fun _ _ _ h => h) (by rfl) ?hsfbn5 hS ?_
                case hsfbn5 => (intro w hSw; (try dsimp only at hSw); go_split_ands; go_simp; (try with_reducible rfl))
                (try simp only [Act.put, List.setIfInBounds_toArray, List.set_cons_zero, List.set_cons_succ])
                refine any_take 5 ?vsfbn6 rfl (by kernel_rfl) (by kernel_rfl) (by kernel_rfl) (fun _ _ _ h => h) (by rfl) ?hsfbn6 hS ?_
                case hsfbn6 => (intro w hSw; (try dsimp only at hSw); go_split_ands; go_simp; (try with_reducible rfl))
                (try simp only [Act.put, List.setIfInBounds_toArray, List.set_cons_zero, List.set_cons_succ])
                refine any_take 6 ?vsfbn7 rfl (by kernel_rfl) (by kernel_rfl) (by kernel_rfl) (fun _ _ _ h => h) (by rfl) ?hsfbn7 hS ?_
                case hsfbn7 => (intro w hSw; (try dsimp only at hSw); go_split_ands; go_simp; (try with_reducible rfl))
                (try simp only [Act.put, List.setIfInBounds_toArray, List.set_cons_zero, List.set_cons_succ])
                refine any_take 7 ?vsfbn8 rfl (by kernel_rfl) (by kernel_rfl) (by kernel_rfl) (fun _ _ _ h => h) (by rfl) ?hsfbn8 hS ?_
                case hsfbn8 => (intro w hSw; (try dsimp only at hSw); go_split_ands; go_simp; (try with_reducible rfl))
                (try simp only [Act.put, List.setIfInBounds_toArray, List.set_cons_zero, List.set_cons_succ])
                refine any_take 8 (Value.bool false) rfl (by kernel_rfl) (by kernel_rfl) (by kernel_rfl) (fun _ _ _ h => h) (by rfl) (by intro w hSw; (try dsimp only at hSw); go_split_ands; go_simp) hS ?_
                (try simp only [Act.put, List.setIfInBounds_toArray, List.set_cons_zero, List.set_cons_succ])
                refine wpAnyH_done (by kernel_rfl) ?_ _
                refine NoPanic.normal ?_
                clear hS hS0
                go_wp2
                go_roundw
                case rel => exact ⟨d + 1, HJD.out, rfl, HBD.out.1.drew⟩
                case measure => have := HJD.out; simp [intOf]; omega
              · clear gd
                go_wp2
                clear hlt
                go_loopw [32] (fun u wr => ∃ d : Nat, d ≤ LB.length ∧ u = .int .i64 (d : Int) ∧ Below wD.heap.size wD wr) (fun u _ => LB.length - (intOf u).toNat)
                case atStart => exact ⟨0, Nat.zero_le _, rfl, HBD.out.1⟩
                case round =>
                  clear HBD
                  obtain ⟨d, hd, rfl, hbd⟩ := hrel
                  have gd : (0 : Int) ≤ (d : Int) := Int.natCast_nonneg _
                  have HBD : Hid (Below wD.heap.size wD wr ∧ d ≤ LB.length) := ⟨hbd, hd⟩
                  clear hbd hd
                  by_cases hlt : (d : Int) < (LB.length : Int)
                  · obtain ⟨⟨z1, z2⟩, hz1⟩ : ∃ z, LB[d]? = some z := ⟨_, List.getElem?_eq_getElem (by omega)⟩
                    have e10 : IntKind.i64.wrap ((d : Int) + 1) = ((d + 1 : Nat) : Int) := by have := HLN.out; rw [wrap_in (by omega) (by omega)]; omega
                    obtain ⟨q1, hq1, _⟩ := HD.out.2.2.2.1 d (z1, z2) hz1
                    obtain ⟨q2, hq2, _⟩ := HD.out.2.2.2.2 d (z1, z2) hz1
                    subst hq1
                    subst hq2
                    have hS0 : wr.drew.cell? ⟨q1, d * 2, none⟩ = some (.int .i64 z1) ∧ wr.drew.cell? ⟨q1, d * 2 + 1, none⟩ = some (.int .i64 z2) ∧ wr.drew.cell? ⟨q2, d * 2, none⟩ = some (.int .i64 z1) ∧ wr.drew.cell? ⟨q2, d * 2 + 1, none⟩ = some (.int .i64 z2) := by
                      obtain ⟨b1, hb1, h1, h2⟩ := (HD.out.2.2.2.1.below (HBD.out.1.drew)) d (z1, z2) hz1
                      obtain ⟨b2, hb2, h3, h4⟩ := (HD.out.2.2.2.2.below (HBD.out.1.drew)) d (z1, z2) hz1
                      cases hb1
                      cases hb2
                      exact ⟨h1, h2, h3, h4⟩
                    have hneq : ∀ W, (binOp .neq 39 (.agg #[.int .i64 z1, .int .i64 z2]) (.agg #[.int .i64 z1, .int .i64 z2])).run Try.prog W = .ok (.bool false) W := fun W => by
                      have := neqIv z1 z2 z1 z2 W
                      simpa using this
                    have HJD : Hid (d < LB.length) := by show d < LB.length; omega
                    clear hz1
                    go_upto_region 36 with fail
                    refine wp_region_noPanic ?_
                    refine wp_region_held (S := fun V => V.cell? ⟨q1, d * 2, none⟩ = some (.int .i64 z1) ∧ V.cell? ⟨q1, d * 2 + 1, none⟩ = some (.int .i64 z2) ∧ V.cell? ⟨q2, d * 2, none⟩ = some (.int .i64 z1) ∧ V.cell? ⟨q2, d * 2 + 1, none⟩ = some (.int .i64 z2)) (by kernel_rfl) ?_
                    have hS := hS0
                    refine any_take 0 ?vsgbn1 rfl (by kernel_rfl) (by kernel_rfl) (by kernel_rfl) (fun _ _ _ h => h) (by rfl) ?hsgbn1 hS ?_
                    case hsgbn1 => (intro w hSw; (try dsimp only at hSw); go_split_ands; go_simp; (try with_reducible rfl))
                    (try simp only [Act.put, List.setIfInBounds_toArray, List.set_cons_zero, List.set_cons_succ])
                    refine any_take 1 ?vsgbn2 rfl (by kernel_rfl) (by kernel_rfl) (by kernel_rfl) (fun _ _ _ h => h) (by rfl) ?hsgbn2 hS ?_
                    case hsgbn2 => (intro w hSw; (try dsimp only at hSw); go_split_ands; go_simp; (try with_reducible rfl))
                    (try simp only [Act.put, List.setIfInBounds_toArray, List.set_cons_zero, List.set_cons_succ])
                    refine any_take 2 ?vsgbn3 rfl (by kernel_rfl) (by kernel_rfl) (by kernel_rfl) (fun _ _ _ h => h) (by rfl) ?hsgbn3 hS ?_
                    case hsgbn3 => (intro w hSw; (try dsimp only at hSw); go_split_ands; go_simp; (try with_reducible rfl))
                    (try simp only [Act.put, List.setIfInBounds_toArray, List.set_cons_zero, List.set_cons_succ])
                    refine any_take 3 ?vsgbn4 rfl (by kernel_rfl) (by kernel_rfl) (by kernel_rfl) (fun _ _ _ h => h) (by rfl) ?hsgbn4 hS ?_
                    case hsgbn4 => (intro w hSw; (try dsimp only at hSw); go_split_ands; go_simp; (try with_reducible rfl))
                    (try simp only [Act.put, List.setIfInBounds_toArray, List.set_cons_zero, List.set_cons_succ])
                    refine any_take 4 ?vsgbn5 rfl (by kernel_rfl) (by kernel_rfl) (by kernel_rfl) (fun _ _ _ h => h) (by rfl) ?hsgbn5 hS ?_
                    case hsgbn5 => (intro w hSw; (try dsimp only at hSw); go_split_ands; go_simp; (try with_reducible rfl))
                    (try simp only [Act.put, List.setIfInBounds_toArray, List.set_cons_zero, List.set_cons_succ])
                    refine any_take 5 ?vsgbn6 rfl (by kernel_rfl) (by kernel_rfl) (by kernel_rfl) (fun _ _ _ h => h) (by rfl) ?hsgbn6 hS ?_
                    case hsgbn6 => (intro w hSw; (try dsimp only at hSw); go_split_ands; go_simp; (try with_reducible rfl))
                    (try simp only [Act.put, List.setIfInBounds_toArray, List.set_cons_zero, List.set_cons_succ])
                    refine any_take 6 ?vsgbn7 rfl (by kernel_rfl) (by kernel_rfl) (by kernel_rfl) (fun _ _ _ h => h) (by rfl) ?hsgbn7 hS ?_
                    case hsgbn7 => (intro w hSw; (try dsimp only at hSw); go_split_ands; go_simp; (try with_reducible rfl))
                    (try simp only [Act.put, List.setIfInBounds_toArray, List.set_cons_zero, List.set_cons_succ])
                    refine any_take 7 ?vsgbn8 rfl (by kernel_rfl) (by kernel_rfl) (by kernel_rfl) (fun _ _ _ h => h) (by rfl) ?hsgbn8 hS ?_
                    case hsgbn8 => (intro w hSw; (try dsimp only at hSw); go_split_ands; go_simp; (try with_reducible rfl))
                    (try simp only [Act.put, List.setIfInBounds_toArray, List.set_cons_zero, List.set_cons_succ])
                    refine any_take 8 (Value.bool false) rfl (by kernel_rfl) (by kernel_rfl) (by kernel_rfl) (fun _ _ _ h => h) (by rfl) (by intro w hSw; (try dsimp only at hSw); go_split_ands; go_simp) hS ?_
                    (try simp only [Act.put, List.setIfInBounds_toArray, List.set_cons_zero, List.set_cons_succ])
                    refine wpAnyH_done (by kernel_rfl) ?_ _
                    refine NoPanic.normal ?_
                    clear hS hS0 hneq
                    go_wp2
                    go_roundw
                    case rel => exact ⟨d + 1, HJD.out, rfl, HBD.out.1.drew⟩
                    case measure => have := HJD.out; simp [intOf]; omega
                  · have HE : Hid (Duo W1 wr g r v3 v3 (n + 1)) := (HD.out.1.below HBD.out.1).duo
                    clear gd HD HBD
                    go_wp2
                    go_roundw
                    case rel => exact ⟨k + 1, (n + 1), v3, HK.out.1, by have := HK.out; omega, rfl, HE.out⟩
                    case measure => have := HK.out; simp [intOf]; omega
    · as_aux_lemma =>
      by_cases b0 : (k : Int) < (ks.length : Int)
      · by_cases b1 : (k : Int) < (fs.length : Int)
        · by_cases b2 : (k : Int) < (os.length : Int)
          · by_cases b3 : (k : Int) < (ns.length : Int)
            · have b4 : ¬ (k : Int) < 60 := fun h => hall ⟨by omega, by omega, by omega, by omega, by omega⟩
              have ka := KA.out wr (HBL.out wr hs.low)
              clear hall hs HS KA hk hnk
              go_wp2_with fail
              refine ka.mono ?_
              rintro e wc ⟨rfl, hc⟩
              have HC : Hid (Below w.heap.size w wc) := hc
              clear hc ka
              go_wp2
              go_ret
              exact ⟨rfl, HC.out⟩
            · have ka := KA.out wr (HBL.out wr hs.low)
              clear hall hs HS KA hk hnk
              go_wp2_with fail
              refine ka.mono ?_
              rintro e wc ⟨rfl, hc⟩
              have HC : Hid (Below w.heap.size w wc) := hc
              clear hc ka
              go_wp2
              go_ret
              exact ⟨rfl, HC.out⟩
          · have ka := KA.out wr (HBL.out wr hs.low)
            clear hall hs HS KA hk hnk
            go_wp2_with fail
            refine ka.mono ?_
            rintro e wc ⟨rfl, hc⟩
            have HC : Hid (Below w.heap.size w wc) := hc
            clear hc ka
            go_wp2
            go_ret
            exact ⟨rfl, HC.out⟩
        · have ka := KA.out wr (HBL.out wr hs.low)
          clear hall hs HS KA hk hnk
          go_wp2_with fail
          refine ka.mono ?_
          rintro e wc ⟨rfl, hc⟩
          have HC : Hid (Below w.heap.size w wc) := hc
          clear hc ka
          go_wp2
          go_ret
          exact ⟨rfl, HC.out⟩
      · have ka := KA.out wr (HBL.out wr hs.low)
        clear hall hs HS KA hk hnk
        go_wp2_with fail
        refine ka.mono ?_
        rintro e wc ⟨rfl, hc⟩
        have HC : Hid (Below w.heap.size w wc) := hc
        clear hc ka
        go_wp2
        go_ret
        exact ⟨rfl, HC.out⟩
end Go.Proofs.Ytoibndfiolipbaa
