/-
  The walk of GuardPlays.
-/
import Derived.Test.YtmionehafekokaaGrdX
import Derived.Test.YtmionehafekokaaFewW
namespace Go.Proofs.Ytmionehafekokaa
open Go.ChangeShapes Go.WideShapes Go.ChangeAt Go.RowKit

set_option maxHeartbeats 16000000 in
set_option maxRecDepth 20000 in
theorem plays_walk (c : Cf) (i : Int) (a1 : Option Addr) (c1 : Nat) (kl : List Int) (a2 : Option Addr) (c2 : Nat) (nl : List Int) (w : World) (_w1 : (Lit.int .i64 i).wf = true) (s1 : Nums .u8 w a1 c1 kl) (s2 : Nums .i64 w a2 c2 nl) :
    Calls Try.prog 3 #[.agg (cfC c), .int .i64 i, .slice a1 kl.length c1, .slice a2 nl.length c2] w fun e w' => e = .returned (.bool true) ∧ Below w.heap.size w w' := by
  have H1 : Hid (Nums .u8 w a1 c1 kl) := s1
  have H2 : Hid (Nums .i64 w a2 c2 nl) := s2
  have l1 := s1.len
  have l2 := s2.len
  clear s1 s2
  have H0 : Hid (Cfg w w.heap.size c (w.alloc (.cells (cfC c) 23))) := Cfg.new w c
  have HL : Hid ((Instr.loadAt 23 (.pointer (some ⟨w.heap.size, 0, none⟩))).run Try.prog (w.alloc (.cells (cfC c) 23)) = .ok (.agg (cfC c)) (w.alloc (.cells (cfC c) 23))) := H0.out.own.loads
  have KA : Hid (∀ W, Below w.heap.size w W → Calls Try.prog 9 #[] W fun e w' => e = .returned (.bool true) ∧ Below w.heap.size w w') := fun W hW => (awake_ok W).mono fun _ _ ⟨h1, h2⟩ => ⟨h1, hW.trans (h2.mono hW.size)⟩
  cases hn : nodeB c i
  · have kn := new_no (w.alloc (.cells (cfC c) 23)) c i hn
    have KR : Hid (∀ W, Calls Try.prog 8 #[.agg (cfC c), .int .i64 i] W fun e w' => e = .returned (.tuple #[.pointer none, .int .i64 1]) ∧ Below W.heap.size W w') := fun W => rnew_no W c i hn
    clear hn H1 H2
    go_enter Try.func3, Try.ntmps3
    go_wp2_with (first | (refine wpList_gload_run rfl 23 _ rfl _ _ rfl HL.out ?_) | fail)
    refine kn.mono ?_
    rintro e wa ⟨rfl, hb⟩
    have HC : Hid (Cfg w w.heap.size c wa) := H0.out.step hb
    have HL2 : Hid ((Instr.loadAt 23 (.pointer (some ⟨w.heap.size, 0, none⟩))).run Try.prog wa = .ok (.agg (cfC c)) wa) := HC.out.own.loads
    have kr := KR.out wa
    clear kn HL H0 hb KR
    go_wp2_with (first | (refine wpList_gload_run rfl 23 _ rfl _ _ rfl HL2.out ?_) | fail)
    refine kr.mono ?_
    rintro e wb ⟨rfl, hb⟩
    have ka := KA.out wb (HC.out.step hb).bel
    clear kr HL2 HC hb KA
    go_wp2_with fail
    refine ka.mono ?_
    rintro e wd ⟨rfl, hb⟩
    have HB : Hid (Below w.heap.size w wd) := hb
    clear ka hb
    go_wp2
    go_ret
    exact ⟨rfl, HB.out⟩
  have kn := solo_new (w.alloc (.cells (cfC c) 23)) (w.alloc (.cells (cfC c) 23)) (Below.refl _ _) c i hn
  have KR : Hid (∀ W g, Solo (w.alloc (.cells (cfC c) 23)) W g (newG c i) 0 → Calls Try.prog 8 #[.agg (cfC c), .int .i64 i] W fun e w' => ∃ r, e = .returned (.tuple #[.pointer (some ⟨r, 0, none⟩), .int .i64 0]) ∧ Duo (w.alloc (.cells (cfC c) 23)) w' g r (newG c i) (newG c i) 0 0) := fun W g hW => hW.duo c i hn
  clear hn
  go_enter Try.func3, Try.ntmps3
  go_wp2_with (first | (refine wpList_gload_run rfl 23 _ rfl _ _ rfl HL.out ?_) | fail)
  refine kn.mono ?_
  rintro e wa ⟨g, rfl, ha⟩
  have HC : Hid (Cfg w w.heap.size c wa) := H0.out.step ha.low
  have HL2 : Hid ((Instr.loadAt 23 (.pointer (some ⟨w.heap.size, 0, none⟩))).run Try.prog wa = .ok (.agg (cfC c)) wa) := HC.out.own.loads
  have kr := KR.out wa g ha
  clear kn HL ha KR HC
  go_wp2_with (first | (refine wpList_gload_run rfl 23 _ rfl _ _ rfl HL2.out ?_) | fail)
  refine kr.mono ?_
  rintro e wb ⟨r, rfl, hb⟩
  have HS : Hid (Duo (w.alloc (.cells (cfC c) 23)) wb g r (newG c i) (newG c i) 0 0) := hb
  have HBL : Hid (∀ W, Below (w.alloc (.cells (cfC c) 23)).heap.size (w.alloc (.cells (cfC c) 23)) W → Below w.heap.size w W) := fun W hW => (H0.out.step hW).bel
  clear kr hb HL2 H0
  go_wp2
  go_loopw [13] (fun u wr => ∃ (k : Nat) (v : Gs) (n q : Nat), k ≤ 200 ∧ n ≤ k ∧ q ≤ k ∧ u = .int .i64 (k : Int) ∧ Duo (w.alloc (.cells (cfC c) 23)) wr g r v v n q) (fun u _ => 200 - (intOf u).toNat)
  case atStart => exact ⟨0, _, 0, 0, by omega, by omega, by omega, rfl, HS.out⟩
  case round =>
    obtain ⟨k, v, n, q, hk, hnk, hqk, rfl, hs⟩ := hrel
    clear HS
    have g0 : (0 : Int) ≤ (k : Int) := Int.natCast_nonneg _
    by_cases hall : k < kl.length ∧ k < nl.length ∧ k < 200
    · obtain ⟨k1, k2, k3⟩ := hall
      obtain ⟨y, hy⟩ : ∃ y, kl[k]? = some y := ⟨kl[k], by simp [k1]⟩
      obtain ⟨kb, kof, rfl, cy⟩ := H1.out.get hy
      obtain ⟨z, hz⟩ : ∃ z, nl[k]? = some z := ⟨nl[k], by simp [k2]⟩
      obtain ⟨nb, no, rfl, cz⟩ := H2.out.get hz
      have by1 : 0 ≤ y ∧ y < 256 := bounds_u8 (H1.out.wf y (List.mem_of_getElem? hy))
      have hlow := HBL.out wr hs.low
      have cyw : wr.cell? ⟨kb, kof + k, none⟩ = some (.int .u8 y) := by rw [hlow.cell (p := ⟨kb, kof + k, none⟩) (World.block_lt_of_cell? w _ cy)]; exact cy
      have HCZ : Hid (∀ W, Below w.heap.size w W → W.cell? ⟨nb, no + k, none⟩ = some (.int .i64 z)) := fun W hW => by rw [hW.cell (p := ⟨nb, no + k, none⟩) (World.block_lt_of_cell? w _ cz)]; exact cz
      have t1 : decide ((k : Int) < (kl.length : Int)) = true := by simp; omega
      have t2 : decide ((k : Int) < (nl.length : Int)) = true := by simp; omega
      have t3 : decide ((k : Int) < 200) = true := by simp; omega
      have i1 : (k : Int) < (kl.length : Int) := by omega
      have i2 : (k : Int) < (nl.length : Int) := by omega
      have hcase : y % 5 = 0 ∨ y % 5 = 1 ∨ y % 5 = 2 ∨ y % 5 = 3 ∨ y % 5 = 4 := by omega
      have cz1 := HCZ.out wr hlow
      have M1 : Hid (y.tmod 5 = y % 5) := Int.tmod_eq_emod_of_nonneg by1.1
      clear hy cy hz cz by1 H1 H2 hlow
      rcases hcase with m2 | m2 | m2 | m2 | m2
      · have m1 := M1.out
        rw [m2] at m1
        have m3 : IntKind.u8.wrap (y % 5) = y % 5 := by rw [IntKind.wrap_u8]; omega
        rw [m2] at m3
        obtain ⟨v3, hv3⟩ : ∃ v3, v3 = dataV v z := ⟨_, rfl⟩
        obtain ⟨E, hE⟩ : ∃ E, E = dataE v z := ⟨_, rfl⟩
        obtain ⟨R, hR⟩ : ∃ R, R = dataR v z := ⟨_, rfl⟩
        have ka := hs.data z
        have KB : Hid (∀ W, Duo (w.alloc (.cells (cfC c) 23)) W g r v3 v n q → Calls Try.prog 11 #[.pointer (some ⟨r, 0, none⟩), .int .i64 z] W fun e w' => e = .returned (.tuple #[.int .i64 R, .int .i64 E]) ∧ Duo (w.alloc (.cells (cfC c) 23)) w' g r v3 v3 n q) := fun W hW => by rw [hE, hR]; have := hW.rdata z; rw [← hv3] at this; exact this
        rw [← hv3, ← hE, ← hR] at ka
        clear hs hv3 hE hR M1
        go_wp2_with fail
        refine ka.mono ?_
        rintro e wb ⟨rfl, hb⟩
        clear ka cz1 cyw
        have cz1 := HCZ.out wb (HBL.out wb hb.low)
        have kb := KB.out wb hb
        clear hb KB HCZ
        go_wp2_with fail
        refine kb.mono ?_
        rintro e wd ⟨rfl, hd⟩
        clear kb cz1
        have HQ3 : Hid (Duo (w.alloc (.cells (cfC c) 23)) wd g r v3 v3 n q) := hd
        clear hd
        obtain ⟨T, hT⟩ : ∃ T, T = v3.last := ⟨_, rfl⟩
        have HK : Hid (∀ W, ((W.cell? ⟨r, 11, none⟩ = some (.int .i64 T)) ∧ Duo (w.alloc (.cells (cfC c) 23)) W g r v3 v3 n q) → Calls Try.prog 16 #[.pointer (some ⟨g, 0, none⟩)] W fun e w' => e = .returned (.int .i64 T) ∧ w' = W) := fun W hW => by rw [hT]; exact hW.2.last
        have H9 : Hid ((wd.cell? ⟨r, 11, none⟩ = some (.int .i64 T)) ∧ Duo (w.alloc (.cells (cfC c) 23)) wd g r v3 v3 n q) := by rw [hT]; exact ⟨HQ3.out.cell, HQ3.out⟩
        have HD : Hid (∀ W, ((W.cell? ⟨r, 11, none⟩ = some (.int .i64 T)) ∧ Duo (w.alloc (.cells (cfC c) 23)) W g r v3 v3 n q) → ((W.drew.cell? ⟨r, 11, none⟩ = some (.int .i64 T)) ∧ Duo (w.alloc (.cells (cfC c) 23)) W.drew g r v3 v3 n q)) := fun W hW => ⟨hW.1, hW.2.drew⟩
        clear hT
        go_upto_region 23 with fail
        go_region_held3 (fun W => (W.cell? ⟨r, 11, none⟩ = some (.int .i64 T)) ∧ Duo (w.alloc (.cells (cfC c) 23)) W g r v3 v3 n q)
          (first | exact H9.out | assumption | exact HD.out _ H9.out | exact HD.out _ (by assumption))
          (first | (go_at_call 16; (with_reducible refine (HK.out _ ?_).mono ?_); (focus (first | exact H9.out | assumption | exact HD.out _ H9.out | exact HD.out _ (by assumption))); rintro e w9 ⟨rfl, rfl⟩))
        have HE : Hid (Duo (w.alloc (.cells (cfC c) 23)) wd.drew g r v3 v3 n q) := HQ3.out.drew
        clear HK H9 HD HQ3
        go_wp2
        go_roundw
        case rel => exact ⟨k + 1, v3, n, q, by omega, by omega, by omega, by go_num, HE.out⟩
        case measure => simp [intOf]; omega
      · have m1 := M1.out
        rw [m2] at m1
        have m3 : IntKind.u8.wrap (y % 5) = y % 5 := by rw [IntKind.wrap_u8]; omega
        rw [m2] at m3
        obtain ⟨v3, hv3⟩ : ∃ v3, v3 = dataV v z := ⟨_, rfl⟩
        obtain ⟨E, hE⟩ : ∃ E, E = dataE v z := ⟨_, rfl⟩
        obtain ⟨R, hR⟩ : ∃ R, R = dataR v z := ⟨_, rfl⟩
        have ka := hs.data z
        have KB : Hid (∀ W, Duo (w.alloc (.cells (cfC c) 23)) W g r v3 v n q → Calls Try.prog 11 #[.pointer (some ⟨r, 0, none⟩), .int .i64 z] W fun e w' => e = .returned (.tuple #[.int .i64 R, .int .i64 E]) ∧ Duo (w.alloc (.cells (cfC c) 23)) w' g r v3 v3 n q) := fun W hW => by rw [hE, hR]; have := hW.rdata z; rw [← hv3] at this; exact this
        rw [← hv3, ← hE, ← hR] at ka
        clear hs hv3 hE hR M1
        go_wp2_with fail
        refine ka.mono ?_
        rintro e wb ⟨rfl, hb⟩
        clear ka cz1 cyw
        have cz1 := HCZ.out wb (HBL.out wb hb.low)
        have kb := KB.out wb hb
        clear hb KB HCZ
        go_wp2_with fail
        refine kb.mono ?_
        rintro e wd ⟨rfl, hd⟩
        clear kb cz1
        have HQ3 : Hid (Duo (w.alloc (.cells (cfC c) 23)) wd g r v3 v3 n q) := hd
        clear hd
        obtain ⟨T, hT⟩ : ∃ T, T = v3.last := ⟨_, rfl⟩
        have HK : Hid (∀ W, ((W.cell? ⟨r, 11, none⟩ = some (.int .i64 T)) ∧ Duo (w.alloc (.cells (cfC c) 23)) W g r v3 v3 n q) → Calls Try.prog 16 #[.pointer (some ⟨g, 0, none⟩)] W fun e w' => e = .returned (.int .i64 T) ∧ w' = W) := fun W hW => by rw [hT]; exact hW.2.last
        have H9 : Hid ((wd.cell? ⟨r, 11, none⟩ = some (.int .i64 T)) ∧ Duo (w.alloc (.cells (cfC c) 23)) wd g r v3 v3 n q) := by rw [hT]; exact ⟨HQ3.out.cell, HQ3.out⟩
        have HD : Hid (∀ W, ((W.cell? ⟨r, 11, none⟩ = some (.int .i64 T)) ∧ Duo (w.alloc (.cells (cfC c) 23)) W g r v3 v3 n q) → ((W.drew.cell? ⟨r, 11, none⟩ = some (.int .i64 T)) ∧ Duo (w.alloc (.cells (cfC c) 23)) W.drew g r v3 v3 n q)) := fun W hW => ⟨hW.1, hW.2.drew⟩
        clear hT
        go_upto_region 23 with fail
        go_region_held3 (fun W => (W.cell? ⟨r, 11, none⟩ = some (.int .i64 T)) ∧ Duo (w.alloc (.cells (cfC c) 23)) W g r v3 v3 n q)
          (first | exact H9.out | assumption | exact HD.out _ H9.out | exact HD.out _ (by assumption))
          (first | (go_at_call 16; (with_reducible refine (HK.out _ ?_).mono ?_); (focus (first | exact H9.out | assumption | exact HD.out _ H9.out | exact HD.out _ (by assumption))); rintro e w9 ⟨rfl, rfl⟩))
        have HE : Hid (Duo (w.alloc (.cells (cfC c) 23)) wd.drew g r v3 v3 n q) := HQ3.out.drew
        clear HK H9 HD HQ3
        go_wp2
        go_roundw
        case rel => exact ⟨k + 1, v3, n, q, by omega, by omega, by omega, by go_num, HE.out⟩
        case measure => simp [intOf]; omega
      · have m1 := M1.out
        rw [m2] at m1
        have m3 : IntKind.u8.wrap (y % 5) = y % 5 := by rw [IntKind.wrap_u8]; omega
        rw [m2] at m3
        obtain ⟨v3, hv3⟩ : ∃ v3, v3 = othV v z := ⟨_, rfl⟩
        obtain ⟨E, hE⟩ : ∃ E, E = othE v z := ⟨_, rfl⟩
        have ka := hs.drew.other (by omega) z
        have KB : Hid (∀ W, Duo (w.alloc (.cells (cfC c) 23)) W g r v3 v (n + 1) q → Calls Try.prog 13 #[.pointer (some ⟨r, 0, none⟩), .int .i64 z] W fun e w' => e = .returned (.int .i64 E) ∧ Duo (w.alloc (.cells (cfC c) 23)) w' g r v3 v3 (n + 1) (q + 1)) := fun W hW => by rw [hE]; have := hW.rother (by omega) z; rw [← hv3] at this; exact this
        rw [← hv3, ← hE] at ka
        have HLOW : Hid (Below w.heap.size w wr) := HBL.out wr hs.low
        clear hs hv3 hE M1
        go_upto_region 21 with fail
        refine wp_region_noPanic ?_
        refine wp_region_held (S := fun V => V.cell? ⟨nb, no + k, none⟩ = some (.int .i64 z) ∧ Below w.heap.size w V) (by kernel_rfl) ?_
        have hS := (show (fun V : World => V.cell? ⟨nb, no + k, none⟩ = some (.int .i64 z) ∧ Below w.heap.size w V) wr.drew from ⟨cz1, HLOW.out.drew⟩)
        refine any_take 0 ?vran1 rfl (by kernel_rfl) (by kernel_rfl) (by kernel_rfl) (fun _ _ _ h => h) (by rfl) ?hran1 hS ?_
        case hran1 => (intro w hSw; (try dsimp only at hSw); go_split_ands; go_simp; (try with_reducible rfl))
        (try simp only [Act.put, List.setIfInBounds_toArray, List.set_cons_zero, List.set_cons_succ])
        refine any_take 1 ?vran2 rfl (by kernel_rfl) (by kernel_rfl) (by kernel_rfl) (fun _ _ _ h => h) (by rfl) ?hran2 hS ?_
        case hran2 => (intro w hSw; (try dsimp only at hSw); go_split_ands; go_simp; (try with_reducible rfl))
        (try simp only [Act.put, List.setIfInBounds_toArray, List.set_cons_zero, List.set_cons_succ])
        refine any_take 2 ?vran3 rfl (by kernel_rfl) (by kernel_rfl) (by kernel_rfl) (fun _ _ _ h => h) (by rfl) ?hran3 hS ?_
        case hran3 => (intro w hSw; (try dsimp only at hSw); go_split_ands; go_simp; (try with_reducible rfl))
        (try simp only [Act.put, List.setIfInBounds_toArray, List.set_cons_zero, List.set_cons_succ])
        refine any_take 3 ?vran4 rfl (by kernel_rfl) (by kernel_rfl) (by kernel_rfl) (fun _ _ _ h => h) (by rfl) ?hran4 hS ?_
        case hran4 => (intro w hSw; (try dsimp only at hSw); go_split_ands; go_simp; (try with_reducible rfl))
        (try simp only [Act.put, List.setIfInBounds_toArray, List.set_cons_zero, List.set_cons_succ])
        refine any_take 4 ?vran5 rfl (by kernel_rfl) (by kernel_rfl) (by kernel_rfl) (fun _ _ _ h => h) (by rfl) ?hran5 hS ?_
        case hran5 => (intro w hSw; (try dsimp only at hSw); go_split_ands; go_simp; (try with_reducible rfl))
        (try simp only [Act.put, List.setIfInBounds_toArray, List.set_cons_zero, List.set_cons_succ])
        refine any_take 6 ?vran6 rfl (by kernel_rfl) (by kernel_rfl) (by kernel_rfl) (fun _ _ _ h => h) (by rfl) ?hran6 hS ?_
        case hran6 => (intro w hSw; (try dsimp only at hSw); go_split_ands; go_simp; (try with_reducible rfl))
        (try simp only [Act.put, List.setIfInBounds_toArray, List.set_cons_zero, List.set_cons_succ])
        refine any_take 7 ?vran7 rfl (by kernel_rfl) (by kernel_rfl) (by kernel_rfl) (fun _ _ _ h => h) (by rfl) ?hran7 hS ?_
        case hran7 => (intro w hSw; (try dsimp only at hSw); go_split_ands; go_simp; (try with_reducible rfl))
        (try simp only [Act.put, List.setIfInBounds_toArray, List.set_cons_zero, List.set_cons_succ])
        refine any_take 8 ?vran8 rfl (by kernel_rfl) (by kernel_rfl) (by kernel_rfl) (fun _ _ _ h => h) (by rfl) ?hran8 hS ?_
        case hran8 => (intro w hSw; (try dsimp only at hSw); go_split_ands; go_simp; (try with_reducible rfl))
        (try simp only [Act.put, List.setIfInBounds_toArray, List.set_cons_zero, List.set_cons_succ])
        refine any_take 9 ?vran9 rfl (by kernel_rfl) (by kernel_rfl) (by kernel_rfl) (fun _ _ _ h => h) (by rfl) ?hran9 hS ?_
        case hran9 => (intro w hSw; (try dsimp only at hSw); go_split_ands; go_simp; (try with_reducible rfl))
        (try simp only [Act.put, List.setIfInBounds_toArray, List.set_cons_zero, List.set_cons_succ])
        refine any_take 10 ?vran10 rfl (by kernel_rfl) (by kernel_rfl) (by kernel_rfl) (fun _ _ _ h => h) (by rfl) ?hran10 hS ?_
        case hran10 => (intro w hSw; (try dsimp only at hSw); go_split_ands; go_simp; (try with_reducible rfl))
        (try simp only [Act.put, List.setIfInBounds_toArray, List.set_cons_zero, List.set_cons_succ])
        refine any_one 5 rfl (by kernel_rfl) (by rfl) (fun K hK => ?_)
        clear hS
        go_simp
        refine ka.mono ?_
        rintro e wb ⟨rfl, hb⟩
        have kb := KB.out wb hb
        refine hK.out _ _ (⟨HCZ.out wb (HBL.out wb hb.low), HBL.out wb hb.low⟩) (fun hS => ?_)
        clear hK
        (try simp only [Act.put, List.setIfInBounds_toArray, List.set_cons_zero, List.set_cons_succ])
        refine any_one 11 rfl (by kernel_rfl) (by rfl) (fun K hK => ?_)
        clear hS
        go_simp
        refine kb.mono ?_
        rintro e wd ⟨rfl, hd⟩
        refine hK.out _ _ (⟨HCZ.out wd (HBL.out wd hd.low), HBL.out wd hd.low⟩) (fun hS => ?_)
        clear hK
        (try simp only [Act.put, List.setIfInBounds_toArray, List.set_cons_zero, List.set_cons_succ])
        refine any_take 12 ?vran11 rfl (by kernel_rfl) (by kernel_rfl) (by kernel_rfl) (fun _ _ _ h => h) (by rfl) ?hran11 hS ?_
        case hran11 => (intro w hSw; (try dsimp only at hSw); go_split_ands; go_simp; (try with_reducible rfl))
        (try simp only [Act.put, List.setIfInBounds_toArray, List.set_cons_zero, List.set_cons_succ])
        refine wpAnyH_done (by kernel_rfl) ?_ _
        refine NoPanic.normal ?_
        clear hS ka kb KB HCZ cz1 cyw hb
        have HQ3 : Hid (Duo (w.alloc (.cells (cfC c) 23)) wd g r v3 v3 (n + 1) (q + 1)) := hd
        clear hd
        obtain ⟨T, hT⟩ : ∃ T, T = v3.last := ⟨_, rfl⟩
        have HK : Hid (∀ W, ((W.cell? ⟨r, 11, none⟩ = some (.int .i64 T)) ∧ Duo (w.alloc (.cells (cfC c) 23)) W g r v3 v3 (n + 1) (q + 1)) → Calls Try.prog 16 #[.pointer (some ⟨g, 0, none⟩)] W fun e w' => e = .returned (.int .i64 T) ∧ w' = W) := fun W hW => by rw [hT]; exact hW.2.last
        have H9 : Hid ((wd.cell? ⟨r, 11, none⟩ = some (.int .i64 T)) ∧ Duo (w.alloc (.cells (cfC c) 23)) wd g r v3 v3 (n + 1) (q + 1)) := by rw [hT]; exact ⟨HQ3.out.cell, HQ3.out⟩
        have HD : Hid (∀ W, ((W.cell? ⟨r, 11, none⟩ = some (.int .i64 T)) ∧ Duo (w.alloc (.cells (cfC c) 23)) W g r v3 v3 (n + 1) (q + 1)) → ((W.drew.cell? ⟨r, 11, none⟩ = some (.int .i64 T)) ∧ Duo (w.alloc (.cells (cfC c) 23)) W.drew g r v3 v3 (n + 1) (q + 1))) := fun W hW => ⟨hW.1, hW.2.drew⟩
        clear hT
        go_upto_region 23 with fail
        go_region_held3 (fun W => (W.cell? ⟨r, 11, none⟩ = some (.int .i64 T)) ∧ Duo (w.alloc (.cells (cfC c) 23)) W g r v3 v3 (n + 1) (q + 1))
          (first | exact H9.out | assumption | exact HD.out _ H9.out | exact HD.out _ (by assumption))
          (first | (go_at_call 16; (with_reducible refine (HK.out _ ?_).mono ?_); (focus (first | exact H9.out | assumption | exact HD.out _ H9.out | exact HD.out _ (by assumption))); rintro e w9 ⟨rfl, rfl⟩))
        have HE : Hid (Duo (w.alloc (.cells (cfC c) 23)) wd.drew g r v3 v3 (n + 1) (q + 1)) := HQ3.out.drew
        clear HK H9 HD HQ3
        go_wp2
        go_roundw
        case rel => exact ⟨k + 1, v3, (n + 1), (q + 1), by omega, by omega, by omega, by go_num, HE.out⟩
        case measure => simp [intOf]; omega
      · have m1 := M1.out
        rw [m2] at m1
        have m3 : IntKind.u8.wrap (y % 5) = y % 5 := by rw [IntKind.wrap_u8]; omega
        rw [m2] at m3
        obtain ⟨v3, hv3⟩ : ∃ v3, v3 = othV v z := ⟨_, rfl⟩
        obtain ⟨E, hE⟩ : ∃ E, E = othE v z := ⟨_, rfl⟩
        have ka := hs.drew.other (by omega) z
        have KB : Hid (∀ W, Duo (w.alloc (.cells (cfC c) 23)) W g r v3 v (n + 1) q → Calls Try.prog 13 #[.pointer (some ⟨r, 0, none⟩), .int .i64 z] W fun e w' => e = .returned (.int .i64 E) ∧ Duo (w.alloc (.cells (cfC c) 23)) w' g r v3 v3 (n + 1) (q + 1)) := fun W hW => by rw [hE]; have := hW.rother (by omega) z; rw [← hv3] at this; exact this
        rw [← hv3, ← hE] at ka
        have HLOW : Hid (Below w.heap.size w wr) := HBL.out wr hs.low
        clear hs hv3 hE M1
        go_upto_region 21 with fail
        refine wp_region_noPanic ?_
        refine wp_region_held (S := fun V => V.cell? ⟨nb, no + k, none⟩ = some (.int .i64 z) ∧ Below w.heap.size w V) (by kernel_rfl) ?_
        have hS := (show (fun V : World => V.cell? ⟨nb, no + k, none⟩ = some (.int .i64 z) ∧ Below w.heap.size w V) wr.drew from ⟨cz1, HLOW.out.drew⟩)
        refine any_take 0 ?vrbn1 rfl (by kernel_rfl) (by kernel_rfl) (by kernel_rfl) (fun _ _ _ h => h) (by rfl) ?hrbn1 hS ?_
        case hrbn1 => (intro w hSw; (try dsimp only at hSw); go_split_ands; go_simp; (try with_reducible rfl))
        (try simp only [Act.put, List.setIfInBounds_toArray, List.set_cons_zero, List.set_cons_succ])
        refine any_take 1 ?vrbn2 rfl (by kernel_rfl) (by kernel_rfl) (by kernel_rfl) (fun _ _ _ h => h) (by rfl) ?hrbn2 hS ?_
        case hrbn2 => (intro w hSw; (try dsimp only at hSw); go_split_ands; go_simp; (try with_reducible rfl))
        (try simp only [Act.put, List.setIfInBounds_toArray, List.set_cons_zero, List.set_cons_succ])
        refine any_take 2 ?vrbn3 rfl (by kernel_rfl) (by kernel_rfl) (by kernel_rfl) (fun _ _ _ h => h) (by rfl) ?hrbn3 hS ?_
        case hrbn3 => (intro w hSw; (try dsimp only at hSw); go_split_ands; go_simp; (try with_reducible rfl))
        (try simp only [Act.put, List.setIfInBounds_toArray, List.set_cons_zero, List.set_cons_succ])
        refine any_take 3 ?vrbn4 rfl (by kernel_rfl) (by kernel_rfl) (by kernel_rfl) (fun _ _ _ h => h) (by rfl) ?hrbn4 hS ?_
        case hrbn4 => (intro w hSw; (try dsimp only at hSw); go_split_ands; go_simp; (try with_reducible rfl))
        (try simp only [Act.put, List.setIfInBounds_toArray, List.set_cons_zero, List.set_cons_succ])
        refine any_take 4 ?vrbn5 rfl (by kernel_rfl) (by kernel_rfl) (by kernel_rfl) (fun _ _ _ h => h) (by rfl) ?hrbn5 hS ?_
        case hrbn5 => (intro w hSw; (try dsimp only at hSw); go_split_ands; go_simp; (try with_reducible rfl))
        (try simp only [Act.put, List.setIfInBounds_toArray, List.set_cons_zero, List.set_cons_succ])
        refine any_take 6 ?vrbn6 rfl (by kernel_rfl) (by kernel_rfl) (by kernel_rfl) (fun _ _ _ h => h) (by rfl) ?hrbn6 hS ?_
        case hrbn6 => (intro w hSw; (try dsimp only at hSw); go_split_ands; go_simp; (try with_reducible rfl))
        (try simp only [Act.put, List.setIfInBounds_toArray, List.set_cons_zero, List.set_cons_succ])
        refine any_take 7 ?vrbn7 rfl (by kernel_rfl) (by kernel_rfl) (by kernel_rfl) (fun _ _ _ h => h) (by rfl) ?hrbn7 hS ?_
        case hrbn7 => (intro w hSw; (try dsimp only at hSw); go_split_ands; go_simp; (try with_reducible rfl))
        (try simp only [Act.put, List.setIfInBounds_toArray, List.set_cons_zero, List.set_cons_succ])
        refine any_take 8 ?vrbn8 rfl (by kernel_rfl) (by kernel_rfl) (by kernel_rfl) (fun _ _ _ h => h) (by rfl) ?hrbn8 hS ?_
        case hrbn8 => (intro w hSw; (try dsimp only at hSw); go_split_ands; go_simp; (try with_reducible rfl))
        (try simp only [Act.put, List.setIfInBounds_toArray, List.set_cons_zero, List.set_cons_succ])
        refine any_take 9 ?vrbn9 rfl (by kernel_rfl) (by kernel_rfl) (by kernel_rfl) (fun _ _ _ h => h) (by rfl) ?hrbn9 hS ?_
        case hrbn9 => (intro w hSw; (try dsimp only at hSw); go_split_ands; go_simp; (try with_reducible rfl))
        (try simp only [Act.put, List.setIfInBounds_toArray, List.set_cons_zero, List.set_cons_succ])
        refine any_take 10 ?vrbn10 rfl (by kernel_rfl) (by kernel_rfl) (by kernel_rfl) (fun _ _ _ h => h) (by rfl) ?hrbn10 hS ?_
        case hrbn10 => (intro w hSw; (try dsimp only at hSw); go_split_ands; go_simp; (try with_reducible rfl))
        (try simp only [Act.put, List.setIfInBounds_toArray, List.set_cons_zero, List.set_cons_succ])
        refine any_one 5 rfl (by kernel_rfl) (by rfl) (fun K hK => ?_)
        clear hS
        go_simp
        refine ka.mono ?_
        rintro e wb ⟨rfl, hb⟩
        have kb := KB.out wb hb
        refine hK.out _ _ (⟨HCZ.out wb (HBL.out wb hb.low), HBL.out wb hb.low⟩) (fun hS => ?_)
        clear hK
        (try simp only [Act.put, List.setIfInBounds_toArray, List.set_cons_zero, List.set_cons_succ])
        refine any_one 11 rfl (by kernel_rfl) (by rfl) (fun K hK => ?_)
        clear hS
        go_simp
        refine kb.mono ?_
        rintro e wd ⟨rfl, hd⟩
        refine hK.out _ _ (⟨HCZ.out wd (HBL.out wd hd.low), HBL.out wd hd.low⟩) (fun hS => ?_)
        clear hK
        (try simp only [Act.put, List.setIfInBounds_toArray, List.set_cons_zero, List.set_cons_succ])
        refine any_take 12 ?vrbn11 rfl (by kernel_rfl) (by kernel_rfl) (by kernel_rfl) (fun _ _ _ h => h) (by rfl) ?hrbn11 hS ?_
        case hrbn11 => (intro w hSw; (try dsimp only at hSw); go_split_ands; go_simp; (try with_reducible rfl))
        (try simp only [Act.put, List.setIfInBounds_toArray, List.set_cons_zero, List.set_cons_succ])
        refine wpAnyH_done (by kernel_rfl) ?_ _
        refine NoPanic.normal ?_
        clear hS ka kb KB HCZ cz1 cyw hb
        have HQ3 : Hid (Duo (w.alloc (.cells (cfC c) 23)) wd g r v3 v3 (n + 1) (q + 1)) := hd
        clear hd
        obtain ⟨T, hT⟩ : ∃ T, T = v3.last := ⟨_, rfl⟩
        have HK : Hid (∀ W, ((W.cell? ⟨r, 11, none⟩ = some (.int .i64 T)) ∧ Duo (w.alloc (.cells (cfC c) 23)) W g r v3 v3 (n + 1) (q + 1)) → Calls Try.prog 16 #[.pointer (some ⟨g, 0, none⟩)] W fun e w' => e = .returned (.int .i64 T) ∧ w' = W) := fun W hW => by rw [hT]; exact hW.2.last
        have H9 : Hid ((wd.cell? ⟨r, 11, none⟩ = some (.int .i64 T)) ∧ Duo (w.alloc (.cells (cfC c) 23)) wd g r v3 v3 (n + 1) (q + 1)) := by rw [hT]; exact ⟨HQ3.out.cell, HQ3.out⟩
        have HD : Hid (∀ W, ((W.cell? ⟨r, 11, none⟩ = some (.int .i64 T)) ∧ Duo (w.alloc (.cells (cfC c) 23)) W g r v3 v3 (n + 1) (q + 1)) → ((W.drew.cell? ⟨r, 11, none⟩ = some (.int .i64 T)) ∧ Duo (w.alloc (.cells (cfC c) 23)) W.drew g r v3 v3 (n + 1) (q + 1))) := fun W hW => ⟨hW.1, hW.2.drew⟩
        clear hT
        go_upto_region 23 with fail
        go_region_held3 (fun W => (W.cell? ⟨r, 11, none⟩ = some (.int .i64 T)) ∧ Duo (w.alloc (.cells (cfC c) 23)) W g r v3 v3 (n + 1) (q + 1))
          (first | exact H9.out | assumption | exact HD.out _ H9.out | exact HD.out _ (by assumption))
          (first | (go_at_call 16; (with_reducible refine (HK.out _ ?_).mono ?_); (focus (first | exact H9.out | assumption | exact HD.out _ H9.out | exact HD.out _ (by assumption))); rintro e w9 ⟨rfl, rfl⟩))
        have HE : Hid (Duo (w.alloc (.cells (cfC c) 23)) wd.drew g r v3 v3 (n + 1) (q + 1)) := HQ3.out.drew
        clear HK H9 HD HQ3
        go_wp2
        go_roundw
        case rel => exact ⟨k + 1, v3, (n + 1), (q + 1), by omega, by omega, by omega, by go_num, HE.out⟩
        case measure => simp [intOf]; omega
      · have m1 := M1.out
        rw [m2] at m1
        have m3 : IntKind.u8.wrap (y % 5) = y % 5 := by rw [IntKind.wrap_u8]; omega
        rw [m2] at m3
        obtain ⟨v3, hv3⟩ : ∃ v3, v3 = forV v (z.tmod 100) := ⟨_, rfl⟩
        obtain ⟨l, hl⟩ : ∃ l, l = z.tmod 100 := ⟨_, rfl⟩
        have wl : IntKind.i64.wrap l = l := by
          have u1 := Int.tmod_lt_of_pos z (b := 100) (by decide)
          have u2 := Int.lt_tmod_of_pos z (b := 100) (by decide)
          rw [hl]; exact wrap_in (by omega) (by omega)
        have el : z.tmod 100 = l := hl.symm
        rw [← hl] at hv3
        have ka := hs.forget l
        have KB : Hid (∀ W, Duo (w.alloc (.cells (cfC c) 23)) W g r v3 v n q → Calls Try.prog 15 #[.pointer (some ⟨r, 0, none⟩), .int .i64 l] W fun e w' => e = .returned (.tuple #[]) ∧ Duo (w.alloc (.cells (cfC c) 23)) w' g r v3 v3 n q) := fun W hW => by have := hW.rforget l; rw [← hv3] at this; exact this
        rw [← hv3] at ka
        clear hs hv3 hl M1
        go_wp2_with fail
        refine ka.mono ?_
        rintro e wb ⟨rfl, hb⟩
        clear ka cz1 cyw
        have cz1 := HCZ.out wb (HBL.out wb hb.low)
        have kb := KB.out wb hb
        clear hb KB HCZ
        go_wp2_with fail
        refine kb.mono ?_
        rintro e wd ⟨rfl, hd⟩
        clear kb cz1
        have HQ3 : Hid (Duo (w.alloc (.cells (cfC c) 23)) wd g r v3 v3 n q) := hd
        clear hd
        obtain ⟨T, hT⟩ : ∃ T, T = v3.last := ⟨_, rfl⟩
        have HK : Hid (∀ W, ((W.cell? ⟨r, 11, none⟩ = some (.int .i64 T)) ∧ Duo (w.alloc (.cells (cfC c) 23)) W g r v3 v3 n q) → Calls Try.prog 16 #[.pointer (some ⟨g, 0, none⟩)] W fun e w' => e = .returned (.int .i64 T) ∧ w' = W) := fun W hW => by rw [hT]; exact hW.2.last
        have H9 : Hid ((wd.cell? ⟨r, 11, none⟩ = some (.int .i64 T)) ∧ Duo (w.alloc (.cells (cfC c) 23)) wd g r v3 v3 n q) := by rw [hT]; exact ⟨HQ3.out.cell, HQ3.out⟩
        have HD : Hid (∀ W, ((W.cell? ⟨r, 11, none⟩ = some (.int .i64 T)) ∧ Duo (w.alloc (.cells (cfC c) 23)) W g r v3 v3 n q) → ((W.drew.cell? ⟨r, 11, none⟩ = some (.int .i64 T)) ∧ Duo (w.alloc (.cells (cfC c) 23)) W.drew g r v3 v3 n q)) := fun W hW => ⟨hW.1, hW.2.drew⟩
        clear hT
        go_upto_region 23 with fail
        go_region_held3 (fun W => (W.cell? ⟨r, 11, none⟩ = some (.int .i64 T)) ∧ Duo (w.alloc (.cells (cfC c) 23)) W g r v3 v3 n q)
          (first | exact H9.out | assumption | exact HD.out _ H9.out | exact HD.out _ (by assumption))
          (first | (go_at_call 16; (with_reducible refine (HK.out _ ?_).mono ?_); (focus (first | exact H9.out | assumption | exact HD.out _ H9.out | exact HD.out _ (by assumption))); rintro e w9 ⟨rfl, rfl⟩))
        have HE : Hid (Duo (w.alloc (.cells (cfC c) 23)) wd.drew g r v3 v3 n q) := HQ3.out.drew
        clear HK H9 HD HQ3
        go_wp2
        go_roundw
        case rel => exact ⟨k + 1, v3, n, q, by omega, by omega, by omega, by go_num, HE.out⟩
        case measure => simp [intOf]; omega
    · by_cases b0 : ¬ (k < kl.length)
      · have f0 : decide ((k : Int) < (kl.length : Int)) = false := by simp; omega
        have ka := KA.out wr (HBL.out wr hs.low)
        clear hall hs H1 H2 KA
        go_wp2_with fail
        refine ka.mono ?_
        rintro e wc ⟨rfl, hc⟩
        have HC : Hid (Below w.heap.size w wc) := hc
        clear hc ka
        go_wp2
        go_ret
        exact ⟨rfl, HC.out⟩
      · have f0 : decide ((k : Int) < (kl.length : Int)) = true := by simp; omega
        by_cases b1 : ¬ (k < nl.length)
        · have f1 : decide ((k : Int) < (nl.length : Int)) = false := by simp; omega
          have ka := KA.out wr (HBL.out wr hs.low)
          clear hall hs H1 H2 KA
          go_wp2_with fail
          refine ka.mono ?_
          rintro e wc ⟨rfl, hc⟩
          have HC : Hid (Below w.heap.size w wc) := hc
          clear hc ka
          go_wp2
          go_ret
          exact ⟨rfl, HC.out⟩
        · have f1 : decide ((k : Int) < (nl.length : Int)) = true := by simp; omega
          have f2 : decide ((k : Int) < 200) = false := by simp; omega
          have ka := KA.out wr (HBL.out wr hs.low)
          clear hall hs H1 H2 KA
          go_wp2_with fail
          refine ka.mono ?_
          rintro e wc ⟨rfl, hc⟩
          have HC : Hid (Below w.heap.size w wc) := hc
          clear hc ka
          go_wp2
          go_ret
          exact ⟨rfl, HC.out⟩
end Go.Proofs.Ytmionehafekokaa
