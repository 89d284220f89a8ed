/-
  The program's isFor, pair and sealed.
-/
import Derived.Test.YtahnbljbhfpldaaGreatDoorPeB
import Derived.Test.YtahnbljbhfpldaaGreatDoorKdfPair
import Derived.Test.YtahnbljbhfpldaaGreatDoorEchoU
namespace Go.Proofs.YtahnbljbhfpldaaGreatDoor
open Go.ChangeShapes Go.WideShapes Go.ChangeAt Go.RowKit
set_option maxRecDepth 20000
def Ec.forB (s : Ec) (F : Fr) (k : Int) : Bool := decide (F.k = k ∧ F.t = s.i) && rightB F
set_option maxHeartbeats 3200000 in
theorem pefor_ok (w : World) (R : Nat) (s : Ec) (ma : Option Addr) (mc : Nat) (h : PEAt w R s ma mc) (F : Fr) (A : At) (hF : Seen w F A) (k : Int) :
    Calls Tryz.prog 38 #[.pointer (some ⟨R, 0, none⟩), .agg (frC F A), .int .i64 k] w fun e w' => e = .returned (.bool (s.forB F k)) ∧ Below w.heap.size w w' := by
  obtain ⟨W, hW⟩ : ∃ W, W = w.alloc (.cells (frC F A) 40) := ⟨_, rfl⟩
  have hb0 : Below w.heap.size w W := by rw [hW]; exact Go.Joins.below_alloc1 _ _
  have hfr : FrAt W w.heap.size F A := by rw [hW]; exact FrAt.new w F A
  have H0 : Hid (PEAt W R s ma mc ∧ FrAt W w.heap.size F A ∧ Below w.heap.size w W ∧ Seen W F A ∧ W = w.alloc (.cells (frC F A) 40)) := ⟨h.below hb0, hfr, hb0, hF.below hb0, hW⟩
  have HQ : Hid (∀ V, Below W.heap.size W V → ((Instr.loadAt 40 (.pointer (some ⟨w.heap.size, 0, none⟩))).run Tryz.prog V = .ok (.agg (frC F A)) V ∧ V.cell? ⟨w.heap.size, 0, none⟩ = some (.int .i64 F.k) ∧ V.cell? ⟨w.heap.size, 2, none⟩ = some (.int .i64 F.t) ∧ V.cell? ⟨R, 11, none⟩ = some (.int .i64 s.i))) := fun V hV =>
    ⟨(H0.out.2.1.below hV).loads, (H0.out.2.1.below hV).c0, (H0.out.2.1.below hV).c2, (H0.out.1.below hV).cell 11 rfl⟩
  have hS0 := HQ.out W.drew (Below.refl _ _).drew
  have KC := check_ok W.drew F A (H0.out.2.2.2.1.below (Below.refl _ _).drew)
  clear h hF hW hb0 hfr
  obtain ⟨B, hB⟩ : ∃ B, B = s.forB F k := ⟨_, rfl⟩
  rw [← hB]
  have HBB : Hid (B = s.forB F k) := hB
  clear hB
  go_enter Tryz.func38, Tryz.ntmps38
  go_upto_region 1 with fail
  rw [← H0.out.2.2.2.2]
  by_cases hr : rightB F = true
  · rw [if_pos hr] at KC
    by_cases hk : F.k = k
    · have hkb : (F.k == k) = true := by simp [hk]
      by_cases ht : F.t = s.i
      · have hB : Hid (B = true) := HBB.out.trans (by simp [Ec.forB, hr, hk, ht])
        have htb : (F.t == s.i) = true := by simp [ht]
        clear hk ht hr
        refine wp_region_noPanic ?_
        refine wp_region_held (S := fun V => (Instr.loadAt 40 (.pointer (some ⟨w.heap.size, 0, none⟩))).run Tryz.prog V = .ok (.agg (frC F A)) V ∧ V.cell? ⟨w.heap.size, 0, none⟩ = some (.int .i64 F.k) ∧ V.cell? ⟨w.heap.size, 2, none⟩ = some (.int .i64 F.t) ∧ V.cell? ⟨R, 11, none⟩ = some (.int .i64 s.i)) (by kernel_rfl) ?_
        have hS := hS0
        refine any_take 0 (Value.agg (frC F A)) rfl (by kernel_rfl) (by kernel_rfl) (by kernel_rfl) (fun _ _ _ h => h) (by rfl) (fun W hW => exec_load 40 (.tmp 4) rfl _ _ rfl hW.1) hS ?_
        (try simp only [Act.put, List.setIfInBounds_toArray, List.set_cons_zero, List.set_cons_succ])
        refine any_one 1 rfl (by kernel_rfl) (by rfl) (fun K hK => ?_)
        clear hS
        go_simp
        refine KC.mono ?_
        rintro ev V ⟨rfl, hb⟩
        have hbV : Below W.heap.size W V := (Below.refl W.heap.size W).drew.trans hb
        have HQ1 := HQ.out V hbV
        clear hb KC
        refine hK.out _ _ (HQ1) (fun hS => ?_)
        clear hK
        (try simp only [Act.put, List.setIfInBounds_toArray, List.set_cons_zero, List.set_cons_succ])
        refine any_take 2 ?vfan1 rfl (by kernel_rfl) (by kernel_rfl) (by kernel_rfl) (fun _ _ _ h => h) (by rfl) ?hfan1 hS ?_
        case hfan1 => (intro w hSw; (try dsimp only at hSw); go_split_ands; go_simp; (try with_reducible rfl))
        (try simp only [Act.put, List.setIfInBounds_toArray, List.set_cons_zero, List.set_cons_succ])
        refine any_take 3 ?vfan2 rfl (by kernel_rfl) (by kernel_rfl) (by kernel_rfl) (fun _ _ _ h => h) (by rfl) ?hfan2 hS ?_
        case hfan2 => (intro w hSw; (try dsimp only at hSw); go_split_ands; go_simp; (try with_reducible rfl))
        (try simp only [Act.put, List.setIfInBounds_toArray, List.set_cons_zero, List.set_cons_succ])
        refine any_take 4 ?vfan3 rfl (by kernel_rfl) (by kernel_rfl) (by kernel_rfl) (fun _ _ _ h => h) (by rfl) ?hfan3 hS ?_
        case hfan3 => (intro w hSw; (try dsimp only at hSw); go_split_ands; go_simp; (try with_reducible rfl))
        (try simp only [Act.put, List.setIfInBounds_toArray, List.set_cons_zero, List.set_cons_succ])
        refine any_take 5 ?vfan4 rfl (by kernel_rfl) (by kernel_rfl) (by kernel_rfl) (fun _ _ _ h => h) (by rfl) ?hfan4 hS ?_
        case hfan4 => (intro w hSw; (try dsimp only at hSw); go_split_ands; go_simp; (try with_reducible rfl))
        (try simp only [Act.put, List.setIfInBounds_toArray, List.set_cons_zero, List.set_cons_succ])
        refine any_take 6 ?vfan5 rfl (by kernel_rfl) (by kernel_rfl) (by kernel_rfl) (fun _ _ _ h => h) (by rfl) ?hfan5 hS ?_
        case hfan5 => (intro w hSw; (try dsimp only at hSw); go_split_ands; go_simp; (try with_reducible rfl))
        (try simp only [Act.put, List.setIfInBounds_toArray, List.set_cons_zero, List.set_cons_succ])
        refine any_take 7 (Value.bool true) rfl (by kernel_rfl) (by kernel_rfl) (by kernel_rfl) (fun _ _ _ h => h) (by rfl) (by intro w hSw; (try dsimp only at hSw); go_split_ands; go_simp) hS ?_
        (try simp only [Act.put, List.setIfInBounds_toArray, List.set_cons_zero, List.set_cons_succ])
        refine any_take 8 ?vfan6 rfl (by kernel_rfl) (by kernel_rfl) (by kernel_rfl) (fun _ _ _ h => h) (by rfl) ?hfan6 hS ?_
        case hfan6 => (intro w hSw; (try dsimp only at hSw); go_split_ands; go_simp; (try with_reducible rfl))
        (try simp only [Act.put, List.setIfInBounds_toArray, List.set_cons_zero, List.set_cons_succ])
        refine any_take 9 ?vfan7 rfl (by kernel_rfl) (by kernel_rfl) (by kernel_rfl) (fun _ _ _ h => h) (by rfl) ?hfan7 hS ?_
        case hfan7 => (intro w hSw; (try dsimp only at hSw); go_split_ands; go_simp; (try with_reducible rfl))
        (try simp only [Act.put, List.setIfInBounds_toArray, List.set_cons_zero, List.set_cons_succ])
        refine any_take 10 ?vfan8 rfl (by kernel_rfl) (by kernel_rfl) (by kernel_rfl) (fun _ _ _ h => h) (by rfl) ?hfan8 hS ?_
        case hfan8 => (intro w hSw; (try dsimp only at hSw); go_split_ands; go_simp; (try with_reducible rfl))
        (try simp only [Act.put, List.setIfInBounds_toArray, List.set_cons_zero, List.set_cons_succ])
        refine any_take 11 ?vfan9 rfl (by kernel_rfl) (by kernel_rfl) (by kernel_rfl) (fun _ _ _ h => h) (by rfl) ?hfan9 hS ?_
        case hfan9 => (intro w hSw; (try dsimp only at hSw); go_split_ands; go_simp; (try with_reducible rfl))
        (try simp only [Act.put, List.setIfInBounds_toArray, List.set_cons_zero, List.set_cons_succ])
        refine any_take 12 ?vfan10 rfl (by kernel_rfl) (by kernel_rfl) (by kernel_rfl) (fun _ _ _ h => h) (by rfl) ?hfan10 hS ?_
        case hfan10 => (intro w hSw; (try dsimp only at hSw); go_split_ands; go_simp; (try with_reducible rfl))
        (try simp only [Act.put, List.setIfInBounds_toArray, List.set_cons_zero, List.set_cons_succ])
        refine any_take 13 ?vfan11 rfl (by kernel_rfl) (by kernel_rfl) (by kernel_rfl) (fun _ _ _ h => h) (by rfl) ?hfan11 hS ?_
        case hfan11 => (intro w hSw; (try dsimp only at hSw); go_split_ands; go_simp; (try with_reducible rfl))
        (try simp only [Act.put, List.setIfInBounds_toArray, List.set_cons_zero, List.set_cons_succ])
        refine any_take 14 ?vfan12 rfl (by kernel_rfl) (by kernel_rfl) (by kernel_rfl) (fun _ _ _ h => h) (by rfl) ?hfan12 hS ?_
        case hfan12 => (intro w hSw; (try dsimp only at hSw); go_split_ands; go_simp; (try with_reducible rfl))
        (try simp only [Act.put, List.setIfInBounds_toArray, List.set_cons_zero, List.set_cons_succ])
        refine any_take 15 ?vfan13 rfl (by kernel_rfl) (by kernel_rfl) (by kernel_rfl) (fun _ _ _ h => h) (by rfl) ?hfan13 hS ?_
        case hfan13 => (intro w hSw; (try dsimp only at hSw); go_split_ands; go_simp; (try with_reducible rfl))
        (try simp only [Act.put, List.setIfInBounds_toArray, List.set_cons_zero, List.set_cons_succ])
        refine any_take 16 (Value.bool true) rfl (by kernel_rfl) (by kernel_rfl) (by kernel_rfl) (fun _ _ _ h => h) (by rfl) (by intro w hSw; (try dsimp only at hSw); go_split_ands; go_simp) hS ?_
        (try simp only [Act.put, List.setIfInBounds_toArray, List.set_cons_zero, List.set_cons_succ])
        refine any_take 17 ?vfan14 rfl (by kernel_rfl) (by kernel_rfl) (by kernel_rfl) (fun _ _ _ h => h) (by rfl) ?hfan14 hS ?_
        case hfan14 => (intro w hSw; (try dsimp only at hSw); go_split_ands; go_simp; (try with_reducible rfl))
        (try simp only [Act.put, List.setIfInBounds_toArray, List.set_cons_zero, List.set_cons_succ])
        refine any_take 18 ?vfan15 rfl (by kernel_rfl) (by kernel_rfl) (by kernel_rfl) (fun _ _ _ h => h) (by rfl) ?hfan15 hS ?_
        case hfan15 => (intro w hSw; (try dsimp only at hSw); go_split_ands; go_simp; (try with_reducible rfl))
        (try simp only [Act.put, List.setIfInBounds_toArray, List.set_cons_zero, List.set_cons_succ])
        refine wpAnyH_done (by kernel_rfl) ?_ _
        refine NoPanic.normal ?_
        clear hS hS0 HQ1
        have HE : Hid (Below w.heap.size w V) := H0.out.2.2.1.trans (hbV.mono H0.out.2.2.1.size)
        clear hbV
        go_wp2
        go_ret
        rw [hB.out]
        exact ⟨by simp, HE.out⟩
      · have hB : Hid (B = false) := HBB.out.trans (by simp [Ec.forB, ht])
        have htb : (F.t == s.i) = false := by simp [ht]
        clear hk ht hr
        refine wp_region_noPanic ?_
        refine wp_region_held (S := fun V => (Instr.loadAt 40 (.pointer (some ⟨w.heap.size, 0, none⟩))).run Tryz.prog V = .ok (.agg (frC F A)) V ∧ V.cell? ⟨w.heap.size, 0, none⟩ = some (.int .i64 F.k) ∧ V.cell? ⟨w.heap.size, 2, none⟩ = some (.int .i64 F.t) ∧ V.cell? ⟨R, 11, none⟩ = some (.int .i64 s.i)) (by kernel_rfl) ?_
        have hS := hS0
        refine any_take 0 (Value.agg (frC F A)) rfl (by kernel_rfl) (by kernel_rfl) (by kernel_rfl) (fun _ _ _ h => h) (by rfl) (fun W hW => exec_load 40 (.tmp 4) rfl _ _ rfl hW.1) hS ?_
        (try simp only [Act.put, List.setIfInBounds_toArray, List.set_cons_zero, List.set_cons_succ])
        refine any_one 1 rfl (by kernel_rfl) (by rfl) (fun K hK => ?_)
        clear hS
        go_simp
        refine KC.mono ?_
        rintro ev V ⟨rfl, hb⟩
        have hbV : Below W.heap.size W V := (Below.refl W.heap.size W).drew.trans hb
        have HQ1 := HQ.out V hbV
        clear hb KC
        refine hK.out _ _ (HQ1) (fun hS => ?_)
        clear hK
        (try simp only [Act.put, List.setIfInBounds_toArray, List.set_cons_zero, List.set_cons_succ])
        refine any_take 2 ?vfbn1 rfl (by kernel_rfl) (by kernel_rfl) (by kernel_rfl) (fun _ _ _ h => h) (by rfl) ?hfbn1 hS ?_
        case hfbn1 => (intro w hSw; (try dsimp only at hSw); go_split_ands; go_simp; (try with_reducible rfl))
        (try simp only [Act.put, List.setIfInBounds_toArray, List.set_cons_zero, List.set_cons_succ])
        refine any_take 3 ?vfbn2 rfl (by kernel_rfl) (by kernel_rfl) (by kernel_rfl) (fun _ _ _ h => h) (by rfl) ?hfbn2 hS ?_
        case hfbn2 => (intro w hSw; (try dsimp only at hSw); go_split_ands; go_simp; (try with_reducible rfl))
        (try simp only [Act.put, List.setIfInBounds_toArray, List.set_cons_zero, List.set_cons_succ])
        refine any_take 4 ?vfbn3 rfl (by kernel_rfl) (by kernel_rfl) (by kernel_rfl) (fun _ _ _ h => h) (by rfl) ?hfbn3 hS ?_
        case hfbn3 => (intro w hSw; (try dsimp only at hSw); go_split_ands; go_simp; (try with_reducible rfl))
        (try simp only [Act.put, List.setIfInBounds_toArray, List.set_cons_zero, List.set_cons_succ])
        refine any_take 5 ?vfbn4 rfl (by kernel_rfl) (by kernel_rfl) (by kernel_rfl) (fun _ _ _ h => h) (by rfl) ?hfbn4 hS ?_
        case hfbn4 => (intro w hSw; (try dsimp only at hSw); go_split_ands; go_simp; (try with_reducible rfl))
        (try simp only [Act.put, List.setIfInBounds_toArray, List.set_cons_zero, List.set_cons_succ])
        refine any_take 6 ?vfbn5 rfl (by kernel_rfl) (by kernel_rfl) (by kernel_rfl) (fun _ _ _ h => h) (by rfl) ?hfbn5 hS ?_
        case hfbn5 => (intro w hSw; (try dsimp only at hSw); go_split_ands; go_simp; (try with_reducible rfl))
        (try simp only [Act.put, List.setIfInBounds_toArray, List.set_cons_zero, List.set_cons_succ])
        refine any_take 7 (Value.bool true) rfl (by kernel_rfl) (by kernel_rfl) (by kernel_rfl) (fun _ _ _ h => h) (by rfl) (by intro w hSw; (try dsimp only at hSw); go_split_ands; go_simp) hS ?_
        (try simp only [Act.put, List.setIfInBounds_toArray, List.set_cons_zero, List.set_cons_succ])
        refine any_take 8 ?vfbn6 rfl (by kernel_rfl) (by kernel_rfl) (by kernel_rfl) (fun _ _ _ h => h) (by rfl) ?hfbn6 hS ?_
        case hfbn6 => (intro w hSw; (try dsimp only at hSw); go_split_ands; go_simp; (try with_reducible rfl))
        (try simp only [Act.put, List.setIfInBounds_toArray, List.set_cons_zero, List.set_cons_succ])
        refine any_take 9 ?vfbn7 rfl (by kernel_rfl) (by kernel_rfl) (by kernel_rfl) (fun _ _ _ h => h) (by rfl) ?hfbn7 hS ?_
        case hfbn7 => (intro w hSw; (try dsimp only at hSw); go_split_ands; go_simp; (try with_reducible rfl))
        (try simp only [Act.put, List.setIfInBounds_toArray, List.set_cons_zero, List.set_cons_succ])
        refine any_take 10 ?vfbn8 rfl (by kernel_rfl) (by kernel_rfl) (by kernel_rfl) (fun _ _ _ h => h) (by rfl) ?hfbn8 hS ?_
        case hfbn8 => (intro w hSw; (try dsimp only at hSw); go_split_ands; go_simp; (try with_reducible rfl))
        (try simp only [Act.put, List.setIfInBounds_toArray, List.set_cons_zero, List.set_cons_succ])
        refine any_take 11 ?vfbn9 rfl (by kernel_rfl) (by kernel_rfl) (by kernel_rfl) (fun _ _ _ h => h) (by rfl) ?hfbn9 hS ?_
        case hfbn9 => (intro w hSw; (try dsimp only at hSw); go_split_ands; go_simp; (try with_reducible rfl))
        (try simp only [Act.put, List.setIfInBounds_toArray, List.set_cons_zero, List.set_cons_succ])
        refine any_take 12 ?vfbn10 rfl (by kernel_rfl) (by kernel_rfl) (by kernel_rfl) (fun _ _ _ h => h) (by rfl) ?hfbn10 hS ?_
        case hfbn10 => (intro w hSw; (try dsimp only at hSw); go_split_ands; go_simp; (try with_reducible rfl))
        (try simp only [Act.put, List.setIfInBounds_toArray, List.set_cons_zero, List.set_cons_succ])
        refine any_take 13 ?vfbn11 rfl (by kernel_rfl) (by kernel_rfl) (by kernel_rfl) (fun _ _ _ h => h) (by rfl) ?hfbn11 hS ?_
        case hfbn11 => (intro w hSw; (try dsimp only at hSw); go_split_ands; go_simp; (try with_reducible rfl))
        (try simp only [Act.put, List.setIfInBounds_toArray, List.set_cons_zero, List.set_cons_succ])
        refine any_take 14 ?vfbn12 rfl (by kernel_rfl) (by kernel_rfl) (by kernel_rfl) (fun _ _ _ h => h) (by rfl) ?hfbn12 hS ?_
        case hfbn12 => (intro w hSw; (try dsimp only at hSw); go_split_ands; go_simp; (try with_reducible rfl))
        (try simp only [Act.put, List.setIfInBounds_toArray, List.set_cons_zero, List.set_cons_succ])
        refine any_take 15 ?vfbn13 rfl (by kernel_rfl) (by kernel_rfl) (by kernel_rfl) (fun _ _ _ h => h) (by rfl) ?hfbn13 hS ?_
        case hfbn13 => (intro w hSw; (try dsimp only at hSw); go_split_ands; go_simp; (try with_reducible rfl))
        (try simp only [Act.put, List.setIfInBounds_toArray, List.set_cons_zero, List.set_cons_succ])
        refine any_take 16 (Value.bool false) rfl (by kernel_rfl) (by kernel_rfl) (by kernel_rfl) (fun _ _ _ h => h) (by rfl) (by intro w hSw; (try dsimp only at hSw); go_split_ands; go_simp) hS ?_
        (try simp only [Act.put, List.setIfInBounds_toArray, List.set_cons_zero, List.set_cons_succ])
        refine any_take 17 ?vfbn14 rfl (by kernel_rfl) (by kernel_rfl) (by kernel_rfl) (fun _ _ _ h => h) (by rfl) ?hfbn14 hS ?_
        case hfbn14 => (intro w hSw; (try dsimp only at hSw); go_split_ands; go_simp; (try with_reducible rfl))
        (try simp only [Act.put, List.setIfInBounds_toArray, List.set_cons_zero, List.set_cons_succ])
        refine any_take 18 ?vfbn15 rfl (by kernel_rfl) (by kernel_rfl) (by kernel_rfl) (fun _ _ _ h => h) (by rfl) ?hfbn15 hS ?_
        case hfbn15 => (intro w hSw; (try dsimp only at hSw); go_split_ands; go_simp; (try with_reducible rfl))
        (try simp only [Act.put, List.setIfInBounds_toArray, List.set_cons_zero, List.set_cons_succ])
        refine wpAnyH_done (by kernel_rfl) ?_ _
        refine NoPanic.normal ?_
        clear hS hS0 HQ1
        have HE : Hid (Below w.heap.size w V) := H0.out.2.2.1.trans (hbV.mono H0.out.2.2.1.size)
        clear hbV
        go_wp2
        go_ret
        rw [hB.out]
        exact ⟨by simp, HE.out⟩
    · have hB : Hid (B = false) := HBB.out.trans (by simp [Ec.forB, hk])
      have hkb : (F.k == k) = false := by simp [hk]
      clear hk hr
      refine wp_region_noPanic ?_
      refine wp_region_held (S := fun V => (Instr.loadAt 40 (.pointer (some ⟨w.heap.size, 0, none⟩))).run Tryz.prog V = .ok (.agg (frC F A)) V ∧ V.cell? ⟨w.heap.size, 0, none⟩ = some (.int .i64 F.k) ∧ V.cell? ⟨w.heap.size, 2, none⟩ = some (.int .i64 F.t) ∧ V.cell? ⟨R, 11, none⟩ = some (.int .i64 s.i)) (by kernel_rfl) ?_
      have hS := hS0
      refine any_take 0 (Value.agg (frC F A)) rfl (by kernel_rfl) (by kernel_rfl) (by kernel_rfl) (fun _ _ _ h => h) (by rfl) (fun W hW => exec_load 40 (.tmp 4) rfl _ _ rfl hW.1) hS ?_
      (try simp only [Act.put, List.setIfInBounds_toArray, List.set_cons_zero, List.set_cons_succ])
      refine any_one 1 rfl (by kernel_rfl) (by rfl) (fun K hK => ?_)
      clear hS
      go_simp
      refine KC.mono ?_
      rintro ev V ⟨rfl, hb⟩
      have hbV : Below W.heap.size W V := (Below.refl W.heap.size W).drew.trans hb
      have HQ1 := HQ.out V hbV
      clear hb KC
      refine hK.out _ _ (HQ1) (fun hS => ?_)
      clear hK
      (try simp only [Act.put, List.setIfInBounds_toArray, List.set_cons_zero, List.set_cons_succ])
      refine any_take 2 ?vfcn1 rfl (by kernel_rfl) (by kernel_rfl) (by kernel_rfl) (fun _ _ _ h => h) (by rfl) ?hfcn1 hS ?_
      case hfcn1 => (intro w hSw; (try dsimp only at hSw); go_split_ands; go_simp; (try with_reducible rfl))
      (try simp only [Act.put, List.setIfInBounds_toArray, List.set_cons_zero, List.set_cons_succ])
      refine any_take 3 ?vfcn2 rfl (by kernel_rfl) (by kernel_rfl) (by kernel_rfl) (fun _ _ _ h => h) (by rfl) ?hfcn2 hS ?_
      case hfcn2 => (intro w hSw; (try dsimp only at hSw); go_split_ands; go_simp; (try with_reducible rfl))
      (try simp only [Act.put, List.setIfInBounds_toArray, List.set_cons_zero, List.set_cons_succ])
      refine any_take 4 ?vfcn3 rfl (by kernel_rfl) (by kernel_rfl) (by kernel_rfl) (fun _ _ _ h => h) (by rfl) ?hfcn3 hS ?_
      case hfcn3 => (intro w hSw; (try dsimp only at hSw); go_split_ands; go_simp; (try with_reducible rfl))
      (try simp only [Act.put, List.setIfInBounds_toArray, List.set_cons_zero, List.set_cons_succ])
      refine any_take 5 ?vfcn4 rfl (by kernel_rfl) (by kernel_rfl) (by kernel_rfl) (fun _ _ _ h => h) (by rfl) ?hfcn4 hS ?_
      case hfcn4 => (intro w hSw; (try dsimp only at hSw); go_split_ands; go_simp; (try with_reducible rfl))
      (try simp only [Act.put, List.setIfInBounds_toArray, List.set_cons_zero, List.set_cons_succ])
      refine any_take 6 ?vfcn5 rfl (by kernel_rfl) (by kernel_rfl) (by kernel_rfl) (fun _ _ _ h => h) (by rfl) ?hfcn5 hS ?_
      case hfcn5 => (intro w hSw; (try dsimp only at hSw); go_split_ands; go_simp; (try with_reducible rfl))
      (try simp only [Act.put, List.setIfInBounds_toArray, List.set_cons_zero, List.set_cons_succ])
      refine any_take 7 (Value.bool false) rfl (by kernel_rfl) (by kernel_rfl) (by kernel_rfl) (fun _ _ _ h => h) (by rfl) (by intro w hSw; (try dsimp only at hSw); go_split_ands; go_simp) hS ?_
      (try simp only [Act.put, List.setIfInBounds_toArray, List.set_cons_zero, List.set_cons_succ])
      refine any_take 8 ?vfcn6 rfl (by kernel_rfl) (by kernel_rfl) (by kernel_rfl) (fun _ _ _ h => h) (by rfl) ?hfcn6 hS ?_
      case hfcn6 => (intro w hSw; (try dsimp only at hSw); go_split_ands; go_simp; (try with_reducible rfl))
      (try simp only [Act.put, List.setIfInBounds_toArray, List.set_cons_zero, List.set_cons_succ])
      refine any_take 9 ?vfcn7 rfl (by kernel_rfl) (by kernel_rfl) (by kernel_rfl) (fun _ _ _ h => h) (by rfl) ?hfcn7 hS ?_
      case hfcn7 => (intro w hSw; (try dsimp only at hSw); go_split_ands; go_simp; (try with_reducible rfl))
      (try simp only [Act.put, List.setIfInBounds_toArray, List.set_cons_zero, List.set_cons_succ])
      refine any_skip 10 rfl (by kernel_rfl) (by kernel_rfl) (by kernel_rfl) (fun _ _ _ h => h) (by rfl) hS ?_
      (try simp only [Act.put, List.setIfInBounds_toArray, List.set_cons_zero, List.set_cons_succ])
      refine any_skip 11 rfl (by kernel_rfl) (by kernel_rfl) (by kernel_rfl) (fun _ _ _ h => h) (by rfl) hS ?_
      (try simp only [Act.put, List.setIfInBounds_toArray, List.set_cons_zero, List.set_cons_succ])
      refine any_skip 12 rfl (by kernel_rfl) (by kernel_rfl) (by kernel_rfl) (fun _ _ _ h => h) (by rfl) hS ?_
      (try simp only [Act.put, List.setIfInBounds_toArray, List.set_cons_zero, List.set_cons_succ])
      refine any_skip 13 rfl (by kernel_rfl) (by kernel_rfl) (by kernel_rfl) (fun _ _ _ h => h) (by rfl) hS ?_
      (try simp only [Act.put, List.setIfInBounds_toArray, List.set_cons_zero, List.set_cons_succ])
      refine any_skip 14 rfl (by kernel_rfl) (by kernel_rfl) (by kernel_rfl) (fun _ _ _ h => h) (by rfl) hS ?_
      (try simp only [Act.put, List.setIfInBounds_toArray, List.set_cons_zero, List.set_cons_succ])
      refine any_skip 15 rfl (by kernel_rfl) (by kernel_rfl) (by kernel_rfl) (fun _ _ _ h => h) (by rfl) hS ?_
      (try simp only [Act.put, List.setIfInBounds_toArray, List.set_cons_zero, List.set_cons_succ])
      refine any_skip 16 rfl (by kernel_rfl) (by kernel_rfl) (by kernel_rfl) (fun _ _ _ h => h) (by rfl) hS ?_
      (try simp only [Act.put, List.setIfInBounds_toArray, List.set_cons_zero, List.set_cons_succ])
      refine any_take 17 ?vfcn8 rfl (by kernel_rfl) (by kernel_rfl) (by kernel_rfl) (fun _ _ _ h => h) (by rfl) ?hfcn8 hS ?_
      case hfcn8 => (intro w hSw; (try dsimp only at hSw); go_split_ands; go_simp; (try with_reducible rfl))
      (try simp only [Act.put, List.setIfInBounds_toArray, List.set_cons_zero, List.set_cons_succ])
      refine any_take 18 ?vfcn9 rfl (by kernel_rfl) (by kernel_rfl) (by kernel_rfl) (fun _ _ _ h => h) (by rfl) ?hfcn9 hS ?_
      case hfcn9 => (intro w hSw; (try dsimp only at hSw); go_split_ands; go_simp; (try with_reducible rfl))
      (try simp only [Act.put, List.setIfInBounds_toArray, List.set_cons_zero, List.set_cons_succ])
      refine wpAnyH_done (by kernel_rfl) ?_ _
      refine NoPanic.normal ?_
      clear hS hS0 HQ1
      have HE : Hid (Below w.heap.size w V) := H0.out.2.2.1.trans (hbV.mono H0.out.2.2.1.size)
      clear hbV
      go_wp2
      go_ret
      rw [hB.out]
      exact ⟨by simp, HE.out⟩
  · have hB : Hid (B = false) := HBB.out.trans (by simp [Ec.forB, hr])
    rw [if_neg hr] at KC
    clear hr
    refine wp_region_noPanic ?_
    refine wp_region_held (S := fun V => (Instr.loadAt 40 (.pointer (some ⟨w.heap.size, 0, none⟩))).run Tryz.prog V = .ok (.agg (frC F A)) V ∧ V.cell? ⟨w.heap.size, 0, none⟩ = some (.int .i64 F.k) ∧ V.cell? ⟨w.heap.size, 2, none⟩ = some (.int .i64 F.t) ∧ V.cell? ⟨R, 11, none⟩ = some (.int .i64 s.i)) (by kernel_rfl) ?_
    have hS := hS0
    refine any_take 0 (Value.agg (frC F A)) rfl (by kernel_rfl) (by kernel_rfl) (by kernel_rfl) (fun _ _ _ h => h) (by rfl) (fun W hW => exec_load 40 (.tmp 4) rfl _ _ rfl hW.1) hS ?_
    (try simp only [Act.put, List.setIfInBounds_toArray, List.set_cons_zero, List.set_cons_succ])
    refine any_one 1 rfl (by kernel_rfl) (by rfl) (fun K hK => ?_)
    clear hS
    go_simp
    refine KC.mono ?_
    rintro ev V ⟨rfl, hb⟩
    have hbV : Below W.heap.size W V := (Below.refl W.heap.size W).drew.trans hb
    have HQ1 := HQ.out V hbV
    clear hb KC
    refine hK.out _ _ (HQ1) (fun hS => ?_)
    clear hK
    (try simp only [Act.put, List.setIfInBounds_toArray, List.set_cons_zero, List.set_cons_succ])
    refine any_take 2 ?vfdn1 rfl (by kernel_rfl) (by kernel_rfl) (by kernel_rfl) (fun _ _ _ h => h) (by rfl) ?hfdn1 hS ?_
    case hfdn1 => (intro w hSw; (try dsimp only at hSw); go_split_ands; go_simp; (try with_reducible rfl))
    (try simp only [Act.put, List.setIfInBounds_toArray, List.set_cons_zero, List.set_cons_succ])
    refine any_take 3 ?vfdn2 rfl (by kernel_rfl) (by kernel_rfl) (by kernel_rfl) (fun _ _ _ h => h) (by rfl) ?hfdn2 hS ?_
    case hfdn2 => (intro w hSw; (try dsimp only at hSw); go_split_ands; go_simp; (try with_reducible rfl))
    (try simp only [Act.put, List.setIfInBounds_toArray, List.set_cons_zero, List.set_cons_succ])
    refine any_skip 4 rfl (by kernel_rfl) (by kernel_rfl) (by kernel_rfl) (fun _ _ _ h => h) (by rfl) hS ?_
    (try simp only [Act.put, List.setIfInBounds_toArray, List.set_cons_zero, List.set_cons_succ])
    refine any_skip 5 rfl (by kernel_rfl) (by kernel_rfl) (by kernel_rfl) (fun _ _ _ h => h) (by rfl) hS ?_
    (try simp only [Act.put, List.setIfInBounds_toArray, List.set_cons_zero, List.set_cons_succ])
    refine any_skip 6 rfl (by kernel_rfl) (by kernel_rfl) (by kernel_rfl) (fun _ _ _ h => h) (by rfl) hS ?_
    (try simp only [Act.put, List.setIfInBounds_toArray, List.set_cons_zero, List.set_cons_succ])
    refine any_skip 7 rfl (by kernel_rfl) (by kernel_rfl) (by kernel_rfl) (fun _ _ _ h => h) (by rfl) hS ?_
    (try simp only [Act.put, List.setIfInBounds_toArray, List.set_cons_zero, List.set_cons_succ])
    refine any_take 8 ?vfdn3 rfl (by kernel_rfl) (by kernel_rfl) (by kernel_rfl) (fun _ _ _ h => h) (by rfl) ?hfdn3 hS ?_
    case hfdn3 => (intro w hSw; (try dsimp only at hSw); go_split_ands; go_simp; (try with_reducible rfl))
    (try simp only [Act.put, List.setIfInBounds_toArray, List.set_cons_zero, List.set_cons_succ])
    refine any_take 9 ?vfdn4 rfl (by kernel_rfl) (by kernel_rfl) (by kernel_rfl) (fun _ _ _ h => h) (by rfl) ?hfdn4 hS ?_
    case hfdn4 => (intro w hSw; (try dsimp only at hSw); go_split_ands; go_simp; (try with_reducible rfl))
    (try simp only [Act.put, List.setIfInBounds_toArray, List.set_cons_zero, List.set_cons_succ])
    refine any_skip 10 rfl (by kernel_rfl) (by kernel_rfl) (by kernel_rfl) (fun _ _ _ h => h) (by rfl) hS ?_
    (try simp only [Act.put, List.setIfInBounds_toArray, List.set_cons_zero, List.set_cons_succ])
    refine any_skip 11 rfl (by kernel_rfl) (by kernel_rfl) (by kernel_rfl) (fun _ _ _ h => h) (by rfl) hS ?_
    (try simp only [Act.put, List.setIfInBounds_toArray, List.set_cons_zero, List.set_cons_succ])
    refine any_skip 12 rfl (by kernel_rfl) (by kernel_rfl) (by kernel_rfl) (fun _ _ _ h => h) (by rfl) hS ?_
    (try simp only [Act.put, List.setIfInBounds_toArray, List.set_cons_zero, List.set_cons_succ])
    refine any_skip 13 rfl (by kernel_rfl) (by kernel_rfl) (by kernel_rfl) (fun _ _ _ h => h) (by rfl) hS ?_
    (try simp only [Act.put, List.setIfInBounds_toArray, List.set_cons_zero, List.set_cons_succ])
    refine any_skip 14 rfl (by kernel_rfl) (by kernel_rfl) (by kernel_rfl) (fun _ _ _ h => h) (by rfl) hS ?_
    (try simp only [Act.put, List.setIfInBounds_toArray, List.set_cons_zero, List.set_cons_succ])
    refine any_skip 15 rfl (by kernel_rfl) (by kernel_rfl) (by kernel_rfl) (fun _ _ _ h => h) (by rfl) hS ?_
    (try simp only [Act.put, List.setIfInBounds_toArray, List.set_cons_zero, List.set_cons_succ])
    refine any_skip 16 rfl (by kernel_rfl) (by kernel_rfl) (by kernel_rfl) (fun _ _ _ h => h) (by rfl) hS ?_
    (try simp only [Act.put, List.setIfInBounds_toArray, List.set_cons_zero, List.set_cons_succ])
    refine any_take 17 ?vfdn5 rfl (by kernel_rfl) (by kernel_rfl) (by kernel_rfl) (fun _ _ _ h => h) (by rfl) ?hfdn5 hS ?_
    case hfdn5 => (intro w hSw; (try dsimp only at hSw); go_split_ands; go_simp; (try with_reducible rfl))
    (try simp only [Act.put, List.setIfInBounds_toArray, List.set_cons_zero, List.set_cons_succ])
    refine any_take 18 ?vfdn6 rfl (by kernel_rfl) (by kernel_rfl) (by kernel_rfl) (fun _ _ _ h => h) (by rfl) ?hfdn6 hS ?_
    case hfdn6 => (intro w hSw; (try dsimp only at hSw); go_split_ands; go_simp; (try with_reducible rfl))
    (try simp only [Act.put, List.setIfInBounds_toArray, List.set_cons_zero, List.set_cons_succ])
    refine wpAnyH_done (by kernel_rfl) ?_ _
    refine NoPanic.normal ?_
    clear hS hS0 HQ1
    have HE : Hid (Below w.heap.size w V) := H0.out.2.2.1.trans (hbV.mono H0.out.2.2.1.size)
    clear hbV
    go_wp2
    go_ret
    rw [hB.out]
    exact ⟨by simp, HE.out⟩
set_option maxHeartbeats 1600000 in
theorem pepair_ok (w : World) (R : Nat) (s : Ec) (ma : Option Addr) (mc : Nat) (h : PEAll w R s ma mc) (hT : Tabs w) (jj : Int) :
    Calls Tryz.prog 40 #[.pointer (some ⟨R, 0, none⟩), .int .i64 jj] w fun e w' => ∃ d cd, e = .returned (.slice d (pairK s.ms s.i jj).length cd) ∧ Sees w' d cd (pairK s.ms s.i jj) ∧ Below w.heap.size w w' := by
  obtain ⟨KK, hKK⟩ : ∃ KK, KK = pairK s.ms s.i jj := ⟨_, rfl⟩
  rw [← hKK]
  obtain ⟨ml, hml⟩ : ∃ ml, ml = s.ms.length := ⟨_, rfl⟩
  have H0 : Hid (PEAll w R s ma mc ∧ ml = s.ms.length) := ⟨h, hml⟩
  have HQ : Hid (∀ V, Below w.heap.size w V → (V.cell? ⟨R, 10, none⟩ = some (.slice ma ml mc) ∧ V.cell? ⟨R, 11, none⟩ = some (.int .i64 s.i))) := fun V hV => by
    rw [H0.out.2]
    exact ⟨(H0.out.1.at'.below hV).cell 10 rfl, (H0.out.1.at'.below hV).cell 11 rfl⟩
  have hS0 := HQ.out w.drew (Below.refl _ _).drew
  have KP : Calls Tryz.prog 67 #[.slice ma ml mc, .int .i64 s.i, .int .i64 jj] w.drew fun e w' => ∃ d cd kn, e = .returned (.tuple #[.slice d KK.length cd, .int .i64 kn]) ∧ Sees w' d cd KK ∧ Below w.heap.size w w' := by
    have hd : Below w.heap.size w w.drew := (Below.refl _ _).drew
    have hT2 := hT.below hd
    rw [hml]
    refine (pair_ok w.drew ma mc s.ms s.i jj hT2.1 hT2.2 (h.ms.below hd)).mono ?_
    rintro e w' ⟨d, cd, r, hr, rfl, hs, hb⟩
    have hr' : r = KK := hr.out.trans hKK.symm
    subst hr'
    exact ⟨d, cd, _, rfl, hs, hd.trans hb⟩
  clear h hT hKK hml
  go_enter Tryz.func40, Tryz.ntmps40
  go_upto_region 1 with fail
  refine wp_region_noPanic ?_
  refine wp_region_held (S := fun V => V.cell? ⟨R, 10, none⟩ = some (.slice ma ml mc) ∧ V.cell? ⟨R, 11, none⟩ = some (.int .i64 s.i)) (by kernel_rfl) ?_
  have hS := hS0
  refine any_take 0 ?vppn1 rfl (by kernel_rfl) (by kernel_rfl) (by kernel_rfl) (fun _ _ _ h => h) (by rfl) ?hppn1 hS ?_
  case hppn1 => (intro w hSw; (try dsimp only at hSw); go_split_ands; go_simp; (try with_reducible rfl))
  (try simp only [Act.put, List.setIfInBounds_toArray, List.set_cons_zero, List.set_cons_succ])
  refine any_take 1 ?vppn2 rfl (by kernel_rfl) (by kernel_rfl) (by kernel_rfl) (fun _ _ _ h => h) (by rfl) ?hppn2 hS ?_
  case hppn2 => (intro w hSw; (try dsimp only at hSw); go_split_ands; go_simp; (try with_reducible rfl))
  (try simp only [Act.put, List.setIfInBounds_toArray, List.set_cons_zero, List.set_cons_succ])
  refine any_take 2 ?vppn3 rfl (by kernel_rfl) (by kernel_rfl) (by kernel_rfl) (fun _ _ _ h => h) (by rfl) ?hppn3 hS ?_
  case hppn3 => (intro w hSw; (try dsimp only at hSw); go_split_ands; go_simp; (try with_reducible rfl))
  (try simp only [Act.put, List.setIfInBounds_toArray, List.set_cons_zero, List.set_cons_succ])
  refine any_take 3 ?vppn4 rfl (by kernel_rfl) (by kernel_rfl) (by kernel_rfl) (fun _ _ _ h => h) (by rfl) ?hppn4 hS ?_
  case hppn4 => (intro w hSw; (try dsimp only at hSw); go_split_ands; go_simp; (try with_reducible rfl))
  (try simp only [Act.put, List.setIfInBounds_toArray, List.set_cons_zero, List.set_cons_succ])
  refine any_take 4 ?vppn5 rfl (by kernel_rfl) (by kernel_rfl) (by kernel_rfl) (fun _ _ _ h => h) (by rfl) ?hppn5 hS ?_
  case hppn5 => (intro w hSw; (try dsimp only at hSw); go_split_ands; go_simp; (try with_reducible rfl))
  (try simp only [Act.put, List.setIfInBounds_toArray, List.set_cons_zero, List.set_cons_succ])
  refine any_take 5 ?vppn6 rfl (by kernel_rfl) (by kernel_rfl) (by kernel_rfl) (fun _ _ _ h => h) (by rfl) ?hppn6 hS ?_
  case hppn6 => (intro w hSw; (try dsimp only at hSw); go_split_ands; go_simp; (try with_reducible rfl))
  (try simp only [Act.put, List.setIfInBounds_toArray, List.set_cons_zero, List.set_cons_succ])
  refine any_take 6 ?vppn7 rfl (by kernel_rfl) (by kernel_rfl) (by kernel_rfl) (fun _ _ _ h => h) (by rfl) ?hppn7 hS ?_
  case hppn7 => (intro w hSw; (try dsimp only at hSw); go_split_ands; go_simp; (try with_reducible rfl))
  (try simp only [Act.put, List.setIfInBounds_toArray, List.set_cons_zero, List.set_cons_succ])
  refine any_take 7 ?vppn8 rfl (by kernel_rfl) (by kernel_rfl) (by kernel_rfl) (fun _ _ _ h => h) (by rfl) ?hppn8 hS ?_
  case hppn8 => (intro w hSw; (try dsimp only at hSw); go_split_ands; go_simp; (try with_reducible rfl))
  (try simp only [Act.put, List.setIfInBounds_toArray, List.set_cons_zero, List.set_cons_succ])
  refine any_take 8 ?vppn9 rfl (by kernel_rfl) (by kernel_rfl) (by kernel_rfl) (fun _ _ _ h => h) (by rfl) ?hppn9 hS ?_
  case hppn9 => (intro w hSw; (try dsimp only at hSw); go_split_ands; go_simp; (try with_reducible rfl))
  (try simp only [Act.put, List.setIfInBounds_toArray, List.set_cons_zero, List.set_cons_succ])
  refine any_one 9 rfl (by kernel_rfl) (by rfl) (fun K hK => ?_)
  clear hS
  go_simp
  refine KP.mono ?_
  rintro ev V ⟨d3, c3, k3, rfl, hs3, hb3⟩
  have HQ1 := HQ.out V hb3
  have H3 : Hid (Sees V d3 c3 KK ∧ Below w.heap.size w V) := ⟨hs3, hb3⟩
  clear hs3 hb3 KP
  refine hK.out _ _ (HQ1) (fun hS => ?_)
  clear hK
  (try simp only [Act.put, List.setIfInBounds_toArray, List.set_cons_zero, List.set_cons_succ])
  refine any_take 10 ?vppn10 rfl (by kernel_rfl) (by kernel_rfl) (by kernel_rfl) (fun _ _ _ h => h) (by rfl) ?hppn10 hS ?_
  case hppn10 => (intro w hSw; (try dsimp only at hSw); go_split_ands; go_simp; (try with_reducible rfl))
  (try simp only [Act.put, List.setIfInBounds_toArray, List.set_cons_zero, List.set_cons_succ])
  refine any_take 11 ?vppn11 rfl (by kernel_rfl) (by kernel_rfl) (by kernel_rfl) (fun _ _ _ h => h) (by rfl) ?hppn11 hS ?_
  case hppn11 => (intro w hSw; (try dsimp only at hSw); go_split_ands; go_simp; (try with_reducible rfl))
  (try simp only [Act.put, List.setIfInBounds_toArray, List.set_cons_zero, List.set_cons_succ])
  refine any_take 12 ?vppn12 rfl (by kernel_rfl) (by kernel_rfl) (by kernel_rfl) (fun _ _ _ h => h) (by rfl) ?hppn12 hS ?_
  case hppn12 => (intro w hSw; (try dsimp only at hSw); go_split_ands; go_simp; (try with_reducible rfl))
  (try simp only [Act.put, List.setIfInBounds_toArray, List.set_cons_zero, List.set_cons_succ])
  refine any_take 13 ?vppn13 rfl (by kernel_rfl) (by kernel_rfl) (by kernel_rfl) (fun _ _ _ h => h) (by rfl) ?hppn13 hS ?_
  case hppn13 => (intro w hSw; (try dsimp only at hSw); go_split_ands; go_simp; (try with_reducible rfl))
  (try simp only [Act.put, List.setIfInBounds_toArray, List.set_cons_zero, List.set_cons_succ])
  refine any_take 14 ?vppn14 rfl (by kernel_rfl) (by kernel_rfl) (by kernel_rfl) (fun _ _ _ h => h) (by rfl) ?hppn14 hS ?_
  case hppn14 => (intro w hSw; (try dsimp only at hSw); go_split_ands; go_simp; (try with_reducible rfl))
  (try simp only [Act.put, List.setIfInBounds_toArray, List.set_cons_zero, List.set_cons_succ])
  refine wpAnyH_done (by kernel_rfl) ?_ _
  refine NoPanic.normal ?_
  clear hS hS0 HQ1
  go_wp2
  go_ret
  exact ⟨d3, c3, by simp, H3.out⟩
theorem pestore_int (w : World) (a : Addr) (old : Value) (x : Int) (hc : w.cell? a = some old) (hf : w.frozen? a = false) : (Instr.storeAt 3 (.pointer (some a)) (.int .i64 x)).run Tryz.prog w = .ok () (w.setCell a (.int .i64 x)) := by
  go_simp
set_option maxHeartbeats 1600000 in
theorem pesealed_ok (w : World) (R : Nat) (s : Ec) (ma : Option Addr) (mc : Nat) (h : PEAll w R s ma mc) (hT : Tabs w) (F : Fr) (A : At) (hF : Seen w F A) (hn : F.n < 18446744073709551616) (l : List UInt8) (n : Int) (hL : l = sealR (pairK s.ms s.i F.t) { F with f := s.i }) (hN : n = tagE (pairK s.ms s.i F.t) { F with f := s.i }) :
    Calls Tryz.prog 34 #[.pointer (some ⟨R, 0, none⟩), .agg (frC F A)] w fun e w' => FTells w w' e l n := by
  obtain ⟨W, hW⟩ : ∃ W, W = w.alloc (.cells (frC F A) 40) := ⟨_, rfl⟩
  have hb0 : Below w.heap.size w W := by rw [hW]; exact Go.Joins.below_alloc1 _ _
  have hfr : FrAt W w.heap.size F A := by rw [hW]; exact FrAt.new w F A
  obtain ⟨V0, hV0⟩ : ∃ V0, V0 = W.setCell ⟨w.heap.size, 1, none⟩ (.int .i64 s.i) := ⟨_, rfl⟩
  have hRw : R < w.heap.size := h.at'.lt
  have a0 : Apart (fun k => k = w.heap.size) W V0 := by rw [hV0]; exact (Apart.refl (fun k => k = w.heap.size) W).setCell (b := w.heap.size) (.inl rfl) 1 _
  have hb1 : Below w.heap.size w V0 := a0.below hb0 (fun k hk => by omega) hb0.size
  have hfr2 : FrAt V0 w.heap.size { F with f := s.i } A := by
    unfold FrAt at hfr ⊢
    rw [hV0, heap_setCell_same _ _ _ _ _ _ hfr]
    rfl
  have c11 := h.at'.cell 11 rfl
  have hst : (Instr.storeAt 3 (.pointer (some ⟨w.heap.size, 1, none⟩)) (.int .i64 s.i)).run Tryz.prog W = .ok () V0 := by
    rw [hV0]
    exact pestore_int W _ _ _ hfr.c1 (frozen_of_row _ _ 1 _ _ hfr)
  have H0 : Hid (W = w.alloc (.cells (frC F A) 40) ∧ PEAt W R s ma mc) := ⟨hW, h.at'.below hb0⟩
  have HST : Hid ((Instr.storeAt 3 (.pointer (some ⟨w.heap.size, 1, none⟩)) (.int .i64 s.i)).run Tryz.prog W = .ok () V0) := hst
  have H1 : Hid (PEAll V0 R s ma mc ∧ Tabs V0 ∧ FrAt V0 w.heap.size { F with f := s.i } A ∧ Seen V0 { F with f := s.i } A ∧ Below w.heap.size w V0 ∧ F.n < 18446744073709551616) := ⟨h.below hb1, hT.below hb1, hfr2, ⟨hF.key.below hb1, hF.body.below hb1, hF.tag.below hb1⟩, hb1, hn⟩
  have d11 := (h.at'.below hb0).cell 11 rfl
  obtain ⟨KK, hKK⟩ : ∃ KK, KK = pairK s.ms s.i F.t := ⟨_, rfl⟩
  have HLN : Hid (l = sealR KK { F with f := s.i } ∧ n = tagE KK { F with f := s.i }) := by rw [hKK]; exact ⟨hL, hN⟩
  have KP : Calls Tryz.prog 40 #[.pointer (some ⟨R, 0, none⟩), .int .i64 F.t] V0.drew fun e w' => ∃ d cd, e = .returned (.slice d KK.length cd) ∧ Sees w' d cd KK ∧ Below V0.heap.size V0 w' := by
    have hd : Below V0.heap.size V0 V0.drew := (Below.refl _ _).drew
    rw [hKK]
    refine (pepair_ok V0.drew R s ma mc (H1.out.1.below hd) (H1.out.2.1.below hd) F.t).mono ?_
    rintro e w' ⟨d, cd, rfl, hs, hb⟩
    exact ⟨d, cd, rfl, hs, hd.trans hb⟩
  have HQ : Hid (∀ V, Below V0.heap.size V0 V → ((Instr.loadAt 40 (.pointer (some ⟨w.heap.size, 0, none⟩))).run Tryz.prog V = .ok (.agg (frC { F with f := s.i } A)) V ∧ V.cell? ⟨w.heap.size, 2, none⟩ = some (.int .i64 F.t))) := fun V hV =>
    ⟨(H1.out.2.2.1.below hV).loads, (H1.out.2.2.1.below hV).c2⟩
  have hS0 := HQ.out V0.drew (Below.refl _ _).drew
  clear h hT hF hn hL hN hW hb0 hfr hV0 hRw a0 hb1 hfr2 c11 hst hKK
  go_enter Tryz.func34, Tryz.ntmps34
  go_upto_region 1 with fail
  rw [← H0.out.1]
  go_upto_region 2 with (first | (refine wpList_store_run rfl 3 _ _ rfl _ _ rfl rfl HST.out ?_) | fail)
  refine wp_region_noPanic ?_
  refine wp_region_held (S := fun V => (Instr.loadAt 40 (.pointer (some ⟨w.heap.size, 0, none⟩))).run Tryz.prog V = .ok (.agg (frC { F with f := s.i } A)) V ∧ V.cell? ⟨w.heap.size, 2, none⟩ = some (.int .i64 F.t)) (by kernel_rfl) ?_
  have hS := hS0
  refine any_take 0 (Value.agg (frC { F with f := s.i } A)) rfl (by kernel_rfl) (by kernel_rfl) (by kernel_rfl) (fun _ _ _ h => h) (by rfl) (fun W hW => exec_load 40 (.tmp 3) rfl _ _ rfl hW.1) hS ?_
  (try simp only [Act.put, List.setIfInBounds_toArray, List.set_cons_zero, List.set_cons_succ])
  refine any_take 1 ?vspn1 rfl (by kernel_rfl) (by kernel_rfl) (by kernel_rfl) (fun _ _ _ h => h) (by rfl) ?hspn1 hS ?_
  case hspn1 => (intro w hSw; (try dsimp only at hSw); go_split_ands; go_simp; (try with_reducible rfl))
  (try simp only [Act.put, List.setIfInBounds_toArray, List.set_cons_zero, List.set_cons_succ])
  refine any_take 2 ?vspn2 rfl (by kernel_rfl) (by kernel_rfl) (by kernel_rfl) (fun _ _ _ h => h) (by rfl) ?hspn2 hS ?_
  case hspn2 => (intro w hSw; (try dsimp only at hSw); go_split_ands; go_simp; (try with_reducible rfl))
  (try simp only [Act.put, List.setIfInBounds_toArray, List.set_cons_zero, List.set_cons_succ])
  refine any_take 3 ?vspn3 rfl (by kernel_rfl) (by kernel_rfl) (by kernel_rfl) (fun _ _ _ h => h) (by rfl) ?hspn3 hS ?_
  case hspn3 => (intro w hSw; (try dsimp only at hSw); go_split_ands; go_simp; (try with_reducible rfl))
  (try simp only [Act.put, List.setIfInBounds_toArray, List.set_cons_zero, List.set_cons_succ])
  refine any_one 4 rfl (by kernel_rfl) (by rfl) (fun K hK => ?_)
  clear hS
  go_simp
  refine KP.mono ?_
  rintro ev w3 ⟨d3, c3, rfl, hs3, hb3⟩
  have HQ3 := HQ.out w3 hb3
  have KS := seal_any w3 { F with f := s.i } A d3 c3 KK (H1.out.2.1.below hb3) (H1.out.2.2.2.1.below hb3) H1.out.2.2.2.2.2 hs3
  rw [← HLN.out.1, ← HLN.out.2] at KS
  clear hs3 KP
  refine hK.out _ _ (HQ3) (fun hS => ?_)
  clear hK
  (try simp only [Act.put, List.setIfInBounds_toArray, List.set_cons_zero, List.set_cons_succ])
  refine any_one 5 rfl (by kernel_rfl) (by rfl) (fun K hK => ?_)
  clear hS
  go_simp
  refine KS.mono ?_
  rintro ev w5 ⟨d5, c5, rfl, hs5, hb5⟩
  have hb35 : Below V0.heap.size V0 w5 := hb3.trans (hb5.mono hb3.size)
  have HQ5 := HQ.out w5 hb35
  have H5 : Hid (Sees w5 d5 c5 l ∧ Below w.heap.size w w5) := ⟨hs5, H1.out.2.2.2.2.1.trans (hb35.mono H1.out.2.2.2.2.1.size)⟩
  clear hs5 hb5 hb35 KS
  refine hK.out _ _ (HQ5) (fun hS => ?_)
  clear hK
  (try simp only [Act.put, List.setIfInBounds_toArray, List.set_cons_zero, List.set_cons_succ])
  refine any_take 6 ?vspn4 rfl (by kernel_rfl) (by kernel_rfl) (by kernel_rfl) (fun _ _ _ h => h) (by rfl) ?hspn4 hS ?_
  case hspn4 => (intro w hSw; (try dsimp only at hSw); go_split_ands; go_simp; (try with_reducible rfl))
  (try simp only [Act.put, List.setIfInBounds_toArray, List.set_cons_zero, List.set_cons_succ])
  refine any_take 7 ?vspn5 rfl (by kernel_rfl) (by kernel_rfl) (by kernel_rfl) (fun _ _ _ h => h) (by rfl) ?hspn5 hS ?_
  case hspn5 => (intro w hSw; (try dsimp only at hSw); go_split_ands; go_simp; (try with_reducible rfl))
  (try simp only [Act.put, List.setIfInBounds_toArray, List.set_cons_zero, List.set_cons_succ])
  refine any_take 8 ?vspn6 rfl (by kernel_rfl) (by kernel_rfl) (by kernel_rfl) (fun _ _ _ h => h) (by rfl) ?hspn6 hS ?_
  case hspn6 => (intro w hSw; (try dsimp only at hSw); go_split_ands; go_simp; (try with_reducible rfl))
  (try simp only [Act.put, List.setIfInBounds_toArray, List.set_cons_zero, List.set_cons_succ])
  refine any_take 9 ?vspn7 rfl (by kernel_rfl) (by kernel_rfl) (by kernel_rfl) (fun _ _ _ h => h) (by rfl) ?hspn7 hS ?_
  case hspn7 => (intro w hSw; (try dsimp only at hSw); go_split_ands; go_simp; (try with_reducible rfl))
  (try simp only [Act.put, List.setIfInBounds_toArray, List.set_cons_zero, List.set_cons_succ])
  refine wpAnyH_done (by kernel_rfl) ?_ _
  refine NoPanic.normal ?_
  clear hS hS0 HQ3 HQ5
  go_wp2
  go_ret2
  exact ⟨d5, c5, rfl, H5.out⟩
end Go.Proofs.YtahnbljbhfpldaaGreatDoor
