/-
  The document's chain of a speaker: Mac, Told, Known, Over.
-/
import Derived.Test.YtgncdnejmobjbaaGreatDoorRenE
import Derived.Test.YtgncdnejmobjbaaGreatDoorRenN
namespace Go.Proofs.YtgncdnejmobjbaaGreatDoor
open Go.ChangeShapes Go.WideShapes Go.ChangeAt Go.RowKit
set_option maxRecDepth 20000

/-- Mac tells the key first. -/
def MTells (w w' : World) (e : Ending) (t : Int × List UInt8 × Int) : Prop := ∃ d cd, e = .returned (.tuple #[.slice d t.2.1.length cd, .int .i64 t.1, .int .i64 t.2.2]) ∧ Sees w' d cd t.2.1 ∧ Below w.heap.size w w'

set_option maxHeartbeats 1600000 in
theorem dmac_any (w : World) (R : Nat) (s : Rn) (oa : Option Addr) (oc : Nat) (ka : Option Addr) (kc : Nat) (h : DNAll w R s oa oc ka kc) (hok : s.ok) (r : Int) :
    Calls Tryz.prog 10 #[.pointer (some ⟨R, 0, none⟩), .int .i64 r] w fun e w' => MTells w w' e (s.mac r) := by
  have c12 := h.at'.cell 12 rfl
  by_cases h0 : s.ep < 0
  · rw [show s.mac r = (0, [], 5) from if_pos h0]
    clear h hok
    go_enter Tryz.func10, Tryz.ntmps10
    go_wp2
    go_ret3
    exact ⟨none, 0, rfl, Sees.nil' _, Below.refl _ _⟩
  · rw [show s.mac r = s.tell (idxP s.c s.st r) from if_neg h0]
    have hk := nkeys hok.cfg
    have K1 := rindex_ok w.drew s.c s.st r
    rw [idxV_eq] at K1
    obtain ⟨p, hp⟩ : ∃ p, p = idxP s.c s.st r := ⟨_, rfl⟩
    have hp2 : p.2 = 0 → 0 ≤ s.ep ∧ 0 ≤ p.1 ∧ p.1 ≤ s.c.k := fun h2 => by
      rw [hp] at h2 ⊢
      obtain ⟨_, b1, b2, b3⟩ := idxP_in h2
      rw [b3]
      omega
    rw [← hp] at K1 ⊢
    have HN : Hid (DNAll w R s oa oc ka kc ∧ (p.2 = 0 → 0 ≤ s.ep ∧ 0 ≤ p.1 ∧ p.1 ≤ s.c.k) ∧ 0 ≤ s.c.k ∧ s.c.k ≤ 256) := ⟨h, hp2, by omega, hk.2⟩
    have HQ : Hid (∀ V, Below w.heap.size w V → ((Instr.loadAt 23 (.pointer (some ⟨R, 0, none⟩))).run Tryz.prog V = .ok (.agg (cfC s.c)) V ∧ V.cell? ⟨R, 13, none⟩ = some (.int .i64 s.st))) := fun V hb => ⟨(HN.out.1.below hb).at'.loads, (HN.out.1.below hb).at'.cell 13 rfl⟩
    have hS0 := HQ.out w.drew (Below.refl _ _).drew
    obtain ⟨p1, p2⟩ := p
    dsimp only at K1
    clear h hok hk hp hp2
    go_enter Tryz.func10, Tryz.ntmps10
    go_wp2_with fail
    refine wp_region_noPanic ?_
    refine wp_region_held (S := fun V => (Instr.loadAt 23 (.pointer (some ⟨R, 0, none⟩))).run Tryz.prog V = .ok (.agg (cfC s.c)) V ∧ V.cell? ⟨R, 13, none⟩ = some (.int .i64 s.st)) (by kernel_rfl) ?_
    have hS := hS0
    refine any_take 0 ?vran1 rfl (by kernel_rfl) (by kernel_rfl) (by kernel_rfl) (fun _ _ _ h => h) (by rfl) ?hran1 hS ?_
    case hran1 => (intro w hSw; (try dsimp only at hSw); go_split_ands; go_simp; (try with_reducible rfl))
    (try simp only [Act.put, List.setIfInBounds_toArray, List.set_cons_zero, List.set_cons_succ])
    refine any_take 1 ?vran2 rfl (by kernel_rfl) (by kernel_rfl) (by kernel_rfl) (fun _ _ _ h => h) (by rfl) ?hran2 hS ?_
    case hran2 => (intro w hSw; (try dsimp only at hSw); go_split_ands; go_simp; (try with_reducible rfl))
    (try simp only [Act.put, List.setIfInBounds_toArray, List.set_cons_zero, List.set_cons_succ])
    refine any_take 2 ?vran3 rfl (by kernel_rfl) (by kernel_rfl) (by kernel_rfl) (fun _ _ _ h => h) (by rfl) ?hran3 hS ?_
    case hran3 => (intro w hSw; (try dsimp only at hSw); go_split_ands; go_simp; (try with_reducible rfl))
    (try simp only [Act.put, List.setIfInBounds_toArray, List.set_cons_zero, List.set_cons_succ])
    refine any_take 3 (Value.agg (cfC s.c)) rfl (by kernel_rfl) (by kernel_rfl) (by kernel_rfl) (fun _ _ _ h => h) (by rfl) (fun W hW => exec_load 23 (.tmp 18) rfl _ _ rfl hW.1) hS ?_
    (try simp only [Act.put, List.setIfInBounds_toArray, List.set_cons_zero, List.set_cons_succ])
    refine any_take 4 ?vran4 rfl (by kernel_rfl) (by kernel_rfl) (by kernel_rfl) (fun _ _ _ h => h) (by rfl) ?hran4 hS ?_
    case hran4 => (intro w hSw; (try dsimp only at hSw); go_split_ands; go_simp; (try with_reducible rfl))
    (try simp only [Act.put, List.setIfInBounds_toArray, List.set_cons_zero, List.set_cons_succ])
    refine any_take 5 ?vran5 rfl (by kernel_rfl) (by kernel_rfl) (by kernel_rfl) (fun _ _ _ h => h) (by rfl) ?hran5 hS ?_
    case hran5 => (intro w hSw; (try dsimp only at hSw); go_split_ands; go_simp; (try with_reducible rfl))
    (try simp only [Act.put, List.setIfInBounds_toArray, List.set_cons_zero, List.set_cons_succ])
    refine any_take 6 ?vran6 rfl (by kernel_rfl) (by kernel_rfl) (by kernel_rfl) (fun _ _ _ h => h) (by rfl) ?hran6 hS ?_
    case hran6 => (intro w hSw; (try dsimp only at hSw); go_split_ands; go_simp; (try with_reducible rfl))
    (try simp only [Act.put, List.setIfInBounds_toArray, List.set_cons_zero, List.set_cons_succ])
    refine any_take 7 ?vran7 rfl (by kernel_rfl) (by kernel_rfl) (by kernel_rfl) (fun _ _ _ h => h) (by rfl) ?hran7 hS ?_
    case hran7 => (intro w hSw; (try dsimp only at hSw); go_split_ands; go_simp; (try with_reducible rfl))
    (try simp only [Act.put, List.setIfInBounds_toArray, List.set_cons_zero, List.set_cons_succ])
    refine any_take 8 ?vran8 rfl (by kernel_rfl) (by kernel_rfl) (by kernel_rfl) (fun _ _ _ h => h) (by rfl) ?hran8 hS ?_
    case hran8 => (intro w hSw; (try dsimp only at hSw); go_split_ands; go_simp; (try with_reducible rfl))
    (try simp only [Act.put, List.setIfInBounds_toArray, List.set_cons_zero, List.set_cons_succ])
    refine any_one 9 rfl (by kernel_rfl) (by rfl) (fun K hK => ?_)
    clear hS
    go_simp
    refine K1.mono ?_
    rintro ev w1 ⟨rfl, hb1⟩
    have HB1 : Hid (Below w.heap.size w w1) := (Below.refl _ _).drew.trans hb1
    have HQ1 := HQ.out w1 HB1.out
    clear hb1 K1
    refine hK.out _ _ (HQ1) (fun hS => ?_)
    clear hK
    (try simp only [Act.put, List.setIfInBounds_toArray, List.set_cons_zero, List.set_cons_succ])
    refine any_take 10 ?vran9 rfl (by kernel_rfl) (by kernel_rfl) (by kernel_rfl) (fun _ _ _ h => h) (by rfl) ?hran9 hS ?_
    case hran9 => (intro w hSw; (try dsimp only at hSw); go_split_ands; go_simp; (try with_reducible rfl))
    (try simp only [Act.put, List.setIfInBounds_toArray, List.set_cons_zero, List.set_cons_succ])
    refine any_take 11 ?vran10 rfl (by kernel_rfl) (by kernel_rfl) (by kernel_rfl) (fun _ _ _ h => h) (by rfl) ?hran10 hS ?_
    case hran10 => (intro w hSw; (try dsimp only at hSw); go_split_ands; go_simp; (try with_reducible rfl))
    (try simp only [Act.put, List.setIfInBounds_toArray, List.set_cons_zero, List.set_cons_succ])
    refine any_take 12 ?vran11 rfl (by kernel_rfl) (by kernel_rfl) (by kernel_rfl) (fun _ _ _ h => h) (by rfl) ?hran11 hS ?_
    case hran11 => (intro w hSw; (try dsimp only at hSw); go_split_ands; go_simp; (try with_reducible rfl))
    (try simp only [Act.put, List.setIfInBounds_toArray, List.set_cons_zero, List.set_cons_succ])
    refine any_take 13 ?vran12 rfl (by kernel_rfl) (by kernel_rfl) (by kernel_rfl) (fun _ _ _ h => h) (by rfl) ?hran12 hS ?_
    case hran12 => (intro w hSw; (try dsimp only at hSw); go_split_ands; go_simp; (try with_reducible rfl))
    (try simp only [Act.put, List.setIfInBounds_toArray, List.set_cons_zero, List.set_cons_succ])
    refine any_take 14 ?vran13 rfl (by kernel_rfl) (by kernel_rfl) (by kernel_rfl) (fun _ _ _ h => h) (by rfl) ?hran13 hS ?_
    case hran13 => (intro w hSw; (try dsimp only at hSw); go_split_ands; go_simp; (try with_reducible rfl))
    (try simp only [Act.put, List.setIfInBounds_toArray, List.set_cons_zero, List.set_cons_succ])
    refine wpAnyH_done (by kernel_rfl) ?_ _
    refine NoPanic.normal ?_
    clear hS hS0 HQ1 HQ c12
    have K2 := nkey_any w1 R s oa oc ka kc (HN.out.1.below HB1.out) (p1, p2) HN.out.2.1 HN.out.2.2
    dsimp only at K2
    go_wp2_with fail
    refine K2.mono ?_
    rintro ev w2 ⟨d, cd, rfl, hs2, hb2⟩
    have HE : Hid (MTells w w2 (.returned (.tuple #[.slice d (s.tell (p1, p2)).2.1.length cd, .int .i64 (s.tell (p1, p2)).1, .int .i64 (s.tell (p1, p2)).2.2])) (s.tell (p1, p2))) := ⟨d, cd, rfl, hs2, HB1.out.trans (hb2.mono HB1.out.size)⟩
    clear K2 hs2 hb2
    go_wp2
    go_ret3
    exact HE.out

set_option maxHeartbeats 1600000 in
theorem dtold_any (w : World) (R : Nat) (s : Rn) (oa : Option Addr) (oc : Nat) (ka : Option Addr) (kc : Nat) (h : DNAll w R s oa oc ka kc) (hok : s.ok) (r : Int) :
    Calls Tryz.prog 12 #[.pointer (some ⟨R, 0, none⟩), .int .i64 r] w fun e w' => NTells w w' e (s.told r) := by
  have c12 := h.at'.cell 12 rfl
  by_cases h0 : s.ep < 0
  · rw [show s.told r = (0, [], 5) from if_pos h0]
    clear h hok
    go_enter Tryz.func12, Tryz.ntmps12
    go_wp2
    go_ret3
    exact ⟨none, 0, rfl, Sees.nil' _, Below.refl _ _⟩
  · rw [show s.told r = s.tell (tolP s.c s.st r) from if_neg h0]
    have hk := nkeys hok.cfg
    have K1 := rtold_ok w.drew s.c s.st r
    rw [tolV_eq] at K1
    obtain ⟨p, hp⟩ : ∃ p, p = tolP s.c s.st r := ⟨_, rfl⟩
    have hp2 : p.2 = 0 → 0 ≤ s.ep ∧ 0 ≤ p.1 ∧ p.1 ≤ s.c.k := fun h2 => by
      rw [hp] at h2 ⊢
      obtain ⟨_, b1, b3⟩ := tolP_in h2
      rw [b3]
      have := tolN_in hok.cfg (r - s.st); omega
    rw [← hp] at K1 ⊢
    have HN : Hid (DNAll w R s oa oc ka kc ∧ (p.2 = 0 → 0 ≤ s.ep ∧ 0 ≤ p.1 ∧ p.1 ≤ s.c.k) ∧ 0 ≤ s.c.k ∧ s.c.k ≤ 256) := ⟨h, hp2, by omega, hk.2⟩
    have HQ : Hid (∀ V, Below w.heap.size w V → ((Instr.loadAt 23 (.pointer (some ⟨R, 0, none⟩))).run Tryz.prog V = .ok (.agg (cfC s.c)) V ∧ V.cell? ⟨R, 13, none⟩ = some (.int .i64 s.st))) := fun V hb => ⟨(HN.out.1.below hb).at'.loads, (HN.out.1.below hb).at'.cell 13 rfl⟩
    have hS0 := HQ.out w.drew (Below.refl _ _).drew
    obtain ⟨p1, p2⟩ := p
    dsimp only at K1
    clear h hok hk hp hp2
    go_enter Tryz.func12, Tryz.ntmps12
    go_wp2_with fail
    refine wp_region_noPanic ?_
    refine wp_region_held (S := fun V => (Instr.loadAt 23 (.pointer (some ⟨R, 0, none⟩))).run Tryz.prog V = .ok (.agg (cfC s.c)) V ∧ V.cell? ⟨R, 13, none⟩ = some (.int .i64 s.st)) (by kernel_rfl) ?_
    have hS := hS0
    refine any_take 0 ?vran1 rfl (by kernel_rfl) (by kernel_rfl) (by kernel_rfl) (fun _ _ _ h => h) (by rfl) ?hran1 hS ?_
    case hran1 => (intro w hSw; (try dsimp only at hSw); go_split_ands; go_simp; (try with_reducible rfl))
    (try simp only [Act.put, List.setIfInBounds_toArray, List.set_cons_zero, List.set_cons_succ])
    refine any_take 1 ?vran2 rfl (by kernel_rfl) (by kernel_rfl) (by kernel_rfl) (fun _ _ _ h => h) (by rfl) ?hran2 hS ?_
    case hran2 => (intro w hSw; (try dsimp only at hSw); go_split_ands; go_simp; (try with_reducible rfl))
    (try simp only [Act.put, List.setIfInBounds_toArray, List.set_cons_zero, List.set_cons_succ])
    refine any_take 2 ?vran3 rfl (by kernel_rfl) (by kernel_rfl) (by kernel_rfl) (fun _ _ _ h => h) (by rfl) ?hran3 hS ?_
    case hran3 => (intro w hSw; (try dsimp only at hSw); go_split_ands; go_simp; (try with_reducible rfl))
    (try simp only [Act.put, List.setIfInBounds_toArray, List.set_cons_zero, List.set_cons_succ])
    refine any_take 3 (Value.agg (cfC s.c)) rfl (by kernel_rfl) (by kernel_rfl) (by kernel_rfl) (fun _ _ _ h => h) (by rfl) (fun W hW => exec_load 23 (.tmp 17) rfl _ _ rfl hW.1) hS ?_
    (try simp only [Act.put, List.setIfInBounds_toArray, List.set_cons_zero, List.set_cons_succ])
    refine any_take 4 ?vran4 rfl (by kernel_rfl) (by kernel_rfl) (by kernel_rfl) (fun _ _ _ h => h) (by rfl) ?hran4 hS ?_
    case hran4 => (intro w hSw; (try dsimp only at hSw); go_split_ands; go_simp; (try with_reducible rfl))
    (try simp only [Act.put, List.setIfInBounds_toArray, List.set_cons_zero, List.set_cons_succ])
    refine any_take 5 ?vran5 rfl (by kernel_rfl) (by kernel_rfl) (by kernel_rfl) (fun _ _ _ h => h) (by rfl) ?hran5 hS ?_
    case hran5 => (intro w hSw; (try dsimp only at hSw); go_split_ands; go_simp; (try with_reducible rfl))
    (try simp only [Act.put, List.setIfInBounds_toArray, List.set_cons_zero, List.set_cons_succ])
    refine any_take 6 ?vran6 rfl (by kernel_rfl) (by kernel_rfl) (by kernel_rfl) (fun _ _ _ h => h) (by rfl) ?hran6 hS ?_
    case hran6 => (intro w hSw; (try dsimp only at hSw); go_split_ands; go_simp; (try with_reducible rfl))
    (try simp only [Act.put, List.setIfInBounds_toArray, List.set_cons_zero, List.set_cons_succ])
    refine any_take 7 ?vran7 rfl (by kernel_rfl) (by kernel_rfl) (by kernel_rfl) (fun _ _ _ h => h) (by rfl) ?hran7 hS ?_
    case hran7 => (intro w hSw; (try dsimp only at hSw); go_split_ands; go_simp; (try with_reducible rfl))
    (try simp only [Act.put, List.setIfInBounds_toArray, List.set_cons_zero, List.set_cons_succ])
    refine any_take 8 ?vran8 rfl (by kernel_rfl) (by kernel_rfl) (by kernel_rfl) (fun _ _ _ h => h) (by rfl) ?hran8 hS ?_
    case hran8 => (intro w hSw; (try dsimp only at hSw); go_split_ands; go_simp; (try with_reducible rfl))
    (try simp only [Act.put, List.setIfInBounds_toArray, List.set_cons_zero, List.set_cons_succ])
    refine any_one 9 rfl (by kernel_rfl) (by rfl) (fun K hK => ?_)
    clear hS
    go_simp
    refine K1.mono ?_
    rintro ev w1 ⟨rfl, hb1⟩
    have HB1 : Hid (Below w.heap.size w w1) := (Below.refl _ _).drew.trans hb1
    have HQ1 := HQ.out w1 HB1.out
    clear hb1 K1
    refine hK.out _ _ (HQ1) (fun hS => ?_)
    clear hK
    (try simp only [Act.put, List.setIfInBounds_toArray, List.set_cons_zero, List.set_cons_succ])
    refine any_take 10 ?vran9 rfl (by kernel_rfl) (by kernel_rfl) (by kernel_rfl) (fun _ _ _ h => h) (by rfl) ?hran9 hS ?_
    case hran9 => (intro w hSw; (try dsimp only at hSw); go_split_ands; go_simp; (try with_reducible rfl))
    (try simp only [Act.put, List.setIfInBounds_toArray, List.set_cons_zero, List.set_cons_succ])
    refine any_take 11 ?vran10 rfl (by kernel_rfl) (by kernel_rfl) (by kernel_rfl) (fun _ _ _ h => h) (by rfl) ?hran10 hS ?_
    case hran10 => (intro w hSw; (try dsimp only at hSw); go_split_ands; go_simp; (try with_reducible rfl))
    (try simp only [Act.put, List.setIfInBounds_toArray, List.set_cons_zero, List.set_cons_succ])
    refine any_take 12 ?vran11 rfl (by kernel_rfl) (by kernel_rfl) (by kernel_rfl) (fun _ _ _ h => h) (by rfl) ?hran11 hS ?_
    case hran11 => (intro w hSw; (try dsimp only at hSw); go_split_ands; go_simp; (try with_reducible rfl))
    (try simp only [Act.put, List.setIfInBounds_toArray, List.set_cons_zero, List.set_cons_succ])
    refine any_take 13 ?vran12 rfl (by kernel_rfl) (by kernel_rfl) (by kernel_rfl) (fun _ _ _ h => h) (by rfl) ?hran12 hS ?_
    case hran12 => (intro w hSw; (try dsimp only at hSw); go_split_ands; go_simp; (try with_reducible rfl))
    (try simp only [Act.put, List.setIfInBounds_toArray, List.set_cons_zero, List.set_cons_succ])
    refine any_take 14 ?vran13 rfl (by kernel_rfl) (by kernel_rfl) (by kernel_rfl) (fun _ _ _ h => h) (by rfl) ?hran13 hS ?_
    case hran13 => (intro w hSw; (try dsimp only at hSw); go_split_ands; go_simp; (try with_reducible rfl))
    (try simp only [Act.put, List.setIfInBounds_toArray, List.set_cons_zero, List.set_cons_succ])
    refine wpAnyH_done (by kernel_rfl) ?_ _
    refine NoPanic.normal ?_
    clear hS hS0 HQ1 HQ c12
    have K2 := nkey_any w1 R s oa oc ka kc (HN.out.1.below HB1.out) (p1, p2) HN.out.2.1 HN.out.2.2
    dsimp only at K2
    go_wp2_with fail
    refine K2.mono ?_
    rintro ev w2 ⟨d, cd, rfl, hs2, hb2⟩
    have HE : Hid (NTells w w2 (.returned (.tuple #[.int .i64 (s.tell (p1, p2)).1, .slice d (s.tell (p1, p2)).2.1.length cd, .int .i64 (s.tell (p1, p2)).2.2])) (s.tell (p1, p2))) := ⟨d, cd, rfl, hs2, HB1.out.trans (hb2.mono HB1.out.size)⟩
    clear K2 hs2 hb2
    go_wp2
    go_ret3
    exact HE.out

set_option maxHeartbeats 1600000 in
theorem dknown_no (w : World) (R : Nat) (s : Rn) (oa : Option Addr) (oc : Nat) (ka : Option Addr) (kc : Nat) (h : DNAll w R s oa oc ka kc) (h0 : s.ep < 0) (now : Int) :
    Calls Tryz.prog 14 #[.pointer (some ⟨R, 0, none⟩), .int .i64 now] w fun e w' => NTells w w' e (0, [], 5) := by
  have c12 := h.at'.cell 12 rfl
  clear h
  go_enter Tryz.func14, Tryz.ntmps14
  go_wp2
  go_ret3
  exact ⟨none, 0, rfl, Sees.nil' _, Below.refl _ _⟩
set_option maxHeartbeats 1600000 in
theorem dknown_ok (w : World) (R : Nat) (s : Rn) (oa : Option Addr) (oc : Nat) (ka : Option Addr) (kc : Nat) (h : DNAll w R s oa oc ka kc) (hok : s.ok) (h0 : ¬ s.ep < 0) (now : Int) :
    Calls Tryz.prog 14 #[.pointer (some ⟨R, 0, none⟩), .int .i64 now] w fun e w' => ∃ p, KnIs s now p ∧ NTells w w' e (s.tell p) := by
  have c12 := h.at'.cell 12 rfl
  have hk := nkeys hok.cfg
  have K1 := rknown_ok w.drew s.c s.sl s.st now
  have HN : Hid (DNAll w R s oa oc ka kc ∧ (∀ p, KnIs s now p → p.2 = 0 → 0 ≤ s.ep ∧ 0 ≤ p.1 ∧ p.1 ≤ s.c.k) ∧ 0 ≤ s.c.k ∧ s.c.k ≤ 256) := ⟨h, fun p hp h2 => by
    rcases hp with ⟨_, rfl⟩ | ⟨_, _, hp⟩
    · cases h2
    · have := hp.lo; have := hp.hi; omega, by omega, hk.2⟩
  have HQ : Hid (∀ V, Below w.heap.size w V → ((Instr.loadAt 23 (.pointer (some ⟨R, 0, none⟩))).run Tryz.prog V = .ok (.agg (cfC s.c)) V ∧ V.cell? ⟨R, 13, none⟩ = some (.int .i64 s.st) ∧ V.cell? ⟨R, 11, none⟩ = some (.int .i64 s.sl))) := fun V hb => ⟨(HN.out.1.below hb).at'.loads, (HN.out.1.below hb).at'.cell 13 rfl, (HN.out.1.below hb).at'.cell 11 rfl⟩
  have hS0 := HQ.out w.drew (Below.refl _ _).drew
  have K2 : Calls Tryz.prog 37 #[.agg (cfC s.c), .int .i64 s.sl, .int .i64 s.st, .int .i64 now] w.drew fun e w' => ∃ p1 p2 : Int, e = .returned (.tuple #[.int .i64 p1, .int .i64 p2]) ∧ KnIs s now (p1, p2) ∧ Below w.drew.heap.size w.drew w' := K1.mono fun e w' hh => by
    obtain ⟨hh, hb⟩ := hh
    rcases hh with ⟨h1, rfl⟩ | ⟨h1, n, rfl, h2⟩
    · exact ⟨0, 1, rfl, .inl ⟨h1, rfl⟩, hb⟩
    · exact ⟨n, 0, rfl, .inr ⟨h1, rfl, h2⟩, hb⟩
  clear h hok hk K1
  go_enter Tryz.func14, Tryz.ntmps14
  go_wp2_with fail
  refine wp_region_noPanic ?_
  refine wp_region_held (S := fun V => (Instr.loadAt 23 (.pointer (some ⟨R, 0, none⟩))).run Tryz.prog V = .ok (.agg (cfC s.c)) V ∧ V.cell? ⟨R, 13, none⟩ = some (.int .i64 s.st) ∧ V.cell? ⟨R, 11, none⟩ = some (.int .i64 s.sl)) (by kernel_rfl) ?_
  have hS := hS0
  refine any_take 0 ?vrkn1 rfl (by kernel_rfl) (by kernel_rfl) (by kernel_rfl) (fun _ _ _ h => h) (by rfl) ?hrkn1 hS ?_
  case hrkn1 => (intro w hSw; (try dsimp only at hSw); go_split_ands; go_simp; (try with_reducible rfl))
  (try simp only [Act.put, List.setIfInBounds_toArray, List.set_cons_zero, List.set_cons_succ])
  refine any_take 1 ?vrkn2 rfl (by kernel_rfl) (by kernel_rfl) (by kernel_rfl) (fun _ _ _ h => h) (by rfl) ?hrkn2 hS ?_
  case hrkn2 => (intro w hSw; (try dsimp only at hSw); go_split_ands; go_simp; (try with_reducible rfl))
  (try simp only [Act.put, List.setIfInBounds_toArray, List.set_cons_zero, List.set_cons_succ])
  refine any_take 2 ?vrkn3 rfl (by kernel_rfl) (by kernel_rfl) (by kernel_rfl) (fun _ _ _ h => h) (by rfl) ?hrkn3 hS ?_
  case hrkn3 => (intro w hSw; (try dsimp only at hSw); go_split_ands; go_simp; (try with_reducible rfl))
  (try simp only [Act.put, List.setIfInBounds_toArray, List.set_cons_zero, List.set_cons_succ])
  refine any_take 3 (Value.agg (cfC s.c)) rfl (by kernel_rfl) (by kernel_rfl) (by kernel_rfl) (fun _ _ _ h => h) (by rfl) (fun W hW => exec_load 23 (.tmp 17) rfl _ _ rfl hW.1) hS ?_
  (try simp only [Act.put, List.setIfInBounds_toArray, List.set_cons_zero, List.set_cons_succ])
  refine any_take 4 ?vrkn4 rfl (by kernel_rfl) (by kernel_rfl) (by kernel_rfl) (fun _ _ _ h => h) (by rfl) ?hrkn4 hS ?_
  case hrkn4 => (intro w hSw; (try dsimp only at hSw); go_split_ands; go_simp; (try with_reducible rfl))
  (try simp only [Act.put, List.setIfInBounds_toArray, List.set_cons_zero, List.set_cons_succ])
  refine any_take 5 ?vrkn5 rfl (by kernel_rfl) (by kernel_rfl) (by kernel_rfl) (fun _ _ _ h => h) (by rfl) ?hrkn5 hS ?_
  case hrkn5 => (intro w hSw; (try dsimp only at hSw); go_split_ands; go_simp; (try with_reducible rfl))
  (try simp only [Act.put, List.setIfInBounds_toArray, List.set_cons_zero, List.set_cons_succ])
  refine any_take 6 ?vrkn6 rfl (by kernel_rfl) (by kernel_rfl) (by kernel_rfl) (fun _ _ _ h => h) (by rfl) ?hrkn6 hS ?_
  case hrkn6 => (intro w hSw; (try dsimp only at hSw); go_split_ands; go_simp; (try with_reducible rfl))
  (try simp only [Act.put, List.setIfInBounds_toArray, List.set_cons_zero, List.set_cons_succ])
  refine any_take 7 ?vrkn7 rfl (by kernel_rfl) (by kernel_rfl) (by kernel_rfl) (fun _ _ _ h => h) (by rfl) ?hrkn7 hS ?_
  case hrkn7 => (intro w hSw; (try dsimp only at hSw); go_split_ands; go_simp; (try with_reducible rfl))
  (try simp only [Act.put, List.setIfInBounds_toArray, List.set_cons_zero, List.set_cons_succ])
  refine any_take 8 ?vrkn8 rfl (by kernel_rfl) (by kernel_rfl) (by kernel_rfl) (fun _ _ _ h => h) (by rfl) ?hrkn8 hS ?_
  case hrkn8 => (intro w hSw; (try dsimp only at hSw); go_split_ands; go_simp; (try with_reducible rfl))
  (try simp only [Act.put, List.setIfInBounds_toArray, List.set_cons_zero, List.set_cons_succ])
  refine any_take 9 ?vrkn9 rfl (by kernel_rfl) (by kernel_rfl) (by kernel_rfl) (fun _ _ _ h => h) (by rfl) ?hrkn9 hS ?_
  case hrkn9 => (intro w hSw; (try dsimp only at hSw); go_split_ands; go_simp; (try with_reducible rfl))
  (try simp only [Act.put, List.setIfInBounds_toArray, List.set_cons_zero, List.set_cons_succ])
  refine any_take 10 ?vrkn10 rfl (by kernel_rfl) (by kernel_rfl) (by kernel_rfl) (fun _ _ _ h => h) (by rfl) ?hrkn10 hS ?_
  case hrkn10 => (intro w hSw; (try dsimp only at hSw); go_split_ands; go_simp; (try with_reducible rfl))
  (try simp only [Act.put, List.setIfInBounds_toArray, List.set_cons_zero, List.set_cons_succ])
  refine any_take 11 ?vrkn11 rfl (by kernel_rfl) (by kernel_rfl) (by kernel_rfl) (fun _ _ _ h => h) (by rfl) ?hrkn11 hS ?_
  case hrkn11 => (intro w hSw; (try dsimp only at hSw); go_split_ands; go_simp; (try with_reducible rfl))
  (try simp only [Act.put, List.setIfInBounds_toArray, List.set_cons_zero, List.set_cons_succ])
  refine any_take 12 ?vrkn12 rfl (by kernel_rfl) (by kernel_rfl) (by kernel_rfl) (fun _ _ _ h => h) (by rfl) ?hrkn12 hS ?_
  case hrkn12 => (intro w hSw; (try dsimp only at hSw); go_split_ands; go_simp; (try with_reducible rfl))
  (try simp only [Act.put, List.setIfInBounds_toArray, List.set_cons_zero, List.set_cons_succ])
  refine any_one 13 rfl (by kernel_rfl) (by rfl) (fun K hK => ?_)
  clear hS
  go_simp
  refine K2.mono ?_
  rintro ev w1 ⟨p1, p2, rfl, hkn, hb1⟩
  have HB1 : Hid (Below w.heap.size w w1) := (Below.refl _ _).drew.trans hb1
  have HKN : Hid (KnIs s now (p1, p2)) := hkn
  have HQ1 := HQ.out w1 HB1.out
  clear hb1 hkn K2
  refine hK.out _ _ (HQ1) (fun hS => ?_)
  clear hK
  (try simp only [Act.put, List.setIfInBounds_toArray, List.set_cons_zero, List.set_cons_succ])
  refine any_take 14 ?vrkn13 rfl (by kernel_rfl) (by kernel_rfl) (by kernel_rfl) (fun _ _ _ h => h) (by rfl) ?hrkn13 hS ?_
  case hrkn13 => (intro w hSw; (try dsimp only at hSw); go_split_ands; go_simp; (try with_reducible rfl))
  (try simp only [Act.put, List.setIfInBounds_toArray, List.set_cons_zero, List.set_cons_succ])
  refine any_take 15 ?vrkn14 rfl (by kernel_rfl) (by kernel_rfl) (by kernel_rfl) (fun _ _ _ h => h) (by rfl) ?hrkn14 hS ?_
  case hrkn14 => (intro w hSw; (try dsimp only at hSw); go_split_ands; go_simp; (try with_reducible rfl))
  (try simp only [Act.put, List.setIfInBounds_toArray, List.set_cons_zero, List.set_cons_succ])
  refine any_take 16 ?vrkn15 rfl (by kernel_rfl) (by kernel_rfl) (by kernel_rfl) (fun _ _ _ h => h) (by rfl) ?hrkn15 hS ?_
  case hrkn15 => (intro w hSw; (try dsimp only at hSw); go_split_ands; go_simp; (try with_reducible rfl))
  (try simp only [Act.put, List.setIfInBounds_toArray, List.set_cons_zero, List.set_cons_succ])
  refine any_take 17 ?vrkn16 rfl (by kernel_rfl) (by kernel_rfl) (by kernel_rfl) (fun _ _ _ h => h) (by rfl) ?hrkn16 hS ?_
  case hrkn16 => (intro w hSw; (try dsimp only at hSw); go_split_ands; go_simp; (try with_reducible rfl))
  (try simp only [Act.put, List.setIfInBounds_toArray, List.set_cons_zero, List.set_cons_succ])
  refine any_take 18 ?vrkn17 rfl (by kernel_rfl) (by kernel_rfl) (by kernel_rfl) (fun _ _ _ h => h) (by rfl) ?hrkn17 hS ?_
  case hrkn17 => (intro w hSw; (try dsimp only at hSw); go_split_ands; go_simp; (try with_reducible rfl))
  (try simp only [Act.put, List.setIfInBounds_toArray, List.set_cons_zero, List.set_cons_succ])
  refine wpAnyH_done (by kernel_rfl) ?_ _
  refine NoPanic.normal ?_
  clear hS hS0 HQ1 HQ c12
  have K3 := nkey_any w1 R s oa oc ka kc (HN.out.1.below HB1.out) (p1, p2) (fun h2 => HN.out.2.1 _ HKN.out h2) HN.out.2.2
  dsimp only at K3
  go_wp2_with fail
  refine K3.mono ?_
  rintro ev w2 ⟨d, cd, rfl, hs2, hb2⟩
  have HE : Hid (NTells w w2 (.returned (.tuple #[.int .i64 (s.tell (p1, p2)).1, .slice d (s.tell (p1, p2)).2.1.length cd, .int .i64 (s.tell (p1, p2)).2.2])) (s.tell (p1, p2))) := ⟨d, cd, rfl, hs2, HB1.out.trans (hb2.mono HB1.out.size)⟩
  clear K3 hs2 hb2
  go_wp2
  go_ret3
  exact ⟨(p1, p2), HKN.out, HE.out⟩
end Go.Proofs.YtgncdnejmobjbaaGreatDoor
