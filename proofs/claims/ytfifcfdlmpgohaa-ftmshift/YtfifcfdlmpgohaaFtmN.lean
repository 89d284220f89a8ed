/-
  Two lists that are the same; the program computes at all. The program's contracts are a premise here.
-/
import Derived.Test.YtfifcfdlmpgohaaFtmC
namespace Go.Proofs.Ytfifcfdlmpgohaa
open Go.ChangeShapes Go.WideShapes Go.ChangeAt Go.RowKit
set_option maxRecDepth 20000

/-- What the program's five calls answer. -/
structure FtmP : Prop where
  trim : ∀ (w : World) (a : Option Addr) (c : Nat) (l : List Int) (f : Int), l.length ≤ 900 → l.length ≤ c → LsO w a l → Calls Try.prog 8 #[.slice a l.length c, .int .i64 f] w (TrP w l f)
  mid : ∀ (w : World) (a : Option Addr) (c : Nat) (l : List Int) (f : Int), l.length ≤ 900 → l.length ≤ c → LsO w a l → Calls Try.prog 10 #[.slice a l.length c, .int .i64 f] w fun e w' => e = .returned (.tuple #[.int .i64 (miV l f), .int .i64 (trE l f)]) ∧ Below w.heap.size w w'
  pts : ∀ (w : World) (a : Option Addr) (c : Nat) (x : List (Int × Int)), x.length ≤ 900 → Ivals w a c x → Calls Try.prog 15 #[.slice a x.length c] w (PtP w x)
  cor : ∀ (w : World) (a : Option Addr) (c : Nat) (x : List (Int × Int)) (f most : Int), x.length ≤ 900 → Ivals w a c x → (Lit.int .i64 most).wf = true → Calls Try.prog 12 #[.slice a x.length c, .int .i64 f, .int .i64 most] w fun e w' => e = .returned (.tuple #[.int .i64 (coV x f most), .int .i64 (trE (ptV x) f)]) ∧ Below w.heap.size w w'
  cla : ∀ (w : World) (n most : Int), (Lit.int .i64 n).wf = true → (Lit.int .i64 most).wf = true → Calls Try.prog 17 #[.int .i64 n, .int .i64 most] w fun e w' => e = .returned (.int .i64 (clV n most)) ∧ Below w.heap.size w w'

set_option maxHeartbeats 4000000 in
theorem numbers_ok (w : World) (a b : Option Addr) (ca cb : Nat) (L : List Int) (hl : L.length ≤ 900) (h1 : LsO w a L) (h2 : LsO w b L) :
    Calls Try.prog 14 #[.slice a L.length ca, .slice b L.length cb] w fun e w' => e = .returned (.bool true) ∧ Below w.heap.size w w' := by
  have HL : Hid (LsO w a L ∧ LsO w b L) := ⟨h1, h2⟩
  clear h1 h2
  go_enter Try.func14, Try.ntmps14
  go_wp2
  go_loopw [5] (fun u wr => ∃ j : Nat, j ≤ L.length ∧ u = .int .i64 (j : Int) ∧ Below w.heap.size w wr) (fun u _ => L.length - (intOf u).toNat)
  case atStart => exact ⟨0, Nat.zero_le _, rfl, Below.refl _ _⟩
  case round =>
    obtain ⟨j, hj, rfl, hb⟩ := hrel
    have gj : (0 : Int) ≤ (j : Int) := Int.natCast_nonneg _
    by_cases hlt : (j : Int) < (L.length : Int)
    · obtain ⟨x, hx⟩ : ∃ x, L[j]? = some x := ⟨_, List.getElem?_eq_getElem (by omega)⟩
      have e9 : IntKind.i64.wrap ((j : Int) + 1) = ((j + 1 : Nat) : Int) := by rw [wrap_in (by omega) (by omega)]; omega
      obtain ⟨ab, ao, rfl, k1⟩ := HL.out.1.below hb.drew j x hx
      obtain ⟨bb, bo, rfl, k2⟩ := HL.out.2.below hb.drew j x hx
      have hS0 : wr.drew.cell? ⟨ab, ao + j, none⟩ = some (.int .i64 x) ∧ wr.drew.cell? ⟨bb, bo + j, none⟩ = some (.int .i64 x) := ⟨k1, k2⟩
      have HJ : Hid (j < L.length ∧ Below w.heap.size w wr.drew) := ⟨by omega, hb.drew⟩
      clear k1 k2 hx hb hj
      go_upto_region 6 with fail
      refine wp_region_noPanic ?_
      refine wp_region_held (S := fun V => V.cell? ⟨ab, ao + j, none⟩ = some (.int .i64 x) ∧ V.cell? ⟨bb, bo + j, none⟩ = some (.int .i64 x)) (by kernel_rfl) ?_
      have hS := hS0
      refine any_take 0 ?vran1 rfl (by kernel_rfl) (by kernel_rfl) (by kernel_rfl) (fun _ _ _ h => h) (by rfl) ?hran1 hS ?_
      case hran1 => (intro w hSw; (try dsimp only at hSw); go_split_ands; go_simp; (try with_reducible rfl))
      (try simp only [Act.put, List.setIfInBounds_toArray, List.set_cons_zero, List.set_cons_succ])
      refine any_take 1 ?vran2 rfl (by kernel_rfl) (by kernel_rfl) (by kernel_rfl) (fun _ _ _ h => h) (by rfl) ?hran2 hS ?_
      case hran2 => (intro w hSw; (try dsimp only at hSw); go_split_ands; go_simp; (try with_reducible rfl))
      (try simp only [Act.put, List.setIfInBounds_toArray, List.set_cons_zero, List.set_cons_succ])
      refine any_take 2 ?vran3 rfl (by kernel_rfl) (by kernel_rfl) (by kernel_rfl) (fun _ _ _ h => h) (by rfl) ?hran3 hS ?_
      case hran3 => (intro w hSw; (try dsimp only at hSw); go_split_ands; go_simp; (try with_reducible rfl))
      (try simp only [Act.put, List.setIfInBounds_toArray, List.set_cons_zero, List.set_cons_succ])
      refine any_take 3 ?vran4 rfl (by kernel_rfl) (by kernel_rfl) (by kernel_rfl) (fun _ _ _ h => h) (by rfl) ?hran4 hS ?_
      case hran4 => (intro w hSw; (try dsimp only at hSw); go_split_ands; go_simp; (try with_reducible rfl))
      (try simp only [Act.put, List.setIfInBounds_toArray, List.set_cons_zero, List.set_cons_succ])
      refine any_take 4 ?vran5 rfl (by kernel_rfl) (by kernel_rfl) (by kernel_rfl) (fun _ _ _ h => h) (by rfl) ?hran5 hS ?_
      case hran5 => (intro w hSw; (try dsimp only at hSw); go_split_ands; go_simp; (try with_reducible rfl))
      (try simp only [Act.put, List.setIfInBounds_toArray, List.set_cons_zero, List.set_cons_succ])
      refine any_take 5 ?vran6 rfl (by kernel_rfl) (by kernel_rfl) (by kernel_rfl) (fun _ _ _ h => h) (by rfl) ?hran6 hS ?_
      case hran6 => (intro w hSw; (try dsimp only at hSw); go_split_ands; go_simp; (try with_reducible rfl))
      (try simp only [Act.put, List.setIfInBounds_toArray, List.set_cons_zero, List.set_cons_succ])
      refine any_take 6 ?vran7 rfl (by kernel_rfl) (by kernel_rfl) (by kernel_rfl) (fun _ _ _ h => h) (by rfl) ?hran7 hS ?_
      case hran7 => (intro w hSw; (try dsimp only at hSw); go_split_ands; go_simp; (try with_reducible rfl))
      (try simp only [Act.put, List.setIfInBounds_toArray, List.set_cons_zero, List.set_cons_succ])
      refine any_take 7 ?vran8 rfl (by kernel_rfl) (by kernel_rfl) (by kernel_rfl) (fun _ _ _ h => h) (by rfl) ?hran8 hS ?_
      case hran8 => (intro w hSw; (try dsimp only at hSw); go_split_ands; go_simp; (try with_reducible rfl))
      (try simp only [Act.put, List.setIfInBounds_toArray, List.set_cons_zero, List.set_cons_succ])
      refine any_take 8 (Value.bool false) rfl (by kernel_rfl) (by kernel_rfl) (by kernel_rfl) (fun _ _ _ h => h) (by rfl) (by intro w hSw; (try dsimp only at hSw); go_split_ands; go_simp) hS ?_
      (try simp only [Act.put, List.setIfInBounds_toArray, List.set_cons_zero, List.set_cons_succ])
      refine wpAnyH_done (by kernel_rfl) ?_ _
      refine NoPanic.normal ?_
      clear hS hS0
      go_wp2
      go_roundw
      case rel => exact ⟨j + 1, HJ.out.1, rfl, HJ.out.2⟩
      case measure => have := HJ.out.1; simp [intOf]; omega
    · have HB : Hid (Below w.heap.size w wr) := hb
      clear hb hj
      go_wp2
      go_ret
      exact ⟨rfl, HB.out⟩

theorem mk5 (W : World) : (Instr.buildSlice 22 5 #[(0, .int .i64 (-100)), (1, .int .i64 0), (2, .int .i64 4), (3, .int .i64 6), (4, .int .i64 900)]).run Try.prog W = .ok (.slice (some ⟨W.heap.size, 0, none⟩) 5 5) (W.alloc (.cells #[.int .i64 (-100), .int .i64 0, .int .i64 4, .int .i64 6, .int .i64 900] 2)) := by kernel_rfl
theorem mk5_ls (W : World) : LsO (W.alloc (.cells #[.int .i64 (-100), .int .i64 0, .int .i64 4, .int .i64 6, .int .i64 900] 2)) (some ⟨W.heap.size, 0, none⟩) [-100, 0, 4, 6, 900] := fun j x hx => by
  refine ⟨W.heap.size, 0, rfl, ?_⟩
  rw [cell_of_row _ W.heap.size (0 + j) _ 2 (0, 0) (heap_alloc_new W _)]
  match j, hx with
  | 0, hx => cases hx; rfl
  | 1, hx => cases hx; rfl
  | 2, hx => cases hx; rfl
  | 3, hx => cases hx; rfl
  | 4, hx => cases hx; rfl
  | j + 5, hx => simp at hx

set_option maxHeartbeats 4000000 in
theorem awake_ok (H : FtmP) (w : World) : Calls Try.prog 7 #[] w fun e w' => e = .returned (.bool true) ∧ Below w.heap.size w w' := by
  have K := H.mid (w.alloc (.cells #[.int .i64 (-100), .int .i64 0, .int .i64 4, .int .i64 6, .int .i64 900] 2)) (some ⟨w.heap.size, 0, none⟩) 5 [-100, 0, 4, 6, 900] 1 (by decide) (by decide) (mk5_ls w)
  rw [mi_example.1, mi_example.2] at K
  have hb := Go.Joins.below_alloc1 w (.cells #[.int .i64 (-100), .int .i64 0, .int .i64 4, .int .i64 6, .int .i64 900] 2)
  have HB : Hid (Below w.heap.size w (w.alloc (.cells #[.int .i64 (-100), .int .i64 0, .int .i64 4, .int .i64 6, .int .i64 900] 2))) := hb
  clear hb
  go_enter Try.func7, Try.ntmps7
  go_wp2_with (first | (refine wpList_mk_run rfl 22 5 _ rfl [(0, .int .i64 (-100)), (1, .int .i64 0), (2, .int .i64 4), (3, .int .i64 6), (4, .int .i64 900)] _ rfl (mk5 w) ?_) | fail)
  refine K.mono ?_
  rintro e w2 ⟨rfl, hb2⟩
  have HB2 : Hid (Below w.heap.size w w2) := HB.out.trans (hb2.mono HB.out.size)
  clear K HB hb2
  go_wp2
  go_ret
  exact ⟨rfl, HB2.out⟩
end Go.Proofs.Ytfifcfdlmpgohaa
