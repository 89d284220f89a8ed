/-
  The walk of ShaRoots.
-/
import Derived.Test.YtonfjldfalnalaaDoorRootP
import Derived.Test.YtonfjldfalnalaaDoorBlocksW
namespace Go.Proofs.YtonfjldfalnalaaDoor
open Go.ChangeShapes Go.WideShapes Go.ChangeAt Go.RowKit

theorem words_eight (w : World) (a b : Option Addr) (ca cb : Nat) (ha : Words w a ca start.list) (hb : Words w b cb start.list) :
    Calls Tryd.prog 14 #[.slice a 8 ca, .slice b 8 cb] w fun e w' => e = .returned (.bool true) ∧ ∃ m, w' = w.drewN m := words_same w a b ca cb start.list ha hb

set_option maxHeartbeats 4000000 in
set_option maxRecDepth 20000 in
theorem roots_walk (y : Int) (w : World) (hTab : FTab w ∧ KTab w) (wy : (Lit.int .u8 y).wf = true) :
    Calls Tryd.prog 5 #[.int .u8 y] w fun e w' => e = .returned (.bool true) ∧ Below w.heap.size w w' := by
  obtain ⟨n, rfl, hn⟩ : ∃ n : Nat, y = n ∧ n < 256 := ⟨y.toNat, by have := bounds_u8 wy; omega, by have := bounds_u8 wy; omega⟩
  have HF : Hid (FTab w) := hTab.1
  have HK : Hid (KTab w) := hTab.2
  have hro := rounds_any w
  clear hTab wy
  go_enter Tryd.func5, Tryd.ntmps5
  go_wp2_with fail
  refine hro.mono ?_
  rintro e w1 ⟨a, cap, rfl, hW1, hb1⟩
  have htab := table_any w1
  clear hro
  go_wp2_with fail
  refine htab.mono ?_
  rintro e w2 ⟨rfl, hb2⟩
  clear htab
  obtain ⟨C, hC⟩ : ∃ C, C = (kTab.map wcell).toArray := ⟨_, rfl⟩
  rw [← hC]
  have hst := storeAt_row (P := Tryd.prog) (w2.alloc (.cells ((List.replicate 64 0).map wcell).toArray 39)) w2.heap.size 39 39 _ C (heap_alloc_new w2 _) (by rw [hC]; kernel_rfl) (by rw [hC]; rfl) (by rw [hC]; exact words_one _)
  obtain ⟨w3, hw3⟩ : ∃ w3, w3 = (w2.alloc (.cells ((List.replicate 64 0).map wcell).toArray 39)).setRow w2.heap.size C := ⟨_, rfl⟩
  have hrow3 : w3.heap[w2.heap.size]? = some (.cells (kTab.map wcell).toArray 39 (0, 0)) := by rw [hw3, ← hC]; exact setRow_heap _ _ _ C 39 _ (heap_alloc_new w2 _)
  have hbel3 : Below w2.heap.size w2 w3 := by rw [hw3]; exact below_setRow ((Below.refl _ _).alloc (Nat.le_refl _) _) (Nat.le_refl _) C
  rw [← hw3] at hst
  have HST : Hid ((Instr.storeAt 39 (.pointer (some ⟨w2.heap.size, 0, none⟩)) (.agg C)).run Tryd.prog (w2.alloc (.cells ((List.replicate 64 0).map wcell).toArray 39)) = .ok () w3) := hst
  have hb3 : Below w.heap.size w w3 := (hb1.trans (hb2.mono hb1.size)).trans (hbel3.mono (Nat.le_trans hb1.size hb2.size))
  have hW3 := (hW1.below hb2).below hbel3
  obtain ⟨i, hi⟩ : ∃ i, i = n % 64 := ⟨_, rfl⟩
  have hi64 : i < 64 := by omega
  have en : (n : Int) % 64 = (i : Int) := by omega
  have et : (n : Int).tmod 64 = (i : Int) := by rw [Int.tmod_eq_emod_of_nonneg (by omega)]; exact en
  obtain ⟨x, hx⟩ : ∃ x, kTab[i]? = some x := ⟨kTab.getD i 0, getD_of (by rw [kTab_length]; exact hi64)⟩
  obtain ⟨kb, ko, rfl, hck⟩ := hW3.get hx
  have hct : w3.cell? ⟨w2.heap.size, i, none⟩ = some (.int .u32 (x : Int)) := cell_words hrow3 hx
  obtain ⟨G, hG⟩ : ∃ G, G = w2.heap.size := ⟨_, rfl⟩
  have HKeep : Hid (∀ w', Below w3.heap.size w3 w' → w'.cell? ⟨kb, ko + i, none⟩ = some (.int .u32 (x : Int)) ∧ w'.cell? ⟨G, i, none⟩ = some (.int .u32 (x : Int))) := fun w' hb => by
    rw [hG]
    exact ⟨by rw [hb.cell (p := ⟨kb, ko + i, none⟩) (World.block_lt_of_cell? w3 _ hck)]; exact hck, by rw [hb.cell (p := ⟨w2.heap.size, i, none⟩) (World.block_lt_of_cell? w3 _ hct)]; exact hct⟩
  have H17 : Hid (∀ W, Below w3.heap.size w3 W → Calls Tryd.prog 17 #[] W fun e w' => ∃ a1, e = .returned (.slice a1 8 8) ∧ Words w' a1 8 start.list ∧ Below w3.heap.size w3 w') := fun W hW =>
    (start_any W (HF.out.below (hb3.trans (hW.mono hb3.size)))).mono fun e w' ⟨he, hw, hb⟩ => ⟨_, he, hw, hW.trans (hb.mono hW.size)⟩
  have H18 : Hid (∀ W a1, Words W a1 8 start.list → Below w3.heap.size w3 W → Calls Tryd.prog 18 #[] W fun e w' => ∃ a2 c2, e = .returned (.slice a2 8 c2) ∧ Words w' a1 8 start.list ∧ Words w' a2 c2 start.list ∧ Below w3.heap.size w3 w') := fun W a1 h1 hW =>
    (rstart_any W).mono fun e w' ⟨a2, c2, he, hw, hb⟩ => ⟨a2, c2, he, h1.below hb, hw, hW.trans (hb.mono hW.size)⟩
  have H14 : Hid (∀ W a1 a2 c2, Words W a1 8 start.list → Words W a2 c2 start.list → Below w3.heap.size w3 W → Calls Tryd.prog 14 #[.slice a1 8 8, .slice a2 8 c2] W fun e w' => e = .returned (.bool true) ∧ Below w3.heap.size w3 w') := fun W a1 a2 c2 h1 h2 hW =>
    (words_eight W a1 a2 8 c2 h1 h2).mono fun e w' ⟨he, m, hm⟩ => ⟨he, by rw [hm]; exact below_drewN hW m⟩
  have H9 : Hid (∀ W, Below w3.heap.size w3 W → Calls Tryd.prog 9 #[] W fun e w' => e = .returned (.bool true) ∧ Below w3.heap.size w3 w') := fun W hW =>
    (awake_any W (HF.out.below (hb3.trans (hW.mono hb3.size))) (HK.out.below (hb3.trans (hW.mono hb3.size)))).mono fun e w' ⟨he, hb⟩ => ⟨he, hW.trans (hb.mono hW.size)⟩
  have HB3 : Hid (Below w.heap.size w w3) := hb3
  have g0 : (0 : Int) ≤ (i : Int) := Int.natCast_nonneg _
  have g1 : (i : Int) < 64 := by omega
  clear hst hw3 hrow3 hbel3 hC hW3 hW1 hb1 hb2 hb3 hx hi
  go_wp2_with (refine wpList_store_run rfl 39 _ _ rfl _ _ rfl rfl HST.out ?_)
  rw [← hG] at hct ⊢
  clear HST hG
  go_region_held3 (fun w' => w'.cell? ⟨kb, ko + i, none⟩ = some (.int .u32 (x : Int)) ∧ w'.cell? ⟨G, i, none⟩ = some (.int .u32 (x : Int)))
    (first
      | go_keep
      | (refine HKeep.out _ ?_; (first | with_reducible exact hb9 | with_reducible exact hb14 | with_reducible exact hb18 | with_reducible exact hb17 | exact (Below.refl _ _).drew)))
    (first
      | (go_at_call 17; refine (H17.out _ ?_).mono ?_; (focus (first | with_reducible exact (Below.refl _ _).drew | exact Below.refl _ _)); rintro e w17 ⟨a1, rfl, hWa, hb17⟩)
      | (go_at_call 18; refine (H18.out _ a1 ?_ ?_).mono ?_; (focus (with_reducible exact hWa)); (focus (with_reducible exact hb17)); rintro e w18 ⟨a2, c2, rfl, hWa2, hWb2, hb18⟩)
      | (go_at_call 14; refine (H14.out _ a1 a2 c2 ?_ ?_ ?_).mono ?_; (focus (with_reducible exact hWa2)); (focus (with_reducible exact hWb2)); (focus (with_reducible exact hb18)); rintro e w14 ⟨rfl, hb14⟩)
      | (go_at_call 9; refine (H9.out _ ?_).mono ?_; (focus (with_reducible exact hb14)); rintro e w9 ⟨rfl, hb9⟩))
  all_goals
    go_wp2
    go_ret
    exact ⟨rfl, HB3.out.trans (hb9.mono HB3.out.size)⟩
end Go.Proofs.YtonfjldfalnalaaDoor
