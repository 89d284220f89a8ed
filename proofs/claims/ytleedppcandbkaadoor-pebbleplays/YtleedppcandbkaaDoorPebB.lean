/-
  What a nil pebble, and one that no call made, answers; what New refuses; what a pebble tells of itself.
-/
import Derived.Test.YtleedppcandbkaaDoorPebA
namespace Go.Proofs.YtleedppcandbkaaDoor
open Go.ChangeShapes Go.WideShapes Go.ChangeAt Go.RowKit

/-- A nil pebble, or one that no call made. -/
def NoP (w : World) (p : Value) : Prop := p = .pointer none ∨ ∃ g, p = .pointer (some ⟨g, 0, none⟩) ∧ w.cell? ⟨g, 0, none⟩ = some (.slice none 0 0)
theorem NoP.below {w w' : World} {p : Value} (h : NoP w p) (hb : Below w.heap.size w w') : NoP w' p := by
  rcases h with h | ⟨g, h, hc⟩
  · exact .inl h
  · exact .inr ⟨g, h, by rw [hb.cell (World.block_lt_of_cell? w _ hc)]; exact hc⟩
theorem made_no (w : World) (p : Value) (h : NoP w p) : Calls Tryd.prog 24 #[p] w fun e w' => e = .returned (.bool false) ∧ w' = w := by
  rcases h with rfl | ⟨g, rfl, hc⟩
  · go_enter Tryd.func24, Tryd.ntmps24
    go_wp2
    go_ret
    exact ⟨rfl, rfl⟩
  · go_enter Tryd.func24, Tryd.ntmps24
    go_wp2
    go_ret
    exact ⟨rfl, rfl⟩
theorem made_yes (w : World) (g : Nat) (cd : Option Addr) (cc : Nat) (hc : w.cell? ⟨g, 0, none⟩ = some (.slice cd 16 cc)) : Calls Tryd.prog 24 #[.pointer (some ⟨g, 0, none⟩)] w fun e w' => e = .returned (.bool true) ∧ w' = w := by
  go_enter Tryd.func24, Tryd.ntmps24
  go_wp2
  go_ret
  exact ⟨rfl, rfl⟩
theorem index_no (w : World) (p : Value) (h : NoP w p) : Calls Tryd.prog 11 #[p] w fun e w' => e = .returned (.int .i64 0) ∧ w' = w := by
  have hs := made_no w p h
  clear h
  go_enter Tryd.func11, Tryd.ntmps11
  go_wp2_with fail
  refine hs.mono ?_
  rintro e w1 ⟨rfl, rfl⟩
  go_wp2
  go_ret
  exact ⟨rfl, rfl⟩
theorem kept_no (w : World) (p : Value) (h : NoP w p) : Calls Tryd.prog 13 #[p] w fun e w' => e = .returned (.int .i64 0) ∧ w' = w := by
  have hs := made_no w p h
  clear h
  go_enter Tryd.func13, Tryd.ntmps13
  go_wp2_with fail
  refine hs.mono ?_
  rintro e w1 ⟨rfl, rfl⟩
  go_wp2
  go_ret
  exact ⟨rfl, rfl⟩
theorem steps_no (w : World) (p : Value) (h : NoP w p) : Calls Tryd.prog 15 #[p] w fun e w' => e = .returned (.int .i64 0) ∧ w' = w := by
  have hs := made_no w p h
  clear h
  go_enter Tryd.func15, Tryd.ntmps15
  go_wp2_with fail
  refine hs.mono ?_
  rintro e w1 ⟨rfl, rfl⟩
  go_wp2
  go_ret
  exact ⟨rfl, rfl⟩
theorem commit_no (w : World) (p : Value) (h : NoP w p) : Calls Tryd.prog 10 #[p] w fun e w' => e = .returned (.slice none 0 0) ∧ w' = w := by
  have hs := made_no w p h
  clear h
  go_enter Tryd.func10, Tryd.ntmps10
  go_wp2_with fail
  refine hs.mono ?_
  rintro e w1 ⟨rfl, rfl⟩
  go_wp2
  go_ret
  exact ⟨rfl, rfl⟩
theorem next_no (w : World) (p : Value) (h : NoP w p) : Calls Tryd.prog 12 #[p] w fun e w' => e = .returned (.tuple #[.slice none 0 0, .int .i64 7]) ∧ w' = w := by
  have hs := made_no w p h
  clear h
  go_enter Tryd.func12, Tryd.ntmps12
  go_wp2_with fail
  refine hs.mono ?_
  rintro e w1 ⟨rfl, rfl⟩
  go_wp2
  go_ret2
  exact ⟨rfl, rfl⟩
theorem new_no (w : World) (a : Option Addr) (ca : Nat) (seed : List UInt8) (n : Int) (hF : FTab w) (hT : KTab w) (ha : Sees w a ca seed) (h : ¬ (seed.length = 16 ∧ 1 ≤ n ∧ n ≤ 256)) :
    Calls Tryd.prog 8 #[.slice a seed.length ca, .int .i64 n] w fun e w' => e = .returned (.tuple #[.pointer none, .int .i64 1]) ∧ Below w.heap.size w w' := by
  have hk := keyc_any w a ca seed n n hF hT ha
  have hP : keyC seed n n = ([], 1) := by unfold keyC; rw [if_neg (fun h' => h ⟨h'.1, h'.2.1, h'.2.2.1⟩)]
  rw [hP] at hk
  clear hP h hF hT ha
  go_enter Tryd.func8, Tryd.ntmps8
  go_wp2_with fail
  refine hk.mono ?_
  rintro e w1 ⟨d, cd, rfl, _, hb⟩
  clear hk
  go_wp2
  go_ret2
  exact ⟨rfl, hb⟩

theorem index_ok (w : World) (g b cap : Nat) (cd : Option Addr) (cc : Nat) (key : List UInt8) (n told steps : Nat) (T : List Stone) (h : Peb w g b cap (.slice cd 16 cc) key n told steps T) :
    Calls Tryd.prog 11 #[.pointer (some ⟨g, 0, none⟩)] w fun e w' => e = .returned (.int .i64 (told : Int)) ∧ w' = w := by
  obtain ⟨c0, c1, _, _⟩ := h.cells
  have hs := made_yes w g cd cc c0
  clear h
  go_enter Tryd.func11, Tryd.ntmps11
  go_wp2_with fail
  refine hs.mono ?_
  rintro e w1 ⟨rfl, rfl⟩
  go_wp2
  go_ret
  exact ⟨rfl, rfl⟩
theorem kept_ok (w : World) (g b cap : Nat) (cd : Option Addr) (cc : Nat) (key : List UInt8) (n told steps : Nat) (T : List Stone) (h : Peb w g b cap (.slice cd 16 cc) key n told steps T) :
    Calls Tryd.prog 13 #[.pointer (some ⟨g, 0, none⟩)] w fun e w' => e = .returned (.int .i64 (T.length : Int)) ∧ w' = w := by
  obtain ⟨c0, _, _, c3⟩ := h.cells
  have hs := made_yes w g cd cc c0
  clear h
  go_enter Tryd.func13, Tryd.ntmps13
  go_wp2_with fail
  refine hs.mono ?_
  rintro e w1 ⟨rfl, rfl⟩
  go_wp2
  go_ret
  exact ⟨rfl, rfl⟩
theorem steps_ok (w : World) (g b cap : Nat) (cd : Option Addr) (cc : Nat) (key : List UInt8) (n told steps : Nat) (T : List Stone) (h : Peb w g b cap (.slice cd 16 cc) key n told steps T) :
    Calls Tryd.prog 15 #[.pointer (some ⟨g, 0, none⟩)] w fun e w' => e = .returned (.int .i64 (steps : Int)) ∧ w' = w := by
  obtain ⟨c0, _, c2, _⟩ := h.cells
  have hs := made_yes w g cd cc c0
  clear h
  go_enter Tryd.func15, Tryd.ntmps15
  go_wp2_with fail
  refine hs.mono ?_
  rintro e w1 ⟨rfl, rfl⟩
  go_wp2
  go_ret
  exact ⟨rfl, rfl⟩
theorem commit_ok (w : World) (g b cap : Nat) (cd : Option Addr) (cc : Nat) (key com : List UInt8) (n told steps : Nat) (T : List Stone) (h : Peb w g b cap (.slice cd 16 cc) key n told steps T) (hs : Sees w cd cc com) (hl : com.length = 16) :
    Calls Tryd.prog 10 #[.pointer (some ⟨g, 0, none⟩)] w fun e w' => ∃ d c, e = .returned (.slice d 16 c) ∧ Sees w' d c com ∧ Below w.heap.size w w' := by
  obtain ⟨c0, _, _, _⟩ := h.cells
  have hm := made_yes w g cd cc c0
  have hcl := clone_any w cd cc com hs (by omega)
  rw [hl] at hcl
  clear h hs hl
  go_enter Tryd.func10, Tryd.ntmps10
  go_wp2_with fail
  refine hm.mono ?_
  rintro e w1 ⟨rfl, rfl⟩
  go_wp2_with fail
  refine hcl.mono ?_
  rintro e w2 ⟨d1, c1, rfl, hs1, hb1⟩
  clear hcl
  go_wp2
  go_ret
  exact ⟨d1, c1, rfl, hs1, hb1⟩

set_option maxHeartbeats 1600000 in
set_option maxRecDepth 20000 in
theorem zero_walk (w : World) (a : Option Addr) (ca : Nat) (seed : List UInt8) (hF : FTab w) (hT : KTab w) (ha : Sees w a ca seed) : Calls Tryd.prog 6 #[.slice a seed.length ca] w fun e w' => e = .returned (.bool true) ∧ Below w.heap.size w w' := by
  obtain ⟨W, hW⟩ : ∃ W, W = w.alloc (.cells #[.slice none 0 0, .int .i64 0, .int .i64 0, .slice none 0 0] 41) := ⟨_, rfl⟩
  have hb : Below w.heap.size w W := by rw [hW]; exact (Below.refl _ _).alloc (Nat.le_refl _) _
  have hN : NoP W (.pointer none) := .inl rfl
  have hG : NoP W (.pointer (some ⟨w.heap.size, 0, none⟩)) := .inr ⟨_, rfl, by rw [hW]; exact cell_of_row _ _ 0 _ _ _ (heap_alloc_new w _)⟩
  have hn := new_no W a ca seed 0 (hF.below hb) (hT.below hb) (ha.below hb) (by omega)
  clear ha hF hT
  go_enter Tryd.func6, Tryd.ntmps6
  go_wp2_with fail
  rw [← hW]
  clear hW
  refine (next_no W _ hN).mono ?_
  rintro e w1 ⟨rfl, rfl⟩
  go_wp2_with fail
  refine (next_no w1 _ hG).mono ?_
  rintro e w2 ⟨rfl, rfl⟩
  go_wp2_with fail
  refine hn.mono ?_
  rintro e w3 ⟨rfl, b1⟩
  replace hb := hb.trans (b1.mono hb.size)
  replace hN := hN.below b1
  replace hG := hG.below b1
  clear b1 hn
  go_wp2_with fail
  refine (index_no w3 _ hN).mono ?_
  rintro e w4 ⟨rfl, rfl⟩
  go_wp2_with fail
  refine (kept_no w4 _ hG).mono ?_
  rintro e w5 ⟨rfl, rfl⟩
  go_wp2_with fail
  refine (steps_no w5 _ hN).mono ?_
  rintro e w6 ⟨rfl, rfl⟩
  go_wp2_with fail
  refine (commit_no w6 _ hG).mono ?_
  rintro e w7 ⟨rfl, rfl⟩
  go_wp2
  go_ret
  exact ⟨rfl, hb⟩
end Go.Proofs.YtleedppcandbkaaDoor
