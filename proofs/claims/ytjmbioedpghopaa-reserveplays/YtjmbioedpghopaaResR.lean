/-
  The document's reserve: in memory; its save.
-/
import Derived.Test.YtjmbioedpghopaaResP
namespace Go.Proofs.Ytjmbioedpghopaa
open Go.ChangeShapes Go.WideShapes Go.ChangeAt Go.RowKit

/-- Block V holds a reserve of the document's upon its bank v. -/
def RRC (w : World) (V v : Nat) (u : VS) : Prop := w.heap[V]? = some (.cells #[.pointer (some ⟨v, 0, none⟩), .int .i64 (u.blk : Int), .int .i64 (u.inc : Int), .int .i64 (u.mark : Int), .int .i64 (u.least : Int), .bool u.over] 49 (0, 0))
theorem RRC.c0 {w : World} {V v : Nat} {u : VS} (h : RRC w V v u) : w.cell? ⟨V, 0, none⟩ = some (.pointer (some ⟨v, 0, none⟩)) := cell_of_row _ _ 0 _ _ _ h
theorem RRC.c1 {w : World} {V v : Nat} {u : VS} (h : RRC w V v u) : w.cell? ⟨V, 1, none⟩ = some (.int .i64 (u.blk : Int)) := cell_of_row _ _ 1 _ _ _ h
theorem RRC.c2 {w : World} {V v : Nat} {u : VS} (h : RRC w V v u) : w.cell? ⟨V, 2, none⟩ = some (.int .i64 (u.inc : Int)) := cell_of_row _ _ 2 _ _ _ h
theorem RRC.c3 {w : World} {V v : Nat} {u : VS} (h : RRC w V v u) : w.cell? ⟨V, 3, none⟩ = some (.int .i64 (u.mark : Int)) := cell_of_row _ _ 3 _ _ _ h
theorem RRC.c4 {w : World} {V v : Nat} {u : VS} (h : RRC w V v u) : w.cell? ⟨V, 4, none⟩ = some (.int .i64 (u.least : Int)) := cell_of_row _ _ 4 _ _ _ h
theorem RRC.c5 {w : World} {V v : Nat} {u : VS} (h : RRC w V v u) : w.cell? ⟨V, 5, none⟩ = some (.bool u.over) := cell_of_row _ _ 5 _ _ _ h
theorem RRC.fz {w : World} {V v : Nat} {u : VS} (h : RRC w V v u) (i : Nat) : w.frozen? ⟨V, i, none⟩ = false := frozen_of_row _ _ i _ _ h
theorem RRC.lt {w : World} {V v : Nat} {u : VS} (h : RRC w V v u) : V < w.heap.size := (Array.getElem?_eq_some_iff.1 h).1
theorem RRC.below {w w' : World} {V v : Nat} {u : VS} (h : RRC w V v u) (hb : Below w.heap.size w w') : RRC w' V v u := by
  show w'.heap[V]? = _
  rw [hb.block V h.lt]; exact h
theorem RRC.setOver {w : World} {V v : Nat} {u : VS} (h : RRC w V v u) : RRC (w.setCell ⟨V, 5, none⟩ (.bool true)) V v { u with over := true } := by
  show (w.setCell ⟨V, 5, none⟩ (.bool true)).heap[V]? = _
  rw [heap_setCell_same _ _ _ _ _ _ h]; rfl
theorem RRC.setLeast {w : World} {V v : Nat} {u : VS} (h : RRC w V v u) (n : Nat) : RRC (w.setCell ⟨V, 4, none⟩ (.int .i64 (n : Int))) V v { u with least := n } := by
  show (w.setCell ⟨V, 4, none⟩ (.int .i64 (n : Int))).heap[V]? = _
  rw [heap_setCell_same _ _ _ _ _ _ h]; rfl
theorem RRC.setRec {w : World} {V v : Nat} {u : VS} (h : RRC w V v u) (i m : Nat) : RRC ((w.setCell ⟨V, 2, none⟩ (.int .i64 (i : Int))).setCell ⟨V, 3, none⟩ (.int .i64 (m : Int))) V v { u with inc := i, mark := m } := by
  have h1 : (w.setCell ⟨V, 2, none⟩ (.int .i64 (i : Int))).heap[V]? = some (.cells #[.pointer (some ⟨v, 0, none⟩), .int .i64 (u.blk : Int), .int .i64 (i : Int), .int .i64 (u.mark : Int), .int .i64 (u.least : Int), .bool u.over] 49 (0, 0)) := by rw [heap_setCell_same _ _ _ _ _ _ h]; rfl
  show ((w.setCell ⟨V, 2, none⟩ (.int .i64 (i : Int))).setCell ⟨V, 3, none⟩ (.int .i64 (m : Int))).heap[V]? = _
  rw [heap_setCell_same _ _ _ _ _ _ h1]; rfl

theorem refput3 (w : World) (q x y : Nat) (h : Three 56 w q x y 0) (hx : x < 4294967296) (hy : y < 4294967296) : Calls Try.prog 55 #[.slice none 0 0, .slice (some ⟨q, 0, none⟩) 3 3] w fun e w' => ∃ d cd, e = .returned (.slice d 12 cd) ∧ Sees w' d cd (recL x y) ∧ True ∧ Below w.heap.size w w' := by
  have hp : Calls Try.prog 55 #[.slice none 0 0, .slice (some ⟨q, 0, none⟩) 3 3] w _ := refput_any w none (some ⟨q, 0, none⟩) 0 3 [] [x, y, 0] (Sees.nil' w) (three_words h hx hy) (by simp) (by simp)
  refine hp.mono ?_
  rintro e w' ⟨d, cd, r, hr, rfl, hs, hb⟩
  have er : r = recL x y := hr.out
  subst er
  exact ⟨d, cd, by rw [recL_len], hs, trivial, hb⟩

/-- What a save of the document's leaves. -/
def RSaved (w : World) (G : Nat → Prop) (V v r A : Nat) (T : RS) (u : VS) (w' : World) : Prop :=
  ∃ G1, RF w' r T G1 ∧ RBA w' v r A 12 ∧ RRC w' V v u ∧ Apart (fun k => G k ∨ k = V) w w' ∧ ∀ k, G1 k → G k ∨ w.heap.size ≤ k
theorem RSaved.of {w W w7 X : World} {G : Nat → Prop} {V v r A : Nat} {T : RS} {u' : VS} (hb : Below w.heap.size w W) (hl : Left RF W G r T w7) (hba : RBA w7 v r A 12) (hGV : ¬ G V) (hvV : v ≠ V) (hV : V < w.heap.size) (hX : Apart (fun k => k = V) w7 X) (hrc : RRC X V v u') : RSaved w G V v r A T u' X := by
  obtain ⟨G1, hp, ha, hf⟩ := hl
  have hsz := hb.size
  have hV1 : ¬ G1 V := fun h => by
    rcases hf V h with h1 | h1
    · exact hGV h1
    · omega
  refine ⟨G1, rf_kept.keep hp fun k hk => hX.block k (rf_kept.lt hp k hk) fun e => hV1 (e ▸ hk), ?_, hrc, ?_, fun k hk => ?_⟩
  · show X.heap[v]? = _
    rw [hX.block v hba.lt hvV]; exact hba
  · have h1 : Apart (fun k => G k ∨ k = V) w w7 := (Apart.of_below (F := fun k => G k ∨ k = V) hb).trans (ha.mono (G := fun k => G k ∨ k = V) fun k hk => .inl hk) (fun k hk => .inl hk)
    exact h1.trans hX fun k hk => .inl (.inr hk)
  · rcases hf k hk with h1 | h1
    · exact .inl h1
    · exact .inr (by omega)

theorem rrsave_over (w : World) (V v : Nat) (u : VS) (hr : RRC w V v u) (ho : u.over = true) (x y : Int) :
    Calls Try.prog 39 #[.pointer (some ⟨V, 0, none⟩), .int .i64 x, .int .i64 y] w fun e w' => e = .returned (.int .i64 9) ∧ w' = w := by
  have c5 := hr.c5
  rw [ho] at c5
  clear hr ho
  go_enter Try.func39, Try.ntmps39
  go_wp2
  go_ret
  exact ⟨rfl, rfl⟩

set_option maxHeartbeats 1600000 in
set_option maxRecDepth 20000 in
theorem rrsave_new (w : World) (V v r A : Nat) (t : RS) (G : Nat → Prop) (u : VS) (hk : RK w v r A 12 t G) (hGv : ¬ G v) (hGV : ¬ G V) (hvV : v ≠ V) (hr : RRC w V v u) (ho : u.over = false) (hn : t.n ≤ 999990) (x y : Nat) (hx : x < 4294967296) (hy : y < 4294967296)
    (E : Nat) (hE : E = rsaveE t A 12 (recL x y)) (T : RS) (hT : T = rsaveT t A 12 (recL x y)) (u' : VS) (hu' : u' = if E = 0 then { u with inc := x, mark := y } else { u with over := true }) :
    Calls Try.prog 39 #[.pointer (some ⟨V, 0, none⟩), .int .i64 (x : Int), .int .i64 (y : Int)] w fun e w' => e = .returned (.int .i64 (E : Int)) ∧ RSaved w G V v r A T u' w' := by
  have c5 := hr.c5
  rw [ho] at c5
  have c0 := hr.c0
  have K54 : Hid (∀ X, Below w.heap.size w X → ∀ W d cd, Below X.heap.size X W → Sees W d cd (recL x y) → Calls Try.prog 54 #[.pointer (some ⟨v, 0, none⟩), .slice d 12 cd] W fun e w' => e = .returned (.int .i64 (E : Int)) ∧ Hid (Left RF W G r T w' ∧ RBA w' v r A 12) ∧ RRC w' V v u) := fun X hX W d cd hW hd => by
    have hb := hX.trans (hW.mono hX.size)
    have := rsave_ok W v r A 12 t G (hk.below hb) hGv hn d cd (recL x y) hd E hE T hT
    rw [recL_len] at this
    refine this.mono ?_
    rintro e w' ⟨rfl, hl⟩
    refine ⟨rfl, ⟨hl, hl.rba (hk.bk.below hb) hGv⟩, ?_⟩
    obtain ⟨F', _, ha, _⟩ := hl
    show w'.heap[V]? = _
    rw [ha.block V (hr.below hb).lt hGV]; exact hr.below hb
  have K55 : Hid (∀ X, Below w.heap.size w X → ∀ q, Three 56 X q x y 0 → Calls Try.prog 55 #[.slice none 0 0, .slice (some ⟨q, 0, none⟩) 3 3] X fun e w' => ∃ d cd, e = .returned (.slice d 12 cd) ∧ Sees w' d cd (recL x y) ∧ True ∧ Below X.heap.size X w') := fun X _ q h3 => refput3 X q x y h3 hx hy
  have HU : Hid (u' = if E = 0 then { u with inc := x, mark := y } else { u with over := true }) := hu'
  have HR : Hid (RRC w V v u) := hr
  have HNF : Hid (¬ G V ∧ v ≠ V) := ⟨hGV, hvV⟩
  have wx : IntKind.u32.wrap (x : Int) = (x : Int) := by rw [IntKind.wrap_u32]; omega
  have wy : IntKind.u32.wrap (y : Int) = (y : Int) := by rw [IntKind.wrap_u32]; omega
  clear hr ho hk hE hT hu' hn hGv hGV hvV
  go_enter Try.func39, Try.ntmps39
  go_upto_region 3 with fail
  refine wp_region_noPanic ?_
  refine wp_region_held (S := fun W => W.cell? ⟨V, 0, none⟩ = some (.pointer (some ⟨v, 0, none⟩))) (by kernel_rfl) ?_
  have hS := (show (fun W => W.cell? ⟨V, 0, none⟩ = some (.pointer (some ⟨v, 0, none⟩))) w.drew from c0)
  refine any_take 0 ?vrrn1 rfl (by kernel_rfl) (by kernel_rfl) (by kernel_rfl) (fun _ _ _ h => h) (by rfl) ?hrrn1 hS ?_
  case hrrn1 => (intro w hSw; (try dsimp only at hSw); go_split_ands; go_simp; (try with_reducible rfl))
  (try simp only [Act.put, List.setIfInBounds_toArray, List.set_cons_zero, List.set_cons_succ])
  refine any_take 1 ?vrrn2 rfl (by kernel_rfl) (by kernel_rfl) (by kernel_rfl) (fun _ _ _ h => h) (by rfl) ?hrrn2 hS ?_
  case hrrn2 => (intro w hSw; (try dsimp only at hSw); go_split_ands; go_simp; (try with_reducible rfl))
  (try simp only [Act.put, List.setIfInBounds_toArray, List.set_cons_zero, List.set_cons_succ])
  refine any_take 2 ?vrrn3 rfl (by kernel_rfl) (by kernel_rfl) (by kernel_rfl) (fun _ _ _ h => h) (by rfl) ?hrrn3 hS ?_
  case hrrn3 => (intro w hSw; (try dsimp only at hSw); go_split_ands; go_simp; (try with_reducible rfl))
  (try simp only [Act.put, List.setIfInBounds_toArray, List.set_cons_zero, List.set_cons_succ])
  refine any_take 3 ?vrrn4 rfl (by kernel_rfl) (by kernel_rfl) (by kernel_rfl) (fun _ _ _ h => h) (by rfl) ?hrrn4 hS ?_
  case hrrn4 => (intro w hSw; (try dsimp only at hSw); go_split_ands; go_simp; (try with_reducible rfl))
  (try simp only [Act.put, List.setIfInBounds_toArray, List.set_cons_zero, List.set_cons_succ])
  refine any_take 4 ?vrrn5 rfl (by kernel_rfl) (by kernel_rfl) (by kernel_rfl) (fun _ _ _ h => h) (by rfl) ?hrrn5 hS ?_
  case hrrn5 => (intro w hSw; (try dsimp only at hSw); go_split_ands; go_simp; (try with_reducible rfl))
  (try simp only [Act.put, List.setIfInBounds_toArray, List.set_cons_zero, List.set_cons_succ])
  refine any_take 5 ?vrrn6 rfl (by kernel_rfl) (by kernel_rfl) (by kernel_rfl) (fun _ _ _ h => h) (by rfl) ?hrrn6 hS ?_
  case hrrn6 => (intro w hSw; (try dsimp only at hSw); go_split_ands; go_simp; (try with_reducible rfl))
  (try simp only [Act.put, List.setIfInBounds_toArray, List.set_cons_zero, List.set_cons_succ])
  refine any_take 6 ?vrrn7 rfl (by kernel_rfl) (by kernel_rfl) (by kernel_rfl) (fun _ _ _ h => h) (by rfl) ?hrrn7 hS ?_
  case hrrn7 => (intro w hSw; (try dsimp only at hSw); go_split_ands; go_simp; (try with_reducible rfl))
  (try simp only [Act.put, List.setIfInBounds_toArray, List.set_cons_zero, List.set_cons_succ])
  refine any_take 7 ?vrrn8 rfl (by kernel_rfl) (by kernel_rfl) (by kernel_rfl) (fun _ _ _ h => h) (by rfl) ?hrrn8 hS ?_
  case hrrn8 => (intro w hSw; (try dsimp only at hSw); go_split_ands; go_simp; (try with_reducible rfl))
  (try simp only [Act.put, List.setIfInBounds_toArray, List.set_cons_zero, List.set_cons_succ])
  refine any_one 8 rfl (by kernel_rfl) (by rfl) (fun K hK => ?_)
  clear hS
  go_simp
  obtain ⟨X, hX⟩ : ∃ X, X = (w.alloc (.cells #[.int .u32 (x : Int), .int .u32 (y : Int), .int .u32 0] 56)).drew := ⟨_, rfl⟩
  rw [← hX]
  have hbX : Below w.heap.size w X := by rw [hX]; exact ((Below.refl _ _).alloc (Nat.le_refl _) _).drew
  have t3 : Three 56 X w.heap.size x y 0 := by rw [hX]; exact Three.new 56 w x y 0
  clear hX
  have cX : X.cell? ⟨V, 0, none⟩ = some (.pointer (some ⟨v, 0, none⟩)) := by rw [hbX.cell (World.block_lt_of_cell? w _ c0)]; exact c0
  refine hK.out _ _ (cX) (fun hS => ?_)
  clear hK
  (try simp only [Act.put, List.setIfInBounds_toArray, List.set_cons_zero, List.set_cons_succ])
  refine any_one 9 rfl (by kernel_rfl) (by rfl) (fun K hK => ?_)
  clear hS
  go_simp
  refine (K55.out X hbX w.heap.size t3).mono ?_
  rintro e w6 ⟨d, cd, rfl, hs6, hd6, hb6⟩
  refine hK.out _ _ (by rw [hb6.cell (World.block_lt_of_cell? _ _ cX)]; exact cX) (fun hS => ?_)
  clear hK
  (try simp only [Act.put, List.setIfInBounds_toArray, List.set_cons_zero, List.set_cons_succ])
  refine any_one 10 rfl (by kernel_rfl) (by rfl) (fun K hK => ?_)
  clear hS
  go_simp
  refine (K54.out X hbX w6 d cd hb6 hs6).mono ?_
  rintro e w7 ⟨rfl, HF7, hR7⟩
  refine hK.out _ _ (hR7.c0) (fun hS => ?_)
  clear hK
  (try simp only [Act.put, List.setIfInBounds_toArray, List.set_cons_zero, List.set_cons_succ])
  refine any_take 11 ?vrrn9 rfl (by kernel_rfl) (by kernel_rfl) (by kernel_rfl) (fun _ _ _ h => h) (by rfl) ?hrrn9 hS ?_
  case hrrn9 => (intro w hSw; (try dsimp only at hSw); go_split_ands; go_simp; (try with_reducible rfl))
  (try simp only [Act.put, List.setIfInBounds_toArray, List.set_cons_zero, List.set_cons_succ])
  refine wpAnyH_done (by kernel_rfl) ?_ _
  refine NoPanic.normal ?_
  obtain ⟨hl7, hba7⟩ := HF7.out
  have hbW := hbX.trans (hb6.mono hbX.size)
  have HX : Hid (∀ X u'', Apart (fun k => k = V) w7 X → RRC X V v u'' → RSaved w G V v r A T u'' X) := fun X u'' h1 h2 => RSaved.of hbW hl7 hba7 HNF.out.1 HNF.out.2 HR.out.lt h1 h2
  have HR7 : Hid (RRC w7 V v u) := hR7
  by_cases hE0 : E = 0
  · subst hE0
    have HU' : Hid (u' = { u with inc := x, mark := y }) := by show u' = _; rw [HU.out, if_pos rfl]
    rw [show ((0 : Nat) : Int) = 0 from rfl]
    have b2 := hR7.c2
    have b3 := hR7.c3
    have f2 := hR7.fz 2
    have f3 := hR7.fz 3
    have HF : Hid (RSaved w G V v r A T u' ((w7.setCell ⟨V, 2, none⟩ (.int .i64 (x : Int))).setCell ⟨V, 3, none⟩ (.int .i64 (y : Int)))) := by
      rw [HU'.out]
      exact HX.out _ _ (((Apart.refl (fun k => k = V) _).setCell (.inl rfl) _ _).setCell (.inl rfl) _ _) (HR7.out.setRec x y)
    clear hl7 hba7 hR7 HX HU HU' HR7 HR HF7 hS hbW hb6 hs6 hd6 HNF K54 K55 c0 c5 cX t3 hbX
    go_wp2
    go_ret
    exact ⟨rfl, HF.out⟩
  · have HU' : Hid (u' = { u with over := true }) := by show u' = _; rw [HU.out, if_neg hE0]
    have d0 : ((E : Int) == 0) = false := by simp; omega
    have d1 : ¬ (E : Int) = 0 := by omega
    have b6 := hR7.c5
    have f6 := hR7.fz 5
    have HF : Hid (RSaved w G V v r A T u' (w7.setCell ⟨V, 5, none⟩ (.bool true))) := by
      rw [HU'.out]
      exact HX.out _ _ ((Apart.refl (fun k => k = V) _).setCell (.inl rfl) _ _) HR7.out.setOver
    clear hl7 hba7 hR7 HX HU HU' HR7 HR HF7 hS hbW hb6 hs6 hd6 HNF K54 K55 c0 c5 cX t3 hbX hE0
    go_wp2
    go_ret
    exact ⟨rfl, HF.out⟩
end Go.Proofs.Ytjmbioedpghopaa
