/-
  A change, saved first.
-/
import Derived.Test.YtjmbioedpghopaaResC
namespace Go.Proofs.Ytjmbioedpghopaa
open Go.ChangeShapes Go.WideShapes Go.ChangeAt Go.RowKit

theorem vsave_over (w : World) (R b : Nat) (v : VS) (hr : RC w R b v) (ho : v.over = true) (f : Value) :
    Calls Try.prog 37 #[.pointer (some ⟨R, 0, none⟩), f] w fun e w' => e = .returned (.int .i64 9) ∧ w' = w := by
  have c6 := hr.c6
  rw [ho] at c6
  clear hr ho
  go_enter Try.func37, Try.ntmps37
  go_wp2
  go_ret
  exact ⟨rfl, rfl⟩

set_option maxHeartbeats 1600000 in
set_option maxRecDepth 20000 in
theorem vsave_same (w : World) (R b : Nat) (v : VS) (hr : RC w R b v) (ho : v.over = false) (i : Nat) (cs : Array Value)
    (hcall : ∀ args W, (callFunc i args).run Try.prog W = .ok (.enter i args) W)
    (hch : Calls Try.prog i (#[.agg #[.int .u32 (v.inc : Int), .int .u32 (v.mark : Int), .int .u32 0]] ++ cs) w fun e w' => e = .returned (.agg #[.int .u32 (v.inc : Int), .int .u32 (v.mark : Int), .int .u32 0]) ∧ Below w.heap.size w w') :
    Calls Try.prog 37 #[.pointer (some ⟨R, 0, none⟩), .func (.func i) #[] cs] w fun e w' => e = .returned (.int .i64 0) ∧ Below w.heap.size w w' := by
  have c6 := hr.c6
  rw [ho] at c6
  have c2 := hr.c2
  have c3 := hr.c3
  have c4 := hr.c4
  have HR : Hid (RC w R b v) := hr
  clear hr ho
  generalize v.inc = x at *
  generalize v.mark = y at *
  go_enter Try.func37, Try.ntmps37
  go_wp2_with fail
  refine hch.mono ?_
  rintro e w1 ⟨rfl, hb⟩
  clear hch hcall c6
  obtain ⟨W, hW⟩ : ∃ W, W = w1.alloc (.cells #[.int .u32 (x : Int), .int .u32 (y : Int), .int .u32 0] 58) := ⟨_, rfl⟩
  have HB : Hid (Below w.heap.size w W) := by rw [hW]; exact hb.alloc hb.size _
  have t : Three 58 W w1.heap.size x y 0 := by rw [hW]; exact Three.new 58 w1 x y 0
  have c2 : W.cell? ⟨R, 2, none⟩ = some (.int .u32 (x : Int)) := by rw [HB.out.cell (World.block_lt_of_cell? w _ c2)]; exact c2
  have c3 : W.cell? ⟨R, 3, none⟩ = some (.int .u32 (y : Int)) := by rw [HB.out.cell (World.block_lt_of_cell? w _ c3)]; exact c3
  have c4 : W.cell? ⟨R, 4, none⟩ = some (.int .u32 0) := by rw [HB.out.cell (World.block_lt_of_cell? w _ c4)]; exact c4
  have HW : Hid (W = w1.alloc (.cells #[.int .u32 (x : Int), .int .u32 (y : Int), .int .u32 0] 58)) := hW
  have H0 : Hid (W.cell? ⟨R, 2, none⟩ = some (.int .u32 (x : Int)) ∧ W.cell? ⟨R, 3, none⟩ = some (.int .u32 (y : Int)) ∧ W.cell? ⟨R, 4, none⟩ = some (.int .u32 0) ∧ W.cell? ⟨w1.heap.size, 0, none⟩ = some (.int .u32 (x : Int)) ∧ W.cell? ⟨w1.heap.size, 1, none⟩ = some (.int .u32 (y : Int)) ∧ W.cell? ⟨w1.heap.size, 2, none⟩ = some (.int .u32 0)) := ⟨c2, c3, c4, t.c0, t.c1, t.c2⟩
  have hE : ∀ V, (binOp .eql 58 (.agg #[.int .u32 (x : Int), .int .u32 (y : Int), .int .u32 0]) (.agg #[.int .u32 (x : Int), .int .u32 (y : Int), .int .u32 0])).run Try.prog V = .ok (.bool true) V := fun V => by
    have := eqRec x y 0 x y 0 V
    simpa using this
  clear hW t hb
  go_upto_region 4 with fail
  rw [← HW.out]
  clear HW
  go_region_held3 (fun V => V.cell? ⟨R, 2, none⟩ = some (.int .u32 (x : Int)) ∧ V.cell? ⟨R, 3, none⟩ = some (.int .u32 (y : Int)) ∧ V.cell? ⟨R, 4, none⟩ = some (.int .u32 0) ∧ V.cell? ⟨w1.heap.size, 0, none⟩ = some (.int .u32 (x : Int)) ∧ V.cell? ⟨w1.heap.size, 1, none⟩ = some (.int .u32 (y : Int)) ∧ V.cell? ⟨w1.heap.size, 2, none⟩ = some (.int .u32 0))
    (first | exact H0.out | assumption)
    (fail)
  have HB2 : Hid (Below w.heap.size w W.drew) := HB.out.drew
  go_wp2
  go_ret
  exact ⟨rfl, HB2.out⟩
/-- The record's bytes. -/
def recL (x y : Nat) : List UInt8 := w4s [x, y, 0]
theorem recL_len (x y : Nat) : (recL x y).length = 12 := by simp [recL, w4s_length]
theorem three_words {T : TypeId} {w : World} {q x y : Nat} (h : Three T w q x y 0) (hx : x < 4294967296) (hy : y < 4294967296) : Words w (some ⟨q, 0, none⟩) 3 [x, y, 0] :=
  ⟨by simp, by unfold maxLen; omega, by simp [hx, hy], fun _ => ⟨q, 0, rfl, fun i z hz => by
    match i, hz with
    | 0, hz => simp at hz; subst hz; exact h.c0
    | 1, hz => simp at hz; subst hz; exact h.c1
    | 2, hz => simp at hz; subst hz; exact h.c2
    | k + 3, hz => simp at hz⟩⟩
theorem put3 (w : World) (q x y : Nat) (h : Three 102 w q x y 0) (hx : x < 4294967296) (hy : y < 4294967296) : Calls Try.prog 53 #[.slice none 0 0, .slice (some ⟨q, 0, none⟩) 3 3] w fun e w' => ∃ d cd, e = .returned (.slice d 12 cd) ∧ Sees w' d cd (recL x y) ∧ (∀ bb off, d = some ⟨bb, off, none⟩ → w.heap.size ≤ bb) ∧ Below w.heap.size w w' := by
  have hp : Calls Try.prog 53 #[.slice none 0 0, .slice (some ⟨q, 0, none⟩) 3 3] w _ := put_own w none (some ⟨q, 0, none⟩) 0 3 [] [x, y, 0] (Sees.nil' w) (three_words h hx hy) (by simp) (by simp)
  refine hp.mono ?_
  rintro e w' ⟨d, cd, r, hr, rfl, hs, hb, ho⟩
  have er : r = recL x y := hr.out
  subst er
  refine ⟨d, cd, by rw [recL_len], hs, fun bb off hd => ?_, hb⟩
  rcases ho.2 with ⟨hv, h0⟩ | ⟨g, cap, cur, hv, hg, _⟩
  · rw [recL_len] at h0; omega
  · simp only [Value.slice.injEq] at hv
    rw [hd] at hv
    simp only [Option.some.injEq, Addr.mk.injEq] at hv
    omega

/-- What a change that is saved leaves. -/
def Saved (w : World) (F : Nat → Prop) (R b g A : Nat) (S : PS) (v : VS) (w' : World) : Prop :=
  ∃ F1, PF w' g S F1 ∧ BA w' b g A 12 ∧ RC w' R b v ∧ Apart (fun k => F k ∨ k = R) w w' ∧ ∀ k, F1 k → F k ∨ w.heap.size ≤ k

theorem Saved.of {w W w7 X : World} {F : Nat → Prop} {R b g A : Nat} {S : PS} {v' : VS} (hb : Below w.heap.size w W) (hl : Left PF W F g S w7) (hba : BA w7 b g A 12) (hFR : ¬ F R) (hbR : b ≠ R) (hR : R < w.heap.size) (hX : Apart (fun k => k = R) w7 X) (hrc : RC X R b v') : Saved w F R b g A S v' X := by
  obtain ⟨F1, hp, ha, hf⟩ := hl
  have hsz := hb.size
  have hR1 : ¬ F1 R := fun h => by
    rcases hf R h with h1 | h1
    · exact hFR h1
    · omega
  refine ⟨F1, pf_kept.keep hp fun k hk => hX.block k (pf_kept.lt hp k hk) fun e => hR1 (e ▸ hk), ?_, hrc, ?_, fun k hk => ?_⟩
  · show X.heap[b]? = _
    rw [hX.block b hba.lt hbR]; exact hba
  · have h1 : Apart (fun k => F k ∨ k = R) w w7 := (Apart.of_below (F := fun k => F k ∨ k = R) hb).trans (ha.mono (G := fun k => F k ∨ k = R) fun k hk => .inl hk) (fun k hk => .inl hk)
    exact h1.trans hX fun k hk => .inl (.inr hk)
  · rcases hf k hk with h1 | h1
    · exact .inl h1
    · exact .inr (by omega)

set_option maxHeartbeats 1600000 in
set_option maxRecDepth 20000 in
theorem vsave_new (w : World) (R b g A : Nat) (s : PS) (F : Nat → Prop) (v : VS) (hk : BK w b g A 12 s F) (hFb : ¬ F b) (hFR : ¬ F R) (hbR : b ≠ R) (hr : RC w R b v) (ho : v.over = false) (hn : s.n ≤ 999990) (i : Nat) (cs : Array Value) (x' y' : Nat) (hx : x' < 4294967296) (hy : y' < 4294967296)
    (hcall : ∀ args W, (callFunc i args).run Try.prog W = .ok (.enter i args) W)
    (hch : Calls Try.prog i (#[.agg #[.int .u32 (v.inc : Int), .int .u32 (v.mark : Int), .int .u32 0]] ++ cs) w fun e w' => e = .returned (.agg #[.int .u32 (x' : Int), .int .u32 (y' : Int), .int .u32 0]) ∧ Below w.heap.size w w')
    (hne : ¬ (x' = v.inc ∧ y' = v.mark)) (E : Nat) (hE : E = saveE s A 12 (recL x' y')) (S : PS) (hS : S = saveS s A 12 (recL x' y')) (v' : VS) (hv' : v' = if E = 0 then { v with inc := x', mark := y' } else { v with over := true }) :
    Calls Try.prog 37 #[.pointer (some ⟨R, 0, none⟩), .func (.func i) #[] cs] w fun e w' => e = .returned (.int .i64 (E : Int)) ∧ Saved w F R b g A S v' w' := by
  have c6 := hr.c6
  rw [ho] at c6
  have c2 := hr.c2
  have c3 := hr.c3
  have c4 := hr.c4
  have hEq : ∀ V, (binOp .eql 58 (.agg #[.int .u32 (x' : Int), .int .u32 (y' : Int), .int .u32 0]) (.agg #[.int .u32 (v.inc : Int), .int .u32 (v.mark : Int), .int .u32 0])).run Try.prog V = .ok (.bool false) V := fun V => by
    have h1 := eqRec x' y' 0 v.inc v.mark 0 V
    have h2 : ((x' : Int) == (v.inc : Int) && (y' : Int) == (v.mark : Int) && (0 : Int) == 0) = false := by
      simp only [Bool.and_eq_false_iff, beq_eq_false_iff_ne]
      omega
    rw [h2] at h1; exact h1
  have K52 : Hid (∀ V, Below w.heap.size w V → ∀ W d cd, Below V.heap.size V W → Sees W d cd (recL x' y') → (∀ bb off, d = some ⟨bb, off, none⟩ → V.heap.size ≤ bb) → Calls Try.prog 52 #[.pointer (some ⟨b, 0, none⟩), .slice d 12 cd] W fun e w' => e = .returned (.int .i64 (E : Int)) ∧ Hid (Left PF W F g S w' ∧ BA w' b g A 12) ∧ RC w' R b v) := fun V hV W d cd hW hd hn' => by
    have hb := hV.trans (hW.mono hV.size)
    have := save_ok W b g A 12 s F (hk.below hb) hFb hn d cd (recL x' y') hd (fun bb off he _ hF => by have := hn' bb off he; have := pf_kept.lt hk.fl bb hF; have := hV.size; omega) E hE S hS
    rw [recL_len] at this
    refine this.mono ?_
    rintro e w' ⟨rfl, hl⟩
    refine ⟨rfl, ⟨hl, hl.ba (hk.bk.below hb) hFb⟩, ?_⟩
    obtain ⟨F', _, ha, _⟩ := hl
    show w'.heap[R]? = _
    rw [ha.block R (hr.below hb).lt hFR]; exact hr.below hb
  have HV : Hid (v' = if E = 0 then { v with inc := x', mark := y' } else { v with over := true }) := hv'
  have HR : Hid (RC w R b v) := hr
  have HLT : Hid (∀ k, F k → k < w.heap.size) := fun k hk' => pf_kept.lt hk.fl k hk'
  obtain ⟨x, hxv⟩ : ∃ x, x = v.inc := ⟨_, rfl⟩
  obtain ⟨y, hyv⟩ : ∃ y, y = v.mark := ⟨_, rfl⟩
  simp only [← hxv, ← hyv] at c2 c3 hEq hch
  clear hxv hyv
  have HNF : Hid (¬ F R ∧ b ≠ R) := ⟨hFR, hbR⟩
  clear hr ho hk hE hS hne hv' hn hFb hFR hbR
  go_enter Try.func37, Try.ntmps37
  go_wp2_with fail
  refine hch.mono ?_
  rintro e w1 ⟨rfl, hb⟩
  clear hch hcall c6
  obtain ⟨W, hW⟩ : ∃ W, W = w1.alloc (.cells #[.int .u32 (x' : Int), .int .u32 (y' : Int), .int .u32 0] 58) := ⟨_, rfl⟩
  have HB : Hid (Below w.heap.size w W) := by rw [hW]; exact hb.alloc hb.size _
  have t : Three 58 W w1.heap.size x' y' 0 := by rw [hW]; exact Three.new 58 w1 x' y' 0
  have c2 : W.cell? ⟨R, 2, none⟩ = some (.int .u32 (x : Int)) := by rw [HB.out.cell (World.block_lt_of_cell? w _ c2)]; exact c2
  have c3 : W.cell? ⟨R, 3, none⟩ = some (.int .u32 (y : Int)) := by rw [HB.out.cell (World.block_lt_of_cell? w _ c3)]; exact c3
  have c4 : W.cell? ⟨R, 4, none⟩ = some (.int .u32 0) := by rw [HB.out.cell (World.block_lt_of_cell? w _ c4)]; exact c4
  have HW : Hid (W = w1.alloc (.cells #[.int .u32 (x' : Int), .int .u32 (y' : Int), .int .u32 0] 58)) := hW
  have H0 : Hid (W.cell? ⟨R, 2, none⟩ = some (.int .u32 (x : Int)) ∧ W.cell? ⟨R, 3, none⟩ = some (.int .u32 (y : Int)) ∧ W.cell? ⟨R, 4, none⟩ = some (.int .u32 0) ∧ W.cell? ⟨w1.heap.size, 0, none⟩ = some (.int .u32 (x' : Int)) ∧ W.cell? ⟨w1.heap.size, 1, none⟩ = some (.int .u32 (y' : Int)) ∧ W.cell? ⟨w1.heap.size, 2, none⟩ = some (.int .u32 0)) := ⟨c2, c3, c4, t.c0, t.c1, t.c2⟩
  have HT : Hid (Three 58 W w1.heap.size x' y' 0 ∧ w.heap.size ≤ w1.heap.size) := ⟨t, hb.size⟩
  clear hW t hb
  go_upto_region 4 with fail
  rw [← HW.out]
  clear HW
  go_region_held3 (fun V => V.cell? ⟨R, 2, none⟩ = some (.int .u32 (x : Int)) ∧ V.cell? ⟨R, 3, none⟩ = some (.int .u32 (y : Int)) ∧ V.cell? ⟨R, 4, none⟩ = some (.int .u32 0) ∧ V.cell? ⟨w1.heap.size, 0, none⟩ = some (.int .u32 (x' : Int)) ∧ V.cell? ⟨w1.heap.size, 1, none⟩ = some (.int .u32 (y' : Int)) ∧ V.cell? ⟨w1.heap.size, 2, none⟩ = some (.int .u32 0))
    (first | exact H0.out | assumption)
    (fail)
  obtain ⟨U, hU⟩ : ∃ U, U = W.drew := ⟨_, rfl⟩
  rw [← hU]
  have HBU : Hid (Below w.heap.size w U) := by rw [hU]; exact HB.out.drew
  have t : Three 58 U w1.heap.size x' y' 0 := by rw [hU]; exact HT.out.1
  have a0 := t.c0
  have a1 := t.c1
  have a2 := t.c2
  have k51 := words_ok U x' y' 0
  rw [show ((0 : Nat) : Int) = 0 from rfl] at k51
  have HTU : Hid (Three 58 U w1.heap.size x' y' 0 ∧ w.heap.size ≤ w1.heap.size) := ⟨t, HT.out.2⟩
  clear t hU H0 HT HB c2 c3 c4 hEq
  go_wp2_with fail
  refine k51.mono ?_
  rintro e w2 ⟨rfl, hb2⟩
  clear k51 a0 a1 a2
  obtain ⟨V, hV⟩ : ∃ V, V = w2.alloc (.cells #[.int .u32 (x' : Int), .int .u32 (y' : Int), .int .u32 0] 102) := ⟨_, rfl⟩
  have hbV : Below U.heap.size U V := by rw [hV]; exact hb2.alloc hb2.size _
  have HBV : Hid (Below w.heap.size w V) := HBU.out.trans (hbV.mono HBU.out.size)
  have t2 : Three 102 V w2.heap.size x' y' 0 := by rw [hV]; exact Three.new 102 w2 x' y' 0
  have t1 : Three 58 V w1.heap.size x' y' 0 := HTU.out.1.below hbV
  have HW : Hid (V = w2.alloc (.cells #[.int .u32 (x' : Int), .int .u32 (y' : Int), .int .u32 0] 102)) := hV
  have HT1 : Hid (Three 58 V w1.heap.size x' y' 0 ∧ w.heap.size ≤ w1.heap.size) := ⟨t1, HTU.out.2⟩
  have K53 : Hid (∀ X, Below V.heap.size V X → Calls Try.prog 53 #[.slice none 0 0, .slice (some ⟨w2.heap.size, 0, none⟩) 3 3] X fun e w' => ∃ d cd, e = .returned (.slice d 12 cd) ∧ Sees w' d cd (recL x' y') ∧ (∀ bb off, d = some ⟨bb, off, none⟩ → X.heap.size ≤ bb) ∧ Below X.heap.size X w') := fun X hX => put3 X w2.heap.size x' y' (t2.below hX) hx hy
  have K52 := K52.out V.drew HBV.out.drew
  have K52 : Hid _ := K52
  have hS0 : V.cell? ⟨R, 0, none⟩ = some (.pointer (some ⟨b, 0, none⟩)) := by rw [HBV.out.cell (World.block_lt_of_cell? w _ HR.out.c0)]; exact HR.out.c0
  clear hV hbV t1 t2 HTU HBU hb2
  go_upto_region 7 with fail
  rw [← HW.out]
  clear HW
  refine wp_region_noPanic ?_
  refine wp_region_held (S := fun W => W.cell? ⟨R, 0, none⟩ = some (.pointer (some ⟨b, 0, none⟩))) (by kernel_rfl) ?_
  have hS := (show (fun W => W.cell? ⟨R, 0, none⟩ = some (.pointer (some ⟨b, 0, none⟩))) V.drew from hS0)
  refine any_take 0 ?vrsn1 rfl (by kernel_rfl) (by kernel_rfl) (by kernel_rfl) (fun _ _ _ h => h) (by rfl) ?hrsn1 hS ?_
  case hrsn1 => (intro w hSw; (try dsimp only at hSw); go_split_ands; go_simp; (try with_reducible rfl))
  (try simp only [Act.put, List.setIfInBounds_toArray, List.set_cons_zero, List.set_cons_succ])
  refine any_take 1 ?vrsn2 rfl (by kernel_rfl) (by kernel_rfl) (by kernel_rfl) (fun _ _ _ h => h) (by rfl) ?hrsn2 hS ?_
  case hrsn2 => (intro w hSw; (try dsimp only at hSw); go_split_ands; go_simp; (try with_reducible rfl))
  (try simp only [Act.put, List.setIfInBounds_toArray, List.set_cons_zero, List.set_cons_succ])
  refine any_take 2 ?vrsn3 rfl (by kernel_rfl) (by kernel_rfl) (by kernel_rfl) (fun _ _ _ h => h) (by rfl) ?hrsn3 hS ?_
  case hrsn3 => (intro w hSw; (try dsimp only at hSw); go_split_ands; go_simp; (try with_reducible rfl))
  (try simp only [Act.put, List.setIfInBounds_toArray, List.set_cons_zero, List.set_cons_succ])
  refine any_take 3 ?vrsn4 rfl (by kernel_rfl) (by kernel_rfl) (by kernel_rfl) (fun _ _ _ h => h) (by rfl) ?hrsn4 hS ?_
  case hrsn4 => (intro w hSw; (try dsimp only at hSw); go_split_ands; go_simp; (try with_reducible rfl))
  (try simp only [Act.put, List.setIfInBounds_toArray, List.set_cons_zero, List.set_cons_succ])
  refine any_take 4 ?vrsn5 rfl (by kernel_rfl) (by kernel_rfl) (by kernel_rfl) (fun _ _ _ h => h) (by rfl) ?hrsn5 hS ?_
  case hrsn5 => (intro w hSw; (try dsimp only at hSw); go_split_ands; go_simp; (try with_reducible rfl))
  (try simp only [Act.put, List.setIfInBounds_toArray, List.set_cons_zero, List.set_cons_succ])
  refine any_one 5 rfl (by kernel_rfl) (by rfl) (fun K hK => ?_)
  clear hS
  go_simp
  refine (K53.out _ (Below.refl _ _).drew).mono ?_
  rintro e w6 ⟨d, cd, rfl, hs6, hd6, hb6⟩
  refine hK.out _ _ (by rw [hb6.cell (World.block_lt_of_cell? _ _ hS0)]; exact hS0) (fun hS => ?_)
  clear hK
  (try simp only [Act.put, List.setIfInBounds_toArray, List.set_cons_zero, List.set_cons_succ])
  refine any_one 6 rfl (by kernel_rfl) (by rfl) (fun K hK => ?_)
  clear hS
  go_simp
  refine (K52.out _ d cd hb6 hs6 hd6).mono ?_
  rintro e w7 ⟨rfl, HF7, hR7⟩
  refine hK.out _ _ (hR7.c0) (fun hS => ?_)
  clear hK
  (try simp only [Act.put, List.setIfInBounds_toArray, List.set_cons_zero, List.set_cons_succ])
  refine any_take 7 ?vrsn6 rfl (by kernel_rfl) (by kernel_rfl) (by kernel_rfl) (fun _ _ _ h => h) (by rfl) ?hrsn6 hS ?_
  case hrsn6 => (intro w hSw; (try dsimp only at hSw); go_split_ands; go_simp; (try with_reducible rfl))
  (try simp only [Act.put, List.setIfInBounds_toArray, List.set_cons_zero, List.set_cons_succ])
  refine wpAnyH_done (by kernel_rfl) ?_ _
  refine NoPanic.normal ?_
  have h7 := HF7.out
  obtain ⟨hl7, hba7⟩ := h7
  have hbW := HBV.out.drew.trans (hb6.mono HBV.out.drew.size)
  have HX : Hid (∀ X v'', Apart (fun k => k = R) w7 X → RC X R b v'' → Saved w F R b g A S v'' X) := fun X v'' h1 h2 => Saved.of hbW hl7 hba7 HNF.out.1 HNF.out.2 HR.out.lt h1 h2
  have t7 : Three 58 w7 w1.heap.size x' y' 0 := by
    have h6 : Three 58 w6 w1.heap.size x' y' 0 := by
      have h5 : Three 58 V.drew w1.heap.size x' y' 0 := HT1.out.1
      exact h5.below hb6
    obtain ⟨F', _, ha, _⟩ := hl7
    show w7.heap[w1.heap.size]? = _
    rw [ha.block _ h6.lt (fun hF => by have := HLT.out _ hF; have := HT1.out.2; omega)]; exact h6
  have HR7 : Hid (RC w7 R b v) := hR7
  by_cases hE0 : E = 0
  · subst hE0
    have HV' : Hid (v' = { v with inc := x', mark := y' }) := by show v' = _; rw [HV.out, if_pos rfl]
    rw [show ((0 : Nat) : Int) = 0 from rfl]
    have a0 := t7.c0
    have a1 := t7.c1
    have a2 := t7.c2
    have b2 := hR7.c2
    have b3 := hR7.c3
    have b4 := hR7.c4
    have f2 := hR7.fz 2
    have f3 := hR7.fz 3
    have f4 := hR7.fz 4
    have HF : Hid (Saved w F R b g A S v' (((w7.setCell ⟨R, 2, none⟩ (.int .u32 (x' : Int))).setCell ⟨R, 3, none⟩ (.int .u32 (y' : Int))).setCell ⟨R, 4, none⟩ (.int .u32 0))) := by
      rw [HV'.out]
      exact HX.out _ _ ((((Apart.refl (fun k => k = R) _).setCell (.inl rfl) _ _).setCell (.inl rfl) _ _).setCell (.inl rfl) _ _) (HR7.out.setRec x' y')
    clear hl7 hba7 t7 hR7 HX HV HV' HR7 HR HF7 hS0 hS hbW hb6 hs6 hd6 HT1 HBV HLT HNF K52 K53
    go_wp2
    go_ret
    exact ⟨rfl, HF.out⟩
  · have HV' : Hid (v' = { v with over := true }) := by show v' = _; rw [HV.out, if_neg hE0]
    have d0 : ((E : Int) == 0) = false := by simp; omega
    have d1 : ¬ (E : Int) = 0 := by omega
    have b6 := hR7.c6
    have f6 := hR7.fz 6
    have HF : Hid (Saved w F R b g A S v' (w7.setCell ⟨R, 6, none⟩ (.bool true))) := by
      rw [HV'.out]
      exact HX.out _ _ ((Apart.refl (fun k => k = R) _).setCell (.inl rfl) _ _) HR7.out.setOver
    clear hl7 hba7 t7 hR7 HX HV HV' HR7 HR HF7 hS0 hS hbW hb6 hs6 hd6 HT1 HBV HLT HNF K52 K53 hE0
    go_wp2
    go_ret
    exact ⟨rfl, HF.out⟩
end Go.Proofs.Ytjmbioedpghopaa
