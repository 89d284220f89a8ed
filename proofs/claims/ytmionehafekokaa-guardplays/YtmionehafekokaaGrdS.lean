/-
  The document's Other.
-/
import Derived.Test.YtmionehafekokaaGrdR
namespace Go.Proofs.Ytmionehafekokaa
open Go.ChangeShapes Go.WideShapes Go.ChangeAt Go.RowKit

/-- In the midst of the document's Other: the guard, and the cell of the schedule in block b. -/
structure Ro (w : World) (g b : Nat) (s : Value) (v : Gs) (n : Nat) (R S O : Int) (W : World) : Prop where
  rd : Rd W g s v n
  tri : Tri W b R S O
  bel : Below w.heap.size w W
theorem Ro.drew {w W : World} {g b : Nat} {s : Value} {v : Gs} {n : Nat} {R S O : Int} (h : Ro w g b s v n R S O W) : Ro w g b s v n R S O W.drew := ⟨h.rd.drew, h.tri, h.bel.drew⟩
theorem Ro.below {w W V : World} {g b : Nat} {s : Value} {v : Gs} {n : Nat} {R S O : Int} (h : Ro w g b s v n R S O W) (hb : Below W.heap.size W V) : Ro w g b s v n R S O V := ⟨h.rd.below hb, h.tri.below hb, h.bel.trans (hb.mono h.bel.size)⟩
theorem take_snoc' (l : List Int) (k : Nat) (y : Int) (h : l[k]? = some y) : l.take (k + 1) = l.take k ++ [y] := by
  rw [List.take_add_one, h]; rfl
theorem keep_snoc (l : List Int) (y m : Int) : keepL (l ++ [y]) m = if m ≤ y then keepL l m ++ [y] else keepL l m := by
  unfold keepL
  rw [List.filter_append]
  by_cases h : m ≤ y
  · simp [h]
  · simp [h]

/-- What the document's Other leaves. -/
def RPassed (w : World) (g : Nat) (s : Value) (v : Gs) (n : Nat) (w' : World) : Prop :=
  ∃ s', Rd w' g s' v n ∧ (∀ k, s'.ownBlock = some k → s.ownBlock = some k ∨ w.heap.size ≤ k) ∧ Apart (Rwn g s) w w'
theorem Rd.passed {w w' : World} {g : Nat} {s : Value} {v : Gs} {n : Nat} (h : Rd w' g s v n) (hb : Below w.heap.size w w') : RPassed w g s v (n + 1) w' :=
  ⟨s, h.mono (Nat.le_succ _), fun _ hk => .inl hk, Apart.of_below hb⟩
/-- The new list, stored. -/
theorem Ro.stored {w W V : World} {g b : Nat} {s : Value} {v : Gs} {n : Nat} {R S O : Int} (h : Ro w g b s v n R S O W) (hb : Below W.heap.size W V) {s' : Value} {q : List Int} (hr : RsAt V s' q) (hs : ∀ k, s'.ownBlock = some k → W.heap.size ≤ k) (hl : q.length ≤ n + 1) :
    V.cell? ⟨g, 13, none⟩ = some s ∧ V.frozen? ⟨g, 13, none⟩ = false ∧ RPassed w g s { v with os := q } (n + 1) (V.setCell ⟨g, 13, none⟩ s') := by
  have h1 := (h.below hb).rd
  have hg := h.rd.at'.lt
  refine ⟨h1.at'.others, h1.at'.fz 13, s', ⟨h1.at'.put 13 _ rfl, hr.keep fun k hk => heap_setCell_other _ _ _ _ (fun e => by subst e; have := hs _ hk; omega), hl⟩, fun k hk => .inr (Nat.le_trans h.bel.size (hs k hk)), ?_⟩
  have hw : Below w.heap.size w V := h.bel.trans (hb.mono h.bel.size)
  exact (Apart.of_below (F := Rwn g s) hw).setCell (.inl (.inl rfl)) 13 s'

set_option maxHeartbeats 4000000 in
set_option maxRecDepth 20000 in
theorem rother_ok (w : World) (g : Nat) (s : Value) (v : Gs) (n : Nat) (h : Rd w g s v n) (hn : n ≤ 999) (t : Int) :
    Calls Try.prog 13 #[.pointer (some ⟨g, 0, none⟩), .int .i64 t] w fun e w' => e = .returned (.int .i64 (othE v t)) ∧ RPassed w g s (othV v t) (n + 1) w' := by
  have KP := rplace_ok w v.c t
  obtain ⟨c0, c1, c2, c3, c4, c5, c6, c7, c8, c9⟩ := h.at'.cfg
  have HG : Hid (Rd w g s v n) := h
  have HE : Hid (othV v t = (if othE v t = 0 then { v with os := keepL v.os (rdN v.c t - 64) ++ [rdN v.c t] } else v)) := rfl
  have hlen := h.len
  clear h
  by_cases hp : placeB v.c t = true
  case neg =>
    have e0 : othE v t = 1 := by rw [othE, if_neg hp]
    have e2 : othV v t = v := by rw [HE.out, e0]; rfl
    rw [e0, e2]
    rw [placeV, if_neg hp] at KP
    clear hp HE e0 e2 hn
    go_enter Try.func13, Try.ntmps13
    go_wp2_with fail
    refine KP.mono ?_
    rintro e w1 ⟨rfl, hb⟩
    clear KP c0 c1 c2 c3 c4 c5 c6 c7 c8 c9
    obtain ⟨h1, h2, h3, h4⟩ := HG.out.placed hb 0 0 0
    have HF : Hid (RPassed w g s v (n + 1) (w1.alloc (.cells #[.int .i64 0, .int .i64 0, .int .i64 0] 47))) := h1.passed h3
    clear hb h1 h2 h3 h4 HG
    go_wp2
    go_ret
    exact ⟨rfl, HF.out⟩
  rw [placeV, if_pos hp] at KP
  have HD1 : othE v t = (if 4 * v.c.n ≤ (v.os.count (rdN v.c t) : Int) then 9 else 0) := by rw [othE, if_pos hp]
  have HD : Hid (othE v t = (if 4 * v.c.n ≤ (v.os.count (rdN v.c t) : Int) then 9 else 0)) := HD1
  obtain ⟨r0, r1, ho⟩ := rd_in hp
  have n0 := (right_of ho).n0
  have n1 := (right_of ho).n1
  clear hp HD1 ho
  change Calls Try.prog 22 _ _ (fun e w' => e = .returned (.tuple #[.agg #[.int .i64 (rdN v.c t), .int .i64 (slN v.c t), .int .i64 (t % v.c.s)], .int .i64 0]) ∧ Below w.heap.size w w') at KP
  generalize t % v.c.s = O at *
  obtain ⟨a, cap, es, _, hmax, _, _⟩ := HG.out.row.shape
  have hcm : cap ≤ 9223372036854775807 := by unfold maxLen at hmax; omega
  clear hmax
  go_enter Try.func13, Try.ntmps13
  go_wp2_with fail
  refine KP.mono ?_
  rintro e w1 ⟨rfl, hb⟩
  clear KP c0 c1 c2 c3 c4 c5 c6 c7 c8 c9
  obtain ⟨h1, h2, h3, h4⟩ := HG.out.placed hb (rdN v.c t) (slN v.c t) O
  have HF : Hid (Ro w g w1.heap.size s v n (rdN v.c t) (slN v.c t) O (w1.alloc (.cells #[.int .i64 (rdN v.c t), .int .i64 (slN v.c t), .int .i64 O] 47))) := ⟨h1, h2, h3⟩
  clear hb h1 h2 h3 h4 HG
  go_wp2
  generalize w1.alloc (.cells #[.int .i64 (rdN v.c t), .int .i64 (slN v.c t), .int .i64 O] 47) = W at *
  generalize w1.heap.size = b at *
  generalize hR : rdN v.c t = R at *
  generalize slN v.c t = S at *
  clear w1
  go_loopw [7, 8] (fun u z wr => ∃ (k : Nat) (C : Int), k ≤ v.os.length ∧ u = .int .i64 C ∧ C = ((v.os.take k).count R : Int) ∧ z = .int .i64 (k : Int) ∧ Ro w g b s v n R S O wr) (fun _ z _ => v.os.length - (intOf z).toNat)
  case atStart => exact ⟨0, 0, by omega, rfl, rfl, rfl, HF.out⟩
  case round =>
    obtain ⟨k, C, hk, rfl, hC, rfl, hf⟩ := hrel
    clear HF
    have c13 := hf.rd.at'.others
    have t0 := hf.tri.c0
    rw [es] at c13
    have g0 : (0 : Int) ≤ (k : Int) := Int.natCast_nonneg _
    have HQ : Hid (Ro w g b s v n R S O wr) := hf
    have hC1 : (0 : Int) ≤ C ∧ C ≤ 1000 := by
      have := List.count_le_length (a := R) (l := v.os.take k)
      have := List.length_take_le k v.os
      omega
    by_cases hkl : k < v.os.length
    · obtain ⟨y, hy⟩ : ∃ y, v.os[k]? = some y := ⟨v.os[k], by simp⟩
      obtain ⟨a', cap', es', _, _, _, hcell⟩ := hf.rd.row.shape
      obtain ⟨q, rfl, cy⟩ : ∃ q, a = some ⟨q, 0, none⟩ ∧ wr.cell? ⟨q, k, none⟩ = some (.int .i64 y) := by
        rw [es] at es'
        cases es'
        exact hcell k y hy
      have i1 : (k : Int) < (v.os.length : Int) := by omega
      have wk : IntKind.i64.wrap ((k : Int) + 1) = (k : Int) + 1 := wrap_in (by omega) (by omega)
      have hT := take_snoc' _ _ _ hy
      have wC : IntKind.i64.wrap (C + 1) = C + 1 := wrap_in (by omega) (by omega)
      clear hcell es' hf hy
      by_cases hyR : y = R
      · have hC2 : C + 1 = ((v.os.take (k + 1)).count R : Int) := by rw [hT, count_snoc, if_pos hyR.symm, hC]; rfl
        have HC : Hid (C + 1 = ((v.os.take (k + 1)).count R : Int)) := hC2
        subst hyR
        clear hC hC2 hT
        go_upto_region 8 with fail
        go_big_region
        go_wp2
        go_roundw
        case rel => exact ⟨k + 1, _, by omega, rfl, HC.out, by go_num, HQ.out.drew⟩
        case measure => simp [intOf]; omega
      · have hC2 : C = ((v.os.take (k + 1)).count R : Int) := by rw [hT, count_snoc, if_neg (fun e => hyR e.symm), hC]
        have HC : Hid (C = ((v.os.take (k + 1)).count R : Int)) := hC2
        clear hC hC2 hT
        go_upto_region 8 with fail
        go_big_region
        go_wp2
        go_roundw
        case rel => exact ⟨k + 1, _, by omega, rfl, HC.out, by go_num, HQ.out.drew⟩
        case measure => simp [intOf]; omega
    · have hkk : k = v.os.length := by omega
      have hC2 : C = (v.os.count R : Int) := by rw [hC, hkk, List.take_length]
      rw [← hC2] at HD
      have cn := hf.rd.at'.cfg.1
      have m1 : IntKind.i64.wrap (4 * v.c.n) = 4 * v.c.n := wrap_in (by omega) (by omega)
      have f0 : decide ((k : Int) < (v.os.length : Int)) = false := by simp; omega
      clear hf hC hC2
      by_cases hfull : 4 * v.c.n ≤ C
      · have e0 : othE v t = 9 := by rw [HD.out, if_pos hfull]
        have e2 : othV v t = v := by rw [HE.out, e0]; rfl
        have HP : Hid (othE v t = 9 ∧ othV v t = v) := ⟨e0, e2⟩
        clear HD HE e0 e2
        go_wp2
        go_ret
        rw [HP.out.1, HP.out.2]
        exact ⟨rfl, HQ.out.rd.passed HQ.out.bel⟩
      · have e0 : othE v t = 0 := by rw [HD.out, if_neg hfull]
        have e2 : othV v t = { v with os := keepL v.os (R - 64) ++ [R] } := by rw [HE.out, e0]; rfl
        have HP : Hid (othE v t = 0 ∧ othV v t = { v with os := keepL v.os (R - 64) ++ [R] }) := ⟨e0, e2⟩
        clear HD HE e0 e2
        go_wp2
        clear c13 t0 cn m1 f0 hC1 hfull hkk hkl hk g0
        rename World => W1
        go_loopw [9, 10] (fun u z wr => ∃ (k : Nat) (sl : Value), k ≤ v.os.length ∧ sl = u ∧ z = .int .i64 (k : Int) ∧ RsAt wr sl (keepL (v.os.take k) (R - 64)) ∧ (∀ j, sl.ownBlock = some j → W1.heap.size ≤ j) ∧ Below W1.heap.size W1 wr) (fun _ z _ => v.os.length - (intOf z).toNat)
        case atStart => exact ⟨0, _, by omega, rfl, rfl, RsAt.nil _, (fun j hj => by cases hj), Below.refl _ _⟩
        case round =>
          obtain ⟨k, sl, hk, rfl, rfl, hr, hsl, hb⟩ := hrel
          have hf := HQ.out.below hb
          have c13 := hf.rd.at'.others
          have t0 := hf.tri.c0
          rw [es] at c13
          have g0 : (0 : Int) ≤ (k : Int) := Int.natCast_nonneg _
          have wm : IntKind.i64.wrap (R - 64) = R - 64 := wrap_in (by omega) (by omega)
          have HRs : Hid (RsAt wr sl (keepL (v.os.take k) (R - 64)) ∧ (∀ j, sl.ownBlock = some j → W1.heap.size ≤ j) ∧ Below W1.heap.size W1 wr) := ⟨hr, hsl, hb⟩
          have hll : (keepL (v.os.take k) (R - 64)).length ≤ v.os.length := Nat.le_trans (List.length_filter_le _ _) (List.length_take_le' k v.os)
          clear hr hsl hb
          by_cases hkl : k < v.os.length
          · obtain ⟨y, hy⟩ : ∃ y, v.os[k]? = some y := ⟨v.os[k], by simp⟩
            obtain ⟨a', cap', es', _, _, _, hcell⟩ := hf.rd.row.shape
            obtain ⟨q, rfl, cy⟩ : ∃ q, a = some ⟨q, 0, none⟩ ∧ wr.cell? ⟨q, k, none⟩ = some (.int .i64 y) := by
              rw [es] at es'
              cases es'
              exact hcell k y hy
            have i1 : (k : Int) < (v.os.length : Int) := by omega
            have wk : IntKind.i64.wrap ((k : Int) + 1) = (k : Int) + 1 := wrap_in (by omega) (by omega)
            have hT := take_snoc' _ _ _ hy
            clear hcell es' hf hy
            by_cases hym : R - 64 ≤ y
            · have hb1 : Below wr.heap.size wr (wr.drew.alloc (.cells #[.int .i64 y] 3)) := (Below.refl _ wr).drew.alloc (Nat.le_refl _) _
              obtain ⟨s', w', hrun, g1, g2, g3⟩ := (HRs.out.1.keep (w' := wr.drew.alloc (.cells #[.int .i64 y] 3)) fun j hj => hb1.block j (HRs.out.1.lt hj)).push (by omega) y wr.heap.size (cell_of_row _ _ 0 _ _ _ (heap_alloc_new wr.drew _))
              have HR : Hid ((Builtin.append_ #[42, 42] 42 #[sl, .slice (some ⟨wr.heap.size, 0, none⟩) 1 1]).run Try.prog (wr.drew.alloc (.cells #[.int .i64 y] 3)) = .ok s' w') := hrun
              have HE : Hid (RsAt w' s' (keepL (v.os.take (k + 1)) (R - 64)) ∧ (∀ j, s'.ownBlock = some j → W1.heap.size ≤ j) ∧ Below W1.heap.size W1 w') := by
                refine ⟨by rw [hT, keep_snoc, if_pos hym]; exact g1, fun j hj => ?_, ?_⟩
                · rcases g3 j hj with h | h
                  · exact HRs.out.2.1 j h
                  · have := HRs.out.2.2.size; have := hb1.size; omega
                · exact g2.below (HRs.out.2.2.trans (hb1.mono HRs.out.2.2.size)) HRs.out.2.1 (Nat.le_trans HRs.out.2.2.size hb1.size)
              clear hb1 hrun g1 g2 g3 hT hll HRs
              go_upto_region 16 with fail
              go_big_region
              go_wp2_with (at_builtin; refine wpList_append_run rfl _ _ 42 rfl _ _ _ rfl rfl HR.out ?_)
              go_roundw
              case rel => exact ⟨k + 1, _, by omega, rfl, by go_num, HE.out⟩
              case measure => simp [intOf]; omega
            · have HE : Hid (RsAt wr.drew sl (keepL (v.os.take (k + 1)) (R - 64)) ∧ (∀ j, sl.ownBlock = some j → W1.heap.size ≤ j) ∧ Below W1.heap.size W1 wr.drew) := by
                refine ⟨by rw [hT, keep_snoc, if_neg hym]; exact HRs.out.1.keep (w' := wr.drew) fun _ _ => rfl, HRs.out.2.1, HRs.out.2.2.drew⟩
              clear hT hll HRs
              go_upto_region 16 with fail
              go_big_region
              go_wp2
              go_roundw
              case rel => exact ⟨k + 1, _, by omega, rfl, by go_num, HE.out⟩
              case measure => simp [intOf]; omega
          · have hkk : k = v.os.length := by omega
            have f0 : decide ((k : Int) < (v.os.length : Int)) = false := by simp; omega
            have hb1 : Below wr.heap.size wr (wr.alloc (.cells #[.int .i64 R] 3)) := Go.Joins.below_alloc1 _ _
            obtain ⟨s', w', hrun, g1, g2, g3⟩ := (HRs.out.1.keep (w' := wr.alloc (.cells #[.int .i64 R] 3)) fun j hj => hb1.block j (HRs.out.1.lt hj)).push (by omega) R wr.heap.size (cell_of_row _ _ 0 _ _ _ (heap_alloc_new wr _))
            obtain ⟨a2, L, cap2, rfl⟩ : ∃ a2 L cap2, s' = .slice a2 L cap2 := by obtain ⟨p1, p2, p3, _⟩ := g1.shape; exact ⟨_, _, _, p3⟩
            have HR : Hid ((Builtin.append_ #[42, 42] 42 #[sl, .slice (some ⟨wr.heap.size, 0, none⟩) 1 1]).run Try.prog (wr.alloc (.cells #[.int .i64 R] 3)) = .ok (.slice a2 L cap2) w') := hrun
            rw [hkk, List.take_length] at g1 hll
            obtain ⟨d13, f13, hpass⟩ := HQ.out.stored (V := w') (g2.below (HRs.out.2.2.trans (hb1.mono HRs.out.2.2.size)) HRs.out.2.1 (Nat.le_trans HRs.out.2.2.size hb1.size)) g1 (fun j hj => by
              rcases g3 j hj with h | h
              · exact HRs.out.2.1 j h
              · have := HRs.out.2.2.size; have := hb1.size; omega) (by simp only [List.length_append, List.length_cons, List.length_nil]; omega)
            have HZ : Hid (RPassed w g s { v with os := keepL v.os (R - 64) ++ [R] } (n + 1) (w'.setCell ⟨g, 13, none⟩ (.slice a2 L cap2))) := hpass
            clear hb1 hrun g1 g2 g3 hll HRs hf hpass hkk
            go_wp2_with (at_builtin; refine wpList_append_run rfl _ _ 42 rfl _ _ _ rfl rfl HR.out ?_)
            go_ret
            rw [HP.out.1, HP.out.2]
            exact ⟨rfl, HZ.out⟩
end Go.Proofs.Ytmionehafekokaa
