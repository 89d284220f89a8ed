/-
  The contract of Save.
-/
import Derived.Test.YtgnllmcgebonpaaBankWrite
namespace Go.Proofs.Ytgnllmcgebonpaa
open Go.ChangeShapes Go.WideShapes Go.ChangeAt Go.RowKit

/-- Where the next record goes to. -/
def slotN (s : PS) (A N : Nat) : Nat := if newI s A N = some 0 then 1 else 0
/-- What Save answers, and what it leaves. -/
def saveE (s : PS) (A N : Nat) (l : List UInt8) : Nat := if l.length ≠ N then 1 else if s.dead = true then 5 else if numN s A N = 4294967294 then 9 else threeE writeE writeS s ((A + slotN s A N * (N + 8) : Nat) : Int) (bodyL (numN s A N + 1) l)
def saveS (s : PS) (A N : Nat) (l : List UInt8) : PS := if l.length ≠ N then s else if s.dead = true then s else if numN s A N = 4294967294 then s else threeS writeE writeS s ((A + slotN s A N * (N + 8) : Nat) : Int) (bodyL (numN s A N + 1) l)

theorem Left.before {w w1 w2 : World} {F : Nat → Prop} {g : Nat} {s : PS} (h : Left PF w1 F g s w2) (hb : Below w.heap.size w w1) : Left PF w F g s w2 := by
  obtain ⟨F1, h1, h2, h3⟩ := h
  refine ⟨F1, h1, (Apart.of_below (F := F) hb).trans h2 (fun i hi => .inl hi), fun k hk => ?_⟩
  rcases h3 k hk with h4 | h4
  · exact .inl h4
  · right; have := hb.size; omega
theorem Left.refl {w : World} {F : Nat → Prop} {g : Nat} {s : PS} (h : PF w g s F) : Left PF w F g s w := ⟨F, h, Apart.refl _ _, fun _ h => .inl h⟩
theorem Left.cont {w w1 : World} {F : Nat → Prop} {g : Nat} {s : PS} (h : Left PF w F g s w1) {q : Nat} {x y : Value} (hc : Cont w q x y) (hF : ¬ F q) : Cont w1 q x y := by
  obtain ⟨F1, h1, h2, h3⟩ := h
  show w1.heap[q]? = _
  rw [h2.block q hc.lt hF]; exact hc
theorem wholeB_num {l : List UInt8} (h : wholeB l = true) : numL l ≠ 4294967295 := by
  unfold wholeB at h
  simp at h
  exact h.2
theorem newI_whole {s : PS} {A N k : Nat} (h : newI s A N = some k) : wholeB (rowL s A N k) = true := by
  unfold newI newR at h
  split at h
  · rename_i h1
    simp at h h1
    subst h
    exact h1.1
  · split at h
    · rename_i h1
      simp at h
      subst h
      exact h1
    · simp at h

set_option maxHeartbeats 3200000 in
set_option maxRecDepth 20000 in
theorem save_ok (w : World) (b g A N : Nat) (s : PS) (F : Nat → Prop) (h : BK w b g A N s F) (hFb : ¬ F b) (hn : s.n ≤ 999990) (x : Option Addr) (cx : Nat) (l : List UInt8) (hx : Sees w x cx l) (hxn : ∀ bb off, x = some ⟨bb, off, none⟩ → l ≠ [] → ¬ F bb) (E : Nat) (hE : E = saveE s A N l) (S : PS) (hS : S = saveS s A N l) :
    Calls Try.prog 15 #[.pointer (some ⟨b, 0, none⟩), .slice x l.length cx] w fun e w' => e = .returned (.int .i64 (E : Int)) ∧ Left PF w F g S w' := by
  have hst := bstands_ok w b g A N h.bk
  have c2 := h.bk.c2
  have hll : l.length ≤ 9223372036854775807 := by have := hx.fits; have := hx.room; unfold maxLen at this; omega
  have HL0 : Hid (Left PF w F g s w) := Left.refl h.fl
  by_cases hl : l.length = N
  · have hlN : ((l.length : Int) == (N : Int)) = true := by simp [hl]
    have hlN2 : (l.length : Int) = (N : Int) := by omega
    cases hd : s.dead
    · have hbd : ∀ k, F k → k < w.heap.size := pf_kept.lt h.fl
      have HW : Hid (∀ (W : World) (k z P : Nat), Below w.heap.size w W → k ≤ 1 → z < 4294967296 → P = A + k * (N + 8) → ∀ E S, E = threeE writeE writeS s P (bodyL z l) → S = threeS writeE writeS s P (bodyL z l) → Calls Try.prog 35 #[.pointer (some ⟨b, 0, none⟩), .int .i64 (k : Int), .int .u32 (z : Int), .slice x l.length cx] W fun e w' => e = .returned (.int .i64 (E : Int)) ∧ Left PF W F g S w') := fun W k z P hb hk hz hP E S hE hS =>
        bwrite_ok W b g A N s F (h.below hb) hFb hn k hk z hz x cx l (hx.below hb) hxn hl P hP E hE S hS
      cases hnw : newI s A N with
      | none =>
        have hs := newest_none w b g A N s F h.fl h.bk hd h.fits h.small h.len hnw
        have hz : numN s A N = 0 := by rw [numN, if_neg (by simp [hd]), hnw]
        have hsl : slotN s A N = 0 := by rw [slotN, hnw, if_neg (by simp)]
        have HE : Hid (E = threeE writeE writeS s (A : Nat) (bodyL 1 l) ∧ S = threeS writeE writeS s (A : Nat) (bodyL 1 l)) := by
          constructor
          · rw [hE, saveE, if_neg (by simp [hl]), if_neg (by simp [hd]), hz, if_neg (by decide), hsl, Nat.zero_mul, Nat.add_zero]
          · rw [hS, saveS, if_neg (by simp [hl]), if_neg (by simp [hd]), hz, if_neg (by decide), hsl, Nat.zero_mul, Nat.add_zero]
        clear h hx hxn hE hS hd hnw hz hsl hl
        go_enter Try.func15, Try.ntmps15
        go_wp2_with fail
        refine hst.mono ?_
        rintro e w1 ⟨rfl, rfl⟩
        clear hst
        go_wp2_with fail
        refine hs.mono ?_
        rintro e w2 ⟨rfl, hb⟩
        clear hs
        have hb2 := hb.alloc hb.size (.cells #[.slice none 0 0, .int .i64 0] 72)
        have k1 := HW.out _ 0 1 A hb2 (by omega) (by omega) (by omega) E S HE.out.1 HE.out.2
        rw [show ((0 : Nat) : Int) = 0 from rfl, show ((1 : Nat) : Int) = 1 from rfl] at k1
        clear HW hb
        go_wp2_with fail
        refine k1.mono ?_
        rintro e w3 ⟨rfl, hl3⟩
        have HL3 : Hid (Left PF w1 F g S w3) := hl3.before hb2
        clear k1 hl3
        go_wp2
        go_ret
        exact ⟨rfl, HL3.out⟩
      | some k =>
        have hs := newest_some w b g A N s F h.fl h.bk hd h.fits h.small h.len k hnw
        obtain ⟨z, hz⟩ : ∃ z, z = numL (rowL s A N k) := ⟨_, rfl⟩
        have hzN : numN s A N = z := by rw [numN, if_neg (by simp [hd]), hnw, hz]
        have hk1 := newI_le hnw
        have hrl := rowL_len s A N k hk1 h.fits
        have hzl : z < 4294967295 := by
          have h1 := numL_lt (rowL s A N k) (by omega)
          have h2 := wholeB_num (newI_whole hnw)
          omega
        have HNM : Hid (∀ W d c, RowAt W d c (rowL s A N k) → Calls Try.prog 36 #[.slice (some ⟨d, 0, none⟩) (N + 8) c] W fun e w' => e = .returned (.int .u32 (z : Int)) ∧ w' = W) := fun W d c hr => number_ok W d c _ (N + 8) hr hrl (by omega) z hz
        by_cases hfull : z = 4294967294
        · have HE : Hid (E = 9 ∧ S = s) := by
            constructor
            · rw [hE, saveE, if_neg (by simp [hl]), if_neg (by simp [hd]), hzN, if_pos hfull]
            · rw [hS, saveS, if_neg (by simp [hl]), if_neg (by simp [hd]), hzN, if_pos hfull]
          subst hfull
          clear h hx hxn hE hS hd hnw hz hzN hl HW hrl
          go_enter Try.func15, Try.ntmps15
          go_wp2_with fail
          refine hst.mono ?_
          rintro e w1 ⟨rfl, rfl⟩
          clear hst
          go_wp2_with fail
          refine hs.mono ?_
          rintro e w2 ⟨d, c, rfl, hr, hb⟩
          clear hs
          have ha : Below w2.heap.size w2 (w2.alloc (.cells #[.slice (some ⟨d, 0, none⟩) (N + 8) c, .int .i64 (k : Int)] 72)) := (Below.refl _ _).alloc (Nat.le_refl _) _
          have k1 := HNM.out _ d c (hr.below ha)
          rw [show ((4294967294 : Nat) : Int) = 4294967294 from rfl] at k1
          clear HNM hr
          go_wp2_with fail
          refine k1.mono ?_
          rintro e w3 ⟨rfl, rfl⟩
          clear k1
          have HL3 : Hid (Left PF w1 F g s (w2.alloc (.cells #[.slice (some ⟨d, 0, none⟩) (N + 8) c, .int .i64 (k : Int)] 72))) := HL0.out.next (hb.trans (ha.mono hb.size))
          go_wp2
          go_ret
          exact ⟨by rw [HE.out.1]; rfl, by rw [HE.out.2]; exact HL3.out⟩
        · obtain ⟨j, hj⟩ : ∃ j, j = slotN s A N := ⟨_, rfl⟩
          have hjk : j = 1 - k := by
            rw [hj, slotN, hnw]
            rcases (by omega : k = 0 ∨ k = 1) with rfl | rfl
            · rfl
            · rfl
          obtain ⟨P, hP⟩ : ∃ P, P = A + j * (N + 8) := ⟨_, rfl⟩
          have HE : Hid (E = threeE writeE writeS s P (bodyL (z + 1) l) ∧ S = threeS writeE writeS s P (bodyL (z + 1) l)) := by
            constructor
            · rw [hE, saveE, if_neg (by simp [hl]), if_neg (by simp [hd]), hzN, if_neg hfull, ← hj, ← hP]
            · rw [hS, saveS, if_neg (by simp [hl]), if_neg (by simp [hd]), hzN, if_neg hfull, ← hj, ← hP]
          have HW2 : Hid (∀ W, Below w.heap.size w W → Calls Try.prog 35 #[.pointer (some ⟨b, 0, none⟩), .int .i64 (j : Int), .int .u32 ((z : Int) + 1), .slice x l.length cx] W fun e w' => e = .returned (.int .i64 (E : Int)) ∧ Left PF W F g S w') := fun W hb => by
            have := HW.out W j (z + 1) P hb (by omega) (by omega) hP E S HE.out.1 HE.out.2
            rwa [show ((z + 1 : Nat) : Int) = (z : Int) + 1 by omega] at this
          have e1 : (1 : Int) - (k : Int) = (j : Int) := by omega
          have e2 : IntKind.i64.wrap (j : Int) = (j : Int) := by rw [IntKind.wrap_i64]; omega
          have e3 : IntKind.u32.wrap ((z : Int) + 1) = (z : Int) + 1 := by rw [IntKind.wrap_u32]; omega
          have d1 : ((z : Int) == 4294967294) = false := by simp; omega
          clear h hx hxn hE hS hd hnw hz hzN hl HW hrl hj hjk hP
          go_enter Try.func15, Try.ntmps15
          go_wp2_with fail
          refine hst.mono ?_
          rintro e w1 ⟨rfl, rfl⟩
          clear hst
          go_wp2_with fail
          refine hs.mono ?_
          rintro e w2 ⟨d, c, rfl, hr, hb⟩
          clear hs
          obtain ⟨V, hV⟩ : ∃ V, V = w2.alloc (.cells #[.slice (some ⟨d, 0, none⟩) (N + 8) c, .int .i64 (k : Int)] 72) := ⟨_, rfl⟩
          have ha : Below w2.heap.size w2 V := by rw [hV]; exact (Below.refl _ _).alloc (Nat.le_refl _) _
          have HR : Hid (RowAt V d c (rowL s A N k)) := hr.below ha
          have HB : Hid (Below w1.heap.size w1 V) := hb.trans (ha.mono hb.size)
          have HC : Hid (Cont V w2.heap.size (.slice (some ⟨d, 0, none⟩) (N + 8) c) (.int .i64 (k : Int))) := by rw [hV]; exact Cont.new _ _ _
          have k1 := HNM.out V d c HR.out
          have hbs : w1.heap.size ≤ w2.heap.size := hb.size
          clear hr hb ha
          go_wp2_with fail
          rw [← hV]
          clear hV
          refine k1.mono ?_
          rintro e w3 ⟨rfl, rfl⟩
          clear k1
          obtain ⟨x0, x1, x2, x3⟩ := HC.out.facts
          go_wp2
          refine wp_region_noPanic ?_
          refine wp_region_held (S := fun W => W.cell? ⟨w2.heap.size, 0, none⟩ = some (.slice (some ⟨d, 0, none⟩) (N + 8) c) ∧ W.cell? ⟨w2.heap.size, 1, none⟩ = some (.int .i64 (k : Int))) (by kernel_rfl) ?_
          have hS := (⟨x0, x1⟩ : (fun W : World => W.cell? ⟨w2.heap.size, 0, none⟩ = some (.slice (some ⟨d, 0, none⟩) (N + 8) c) ∧ W.cell? ⟨w2.heap.size, 1, none⟩ = some (.int .i64 (k : Int))) w3.drew)
          refine any_take 0 ?vr12n1 rfl (by kernel_rfl) (by kernel_rfl) (by kernel_rfl) (fun _ _ _ h => h) (by rfl) ?hr12n1 hS ?_
          case hr12n1 => (intro w hSw; (try dsimp only at hSw); go_split_ands; go_simp; (try with_reducible rfl))
          (try simp only [Act.put, List.setIfInBounds_toArray, List.set_cons_zero, List.set_cons_succ])
          refine any_take 1 ?vr12n2 rfl (by kernel_rfl) (by kernel_rfl) (by kernel_rfl) (fun _ _ _ h => h) (by rfl) ?hr12n2 hS ?_
          case hr12n2 => (intro w hSw; (try dsimp only at hSw); go_split_ands; go_simp; (try with_reducible rfl))
          (try simp only [Act.put, List.setIfInBounds_toArray, List.set_cons_zero, List.set_cons_succ])
          refine any_take 2 ?vr12n3 rfl (by kernel_rfl) (by kernel_rfl) (by kernel_rfl) (fun _ _ _ h => h) (by rfl) ?hr12n3 hS ?_
          case hr12n3 => (intro w hSw; (try dsimp only at hSw); go_split_ands; go_simp; (try with_reducible rfl))
          (try simp only [Act.put, List.setIfInBounds_toArray, List.set_cons_zero, List.set_cons_succ])
          refine any_take 3 ?vr12n4 rfl (by kernel_rfl) (by kernel_rfl) (by kernel_rfl) (fun _ _ _ h => h) (by rfl) ?hr12n4 hS ?_
          case hr12n4 => (intro w hSw; (try dsimp only at hSw); go_split_ands; go_simp; (try with_reducible rfl))
          (try simp only [Act.put, List.setIfInBounds_toArray, List.set_cons_zero, List.set_cons_succ])
          refine any_take 4 ?vr12n5 rfl (by kernel_rfl) (by kernel_rfl) (by kernel_rfl) (fun _ _ _ h => h) (by rfl) ?hr12n5 hS ?_
          case hr12n5 => (intro w hSw; (try dsimp only at hSw); go_split_ands; go_simp; (try with_reducible rfl))
          (try simp only [Act.put, List.setIfInBounds_toArray, List.set_cons_zero, List.set_cons_succ])
          refine any_take 5 ?vr12n6 rfl (by kernel_rfl) (by kernel_rfl) (by kernel_rfl) (fun _ _ _ h => h) (by rfl) ?hr12n6 hS ?_
          case hr12n6 => (intro w hSw; (try dsimp only at hSw); go_split_ands; go_simp; (try with_reducible rfl))
          (try simp only [Act.put, List.setIfInBounds_toArray, List.set_cons_zero, List.set_cons_succ])
          refine any_take 8 ?vr12n7 rfl (by kernel_rfl) (by kernel_rfl) (by kernel_rfl) (fun _ _ _ h => h) (by rfl) ?hr12n7 hS ?_
          case hr12n7 => (intro w hSw; (try dsimp only at hSw); go_split_ands; go_simp; (try with_reducible rfl))
          (try simp only [Act.put, List.setIfInBounds_toArray, List.set_cons_zero, List.set_cons_succ])
          refine any_one 6 rfl (by kernel_rfl) (by rfl) (fun K hK => ?_)
          clear hS
          go_simp
          refine (HNM.out w3.drew d c (RowAt.keep (w' := w3.drew) HR.out rfl)).mono ?_
          rintro e w6 ⟨rfl, rfl⟩
          refine hK.out _ _ (⟨x0, x1⟩) (fun hS => ?_)
          clear hK
          (try simp only [Act.put, List.setIfInBounds_toArray, List.set_cons_zero, List.set_cons_succ])
          refine any_take 7 ?vr12n8 rfl (by kernel_rfl) (by kernel_rfl) (by kernel_rfl) (fun _ _ _ h => h) (by rfl) ?hr12n8 hS ?_
          case hr12n8 => (intro w hSw; (try dsimp only at hSw); go_split_ands; go_simp; (try with_reducible rfl))
          (try simp only [Act.put, List.setIfInBounds_toArray, List.set_cons_zero, List.set_cons_succ])
          refine any_one 9 rfl (by kernel_rfl) (by rfl) (fun K hK => ?_)
          clear hS
          go_simp
          refine (HW2.out _ HB.out.drew).mono ?_
          rintro e w9 ⟨rfl, hl9⟩
          have hc9 := hl9.cont (HC.out : Cont w3.drew w2.heap.size _ _) (fun hF => by have := hbd _ hF; omega)
          have HL9 : Hid (Left PF w1 F g S w9) := hl9.before HB.out.drew
          clear hl9
          refine hK.out _ _ (⟨hc9.c0, hc9.c1⟩) (fun hS => ?_)
          clear hK
          (try simp only [Act.put, List.setIfInBounds_toArray, List.set_cons_zero, List.set_cons_succ])
          refine any_take 10 ?vr12n9 rfl (by kernel_rfl) (by kernel_rfl) (by kernel_rfl) (fun _ _ _ h => h) (by rfl) ?hr12n9 hS ?_
          case hr12n9 => (intro w hSw; (try dsimp only at hSw); go_split_ands; go_simp; (try with_reducible rfl))
          (try simp only [Act.put, List.setIfInBounds_toArray, List.set_cons_zero, List.set_cons_succ])
          refine wpAnyH_done (by kernel_rfl) ?_ _
          refine NoPanic.normal ?_
          go_wp2
          go_ret
          exact ⟨rfl, HL9.out⟩
    · have hs := newest_dead w b g A N s F h.fl h.bk hd h.hA h.small
      have HE : Hid (E = 5 ∧ S = s) := by
        constructor
        · rw [hE, saveE, if_neg (by simp [hl]), if_pos hd]
        · rw [hS, saveS, if_neg (by simp [hl]), if_pos hd]
      clear h hx hxn hE hS hd hl
      go_enter Try.func15, Try.ntmps15
      go_wp2_with fail
      refine hst.mono ?_
      rintro e w1 ⟨rfl, rfl⟩
      clear hst
      go_wp2_with fail
      refine hs.mono ?_
      rintro e w2 ⟨rfl, hb⟩
      clear hs
      have HL3 : Hid (Left PF w1 F g s (w2.alloc (.cells #[.slice none 0 0, .int .i64 0] 72))) := HL0.out.next (hb.alloc hb.size _)
      go_wp2
      go_ret
      exact ⟨by rw [HE.out.1]; rfl, by rw [HE.out.2]; exact HL3.out⟩
  · have HE : Hid (E = 1 ∧ S = s) := by
      constructor
      · rw [hE, saveE, if_pos hl]
      · rw [hS, saveS, if_pos hl]
    have hlN : ((l.length : Int) == (N : Int)) = false := by simp; omega
    have hlN2 : ¬ (l.length : Int) = (N : Int) := by omega
    clear h hx hxn hE hS hl
    go_enter Try.func15, Try.ntmps15
    go_wp2_with fail
    refine hst.mono ?_
    rintro e w1 ⟨rfl, rfl⟩
    clear hst
    go_wp2
    go_ret
    exact ⟨by rw [HE.out.1]; rfl, by rw [HE.out.2]; exact HL0.out⟩
end Go.Proofs.Ytgnllmcgebonpaa
