/-
  The contract of takeOut.
-/
import Derived.Test.YteehkekmaikeiaaBufP
import Derived.WalkMore
namespace Go.Proofs.Yteehkekmaikeiaa
open Go.ChangeShapes Go.WideShapes Go.ChangeAt Go.RowKit

set_option maxHeartbeats 800000 in
set_option maxRecDepth 20000 in
theorem takeOut_ok (w : World) (g m : Nat) (v : Value) (s : Bs) (ss : List Sl) (n : Nat) (h : Pb w g m v s ss n) (hn : n ≤ 900000) (M : Nat) (hM : M ≤ 1000) (q : It → Bool) (p : Key → Bool) (hqp : ∀ x, q x = p x.k) (i : Nat) (c : Value)
    (hcall : ∀ args W, (callFunc i args).run Try.prog W = .ok (.enter i args) W)
    (hch : ∀ W k, wfK k → Calls Try.prog i #[c, keyV k] W fun e w' => e = .returned (.bool (p k)) ∧ Below W.heap.size W w') :
    Calls Try.prog 24 #[.pointer (some ⟨g, 0, none⟩), .int .i64 (M : Int), .func (.func i) #[c] #[]] w fun e w' => ∃ vo, e = .returned vo ∧ Taken w g m v s n q M vo w' := by
  obtain ⟨a, cap, rfl, hcap, hmax, hnil, haq, _⟩ := h.row.shape
  have hlen : ss.length ≤ 64 := by have := h.ok.len; have := h.ok.hi; have := congrArg List.length h.its; simp at this; omega
  have HP : Hid (Pb w g m (.slice a ss.length cap) s ss n) := h
  have HS : Hid (Going w g m a cap s ss n (fun x => q x.1) M ss.length (.slice none 0 0) w) := Going.start h _ M
  have c2 := h.at'.c2
  have HQ : Hid (∀ b, a = some b → ∃ q, b = ⟨q, 0, none⟩) := haq
  have HCH : Hid (∀ W k, wfK k → Calls Try.prog i #[c, keyV k] W fun e w' => e = .returned (.bool (p k)) ∧ Below W.heap.size W w') := hch
  have HQP : Hid (∀ x, q x = p x.k) := hqp
  have hcm : cap ≤ 9223372036854775807 := by unfold maxLen at hmax; omega
  obtain ⟨N, hN⟩ : ∃ N, N = ss.length := ⟨_, rfl⟩
  rw [← hN] at hlen hcap c2
  have HN : Hid (N = ss.length) := hN
  have e0 : IntKind.i64.wrap ((N : Int) - 1) = (N : Int) - 1 := by rw [IntKind.wrap_i64]; omega
  clear h hnil haq hch hqp hmax hN
  go_enter Try.func24, Try.ntmps24
  go_wp2_with fail
  go_step3
  go_wp2_with fail
  go_step3
  go_wp2_with fail
  clear c2 e0
  go_loopw [7, 8] (fun s7 s8 wr => ∃ (j : Nat) (z : Int), s8 = .int .i64 z ∧ z = (j : Int) - 1 ∧ j ≤ N ∧ Going w g m a cap s ss n (fun x => q x.1) M j s7 wr) (fun _ s8 _ => (intOf s8 + 1).toNat)
  case atStart => exact ⟨N, _, rfl, rfl, Nat.le_refl _, by rw [HN.out]; exact HS.out⟩
  case round =>
    obtain ⟨j, z, rfl, hz, hj, hG⟩ := hrel
    clear HS
    obtain ⟨ao, co, rfl, _⟩ := hG.out.shape
    have hol : (outL (fun x => q x.1) M ss j).length ≤ M := by simpa [outL] using (split_len (fun x : Sl => q x.1) M (ss.drop j)).2
    obtain ⟨O, hO⟩ : ∃ O, O = (outL (fun x => q x.1) M ss j).length := ⟨_, rfl⟩
    rw [← hO] at hol hG ⊢
    rcases j with _ | j
    · obtain rfl : z = -1 := by omega
      have KR : Hid (Calls Try.prog 34 #[.slice ao O co] wr fun e w' => e = .returned (.tuple #[]) ∧ Taken w g m (.slice a ss.length cap) s n q M (.slice ao O co) w') := by
        refine (reverse_ok wr _ _ hG.out (by rw [← hO]; omega)).mono ?_
        rintro e w' ⟨rfl, h1, h2⟩
        exact ⟨rfl, hG.done HP.out (.inl rfl) h1 h2⟩
      clear hG hO hz hj hol
      go_wp2_with fail
      refine KR.out.mono ?_
      rintro e w' ⟨rfl, hT⟩
      have HT : Hid (Taken w g m (.slice a ss.length cap) s n q M (.slice ao O co) w') := hT
      clear hT KR
      go_wp2
      simp only [Exit.noGoto_ret]
      go_ret
      exact ⟨_, rfl, HT.out⟩
    · obtain rfl : z = (j : Int) := by omega
      obtain ⟨x, hx⟩ : ∃ x, ss[j]? = some x := ⟨ss[j]'(by have := HN.out; omega), by rw [List.getElem?_eq_getElem]⟩
      have hwf : wfK x.1.k := wfK_of (HP.out.ok.arg x.1 (by rw [← HP.out.its]; exact List.mem_map.2 ⟨x, List.mem_of_getElem? hx, rfl⟩))
      have hlx := left_at (p := fun x => q x.1) (M := M) hx
      obtain ⟨_, b, hab, hcell⟩ := Row.get hG.row hlx
      subst hab
      have c2 := hG.at'.c2
      obtain ⟨L, hL⟩ : ∃ L, L = (leftL (fun x => q x.1) M ss (j + 1)).length := ⟨_, rfl⟩
      have hjL : j < L := by rw [hL]; exact (List.getElem?_eq_some_iff.1 hlx).1
      have hLl : L ≤ 64 := by
        have h1 := split_len (fun x : Sl => q x.1) M (ss.drop (j + 1))
        have h2 := HN.out
        rw [List.length_drop] at h1
        rw [hL, leftL, List.length_append, List.length_take]
        omega
      rw [← hL] at c2
      have x0 := hcell 0 _ rfl
      have x1 := hcell 1 _ rfl
      have x2 := hcell 2 _ rfl
      rw [show E57.n = 3 from rfl] at x0 x1 x2
      rw [Nat.add_zero] at x0
      obtain ⟨W, hW⟩ : ∃ W, W = wr.alloc (.cells #[.int .i64 x.1.e, .int .i64 x.1.i, .slice x.2.1 x.1.b.length x.2.2] 57) := ⟨_, rfl⟩
      have hbW : Below wr.heap.size wr W := by rw [hW]; exact (Below.refl _ _).alloc (Nat.le_refl _) _
      have r1 : W.heap[wr.heap.size]? = some (.cells #[.int .i64 x.1.e, .int .i64 x.1.i, .slice x.2.1 x.1.b.length x.2.2] 57 (0, 0)) := by rw [hW]; exact heap_alloc_new _ _
      have hGW : Going w g m (some ⟨b, 0, none⟩) cap s ss n (fun x => q x.1) M (j + 1) (.slice ao O co) W := Mid.below hG hbW
      have g1 : (j : Int) < (L : Int) := by omega
      have g2 : (0 : Int) ≤ (j : Int) := Int.natCast_nonneg _
      have HW : Hid (W = wr.alloc (.cells #[.int .i64 x.1.e, .int .i64 x.1.i, .slice x.2.1 x.1.b.length x.2.2] 57)) := hW
      have HG : Hid (Going w g m (some ⟨b, 0, none⟩) cap s ss n (fun x => q x.1) M (j + 1) (.slice ao O co) W) := hGW
      have HX : Hid (ss[j]? = some x ∧ wfK x.1.k) := ⟨hx, hwf⟩
      have HO : Hid (O = (outL (fun x => q x.1) M ss (j + 1)).length ∧ O ≤ M) := ⟨hO, hol⟩
      have HL : Hid (L = (leftL (fun x => q x.1) M ss (j + 1)).length) := hL
      have HJ : Hid (j + 1 ≤ N) := hj
      have HB : Hid (wr.heap.size < W.heap.size) := (Array.getElem?_eq_some_iff.1 r1).1
      have b0 := cell_of_row _ _ 0 _ _ _ r1
      have b1 := cell_of_row _ _ 1 _ _ _ r1
      have HR1 : Hid (W.heap[wr.heap.size]? = some (.cells #[.int .i64 x.1.e, .int .i64 x.1.i, .slice x.2.1 x.1.b.length x.2.2] 57 (0, 0))) := r1
      have hjc : (j : Int) < (cap : Int) := by
        obtain ⟨_, _, e, h1, _⟩ := hG.row.shape
        cases e
        omega
      obtain ⟨B, hB⟩ : ∃ B, B = wr.heap.size := ⟨_, rfl⟩
      rw [← hB] at b0 b1 HR1 HB
      have HBB : Hid (B = wr.heap.size) := hB
      have HBw : Hid (w.heap.size ≤ B) := by rw [hB]; exact hG.apart.size
      obtain ⟨xe, hxe⟩ : ∃ xe, xe = x.1.e := ⟨_, rfl⟩
      obtain ⟨xi, hxi⟩ : ∃ xi, xi = x.1.i := ⟨_, rfl⟩
      obtain ⟨xl, hxl⟩ : ∃ xl, xl = x.1.b.length := ⟨_, rfl⟩
      obtain ⟨xa, hxa⟩ : ∃ xa, xa = x.2.1 := ⟨_, rfl⟩
      obtain ⟨xc, hxc⟩ : ∃ xc, xc = x.2.2 := ⟨_, rfl⟩
      rw [← hxe] at x0 b0 HW HR1
      rw [← hxi] at x1 b1 HW HR1
      rw [← hxl, ← hxa, ← hxc] at x2 HW HR1
      have HK : Hid (keyV x.1.k = .agg #[.int .i64 xe, .int .i64 xi]) := by show keyV x.1.k = _; rw [hxe, hxi]; rfl
      have HZ : Hid (blC (blOf x) = [.slice xa xl xc]) := by show blC (blOf x) = _; rw [hxa, hxl, hxc]; rfl
      clear hG hGW hx hwf hlx hcell hL hLl hjL hW hbW r1 hz hj hol hO hB hxe hxi hxl hxa hxc
      by_cases hOM : O = M
      · have KR : Hid (Calls Try.prog 34 #[.slice ao O co] W fun e w' => e = .returned (.tuple #[]) ∧ Taken w g m (.slice (some ⟨b, 0, none⟩) ss.length cap) s n q M (.slice ao O co) w') := by
          refine (reverse_ok W _ _ HG.out.out (by rw [← HO.out.1]; omega)).mono ?_
          rintro e w' ⟨rfl, h1, h2⟩
          exact ⟨rfl, HG.out.done HP.out (.inr (by rw [← HO.out.1]; exact hOM)) h1 h2⟩
        have g3 : (O : Int) = (M : Int) := by omega
        clear hOM
        go_wp2_with fail
        rw [← HW.out]
        refine KR.out.mono ?_
        rintro e w' ⟨rfl, hT⟩
        have HT : Hid (Taken w g m (.slice (some ⟨b, 0, none⟩) ss.length cap) s n q M (.slice ao O co) w') := hT
        clear hT KR
        go_wp2
        simp only [Exit.noGoto_ret]
        go_ret
        exact ⟨_, rfl, HT.out⟩
      · have g3 : ¬ ((O : Int) = (M : Int)) := by omega
        have HOM : Hid (O ≠ M) := hOM
        have KC : Hid (Calls Try.prog i #[c, .agg #[.int .i64 xe, .int .i64 xi]] W fun e w' => e = .returned (.bool (p x.1.k)) ∧ Below W.heap.size W w') := by
          show Calls Try.prog i _ W _
          rw [← HK.out]; exact HCH.out W x.1.k HX.out.2
        have e1 : IntKind.i64.wrap ((j : Int) - 1) = (j : Int) - 1 := by have := HJ.out; rw [IntKind.wrap_i64]; omega
        clear hOM
        go_wp2_with fail
        rw [← HW.out, ← HBB.out]
        refine KC.out.mono ?_
        rintro e w2 ⟨rfl, hb2⟩
        have hG2 : Going w g m (some ⟨b, 0, none⟩) cap s ss n (fun x => q x.1) M (j + 1) (.slice ao O co) w2 := Mid.below HG.out hb2
        have R2 : w2.heap[B]? = some (.cells #[.int .i64 xe, .int .i64 xi, .slice xa xl xc] 57 (0, 0)) := (hb2.block B HB.out).trans HR1.out
        clear KC hb2 b0 b1 x0 x1 x2 c2 HW HBB
        cases hp : p x.1.k
        · have HE : Hid (Going w g m (some ⟨b, 0, none⟩) cap s ss n (fun x => q x.1) M j (.slice ao O co) w2) := Going.stays hG2 HX.out.1 (by rw [HQP.out]; exact hp)
          clear hG2 R2
          go_wp2
          go_roundw
          case rel => exact ⟨j, _, rfl, rfl, by have := HJ.out; omega, HE.out⟩
          case measure => simp [intOf]
        · obtain ⟨W8, hW8⟩ : ∃ W8, W8 = w2.alloc (.cells #[.slice xa xl xc] 22) := ⟨_, rfl⟩
          have hb8 : Below w2.heap.size w2 W8 := by rw [hW8]; exact (Below.refl _ _).alloc (Nat.le_refl _) _
          have r8 : W8.heap[w2.heap.size]? = some (.cells #[.slice xa xl xc] 22 (0, 0)) := by rw [hW8]; exact heap_alloc_new _ _
          have hG8 : Going w g m (some ⟨b, 0, none⟩) cap s ss n (fun x => q x.1) M (j + 1) (.slice ao O co) W8 := Mid.below hG2 hb8
          have R8 : W8.heap[B]? = some (.cells #[.int .i64 xe, .int .i64 xi, .slice xa xl xc] 57 (0, 0)) := (hb8.block B (Array.getElem?_eq_some_iff.1 R2).1).trans R2
          obtain ⟨vo', w3, hrun, hrow3, hap3, hnew3⟩ := hG8.out.append [blOf x] (by rw [← HO.out.1]; have := HO.out.2; simp; omega) (some ⟨w2.heap.size, 0, none⟩) 1 (fun _ => ⟨w2.heap.size, 0, rfl, fun t u hu => by
            rw [show E22.cs [blOf x] = [.slice xa xl xc] from by rw [← HZ.out]; rfl] at hu
            rw [cell_of_row _ _ (0 + t) _ _ _ r8, Nat.zero_add, ← Array.getElem?_toList]; exact hu⟩)
          have hM3 := Mid.outs hG8 hrow3 hap3 hnew3
          obtain ⟨a3, c3, e3, _⟩ := hrow3.shape
          have el3 : (outL (fun x => q x.1) M ss (j + 1) ++ [blOf x]).length = O + 1 := by rw [List.length_append, ← HO.out.1]; rfl
          rw [el3] at e3
          subst e3
          have R3 : w3.heap[B]? = some (.cells #[.int .i64 xe, .int .i64 xi, .slice xa xl xc] 57 (0, 0)) := (hap3.block B (Array.getElem?_eq_some_iff.1 R8).1 (fun e => by
            obtain ⟨cur, h1, _⟩ := hG8.out.isRow e
            rw [h1] at R8; cases R8)).trans R8
          have HR : Hid ((Builtin.append_ #[24, 24] 24 #[.slice ao O co, .slice (some ⟨w2.heap.size, 0, none⟩) 1 1]).run Try.prog W8 = .ok (.slice a3 (O + 1) c3) w3) := hrun
          have HW8 : Hid (W8 = w2.alloc (.cells #[.slice xa xl xc] 22)) := hW8
          have hjl : j < (leftL (fun x => q x.1) M ss (j + 1)).length := (List.getElem?_eq_some_iff.1 (left_at (p := fun x => q x.1) (M := M) HX.out.1)).1
          have hll : (leftL (fun x => q x.1) M ss (j + 1)).length ≤ 64 := by
            have h1 := split_len (fun x : Sl => q x.1) M (ss.drop (j + 1))
            have h2 := HN.out
            rw [List.length_drop] at h1
            rw [leftL, List.length_append, List.length_take]
            omega
          have hel : ((leftL (fun x => q x.1) M ss (j + 1)).eraseIdx j).length = L - 1 := by rw [List.length_eraseIdx, if_pos hjl, ← HL.out]
          obtain ⟨J, hJ⟩ : ∃ J, J = j + 1 := ⟨_, rfl⟩
          obtain ⟨L1, hL1⟩ : ∃ L1, L1 = L - 1 := ⟨_, rfl⟩
          have hLL := HL.out
          have hB3 : B < w3.heap.size := (Array.getElem?_eq_some_iff.1 R3).1
          have hbB : b ≠ B := by
            rintro rfl
            have h1 := hM3.old b (.inr (.inr rfl))
            have h2 := HBw.out
            omega
          have KD : Hid (Calls Try.prog 32 #[.slice (some ⟨b, 0, none⟩) L cap, .int .i64 (j : Int), .int .i64 (J : Int)] w3 fun e w' => e = .returned (.slice (some ⟨b, 0, none⟩) L1 cap) ∧
              w'.cell? ⟨g, 2, none⟩ = some (.slice (some ⟨b, 0, none⟩) L cap) ∧ w'.frozen? ⟨g, 2, none⟩ = false ∧
              (w'.setCell ⟨g, 2, none⟩ (.slice (some ⟨b, 0, none⟩) L1 cap)).cell? ⟨B, 0, none⟩ = some (.int .i64 xe) ∧ (w'.setCell ⟨g, 2, none⟩ (.slice (some ⟨b, 0, none⟩) L1 cap)).cell? ⟨B, 1, none⟩ = some (.int .i64 xi) ∧
              Calls Try.prog 33 #[.pointer (some ⟨g, 0, none⟩), .agg #[.int .i64 xe, .int .i64 xi]] (w'.setCell ⟨g, 2, none⟩ (.slice (some ⟨b, 0, none⟩) L1 cap)) fun e w'' => e = .returned (.tuple #[]) ∧ Going w g m (some ⟨b, 0, none⟩) cap s ss n (fun x => q x.1) M j (.slice a3 (O + 1) c3) w'') := by
            have h0 := delete_ok w3 b cap j _ hM3.row hjl (by omega)
            rw [← hLL, show ((j + 1 : Nat) : Int) = (J : Int) from by rw [hJ], ← hL1] at h0
            refine Calls.mono h0 ?_
            rintro e w' ⟨rfl, h1, h2⟩
            have h3 := hM3.rows (cur' := (leftL (fun x => q x.1) M ss (j + 1)).eraseIdx j) (by rw [hel, ← hL1]; exact h1) (h2.mono fun k hk => by subst hk; rfl)
            have h4 := h3.lens L1
            have hgB : g ≠ B := by
              rintro rfl
              have := h3.at'
              unfold PA at this
              rw [h2.block g hB3 (fun e => hbB e.symm), R3] at this
              cases this
            have R5 : (w'.setCell ⟨g, 2, none⟩ (.slice (some ⟨b, 0, none⟩) L1 cap)).heap[B]? = some (.cells #[.int .i64 xe, .int .i64 xi, .slice xa xl xc] 57 (0, 0)) := by
              rw [heap_setCell_other _ _ _ _ (fun e => hgB e.symm), h2.block B hB3 (fun e => hbB e.symm), R3]
            have hc2 := h3.at'.c2
            rw [← hLL] at hc2
            refine ⟨rfl, hc2, h3.at'.fz 2, cell_of_row _ _ 0 _ _ _ R5, cell_of_row _ _ 1 _ _ _ R5, ?_⟩
            have hpos := cnt_pos (L := (leftL (fun x => q x.1) M ss (j + 1)).map Prod.fst) (x := x.1) (List.mem_map.2 ⟨x, List.mem_of_getElem? (left_at (p := fun x => q x.1) (M := M) HX.out.1), rfl⟩)
            have hle := cnt_le ((leftL (fun x => q x.1) M ss (j + 1)).map Prod.fst) x.1.k
            rw [List.length_map] at hle
            have h5 := uncount_ok _ g m _ _ x.1.k h4.at'.c3 h4.map (by have := HN.out; omega) HX.out.2 hpos (by omega)
            rw [HK.out] at h5
            refine Calls.mono h5 ?_
            rintro e w'' ⟨rfl, h6, h7⟩
            refine ⟨rfl, ?_⟩
            obtain ⟨q1, q2⟩ := left_goes (p := fun x => q x.1) (M := M) HX.out.1 (by show q x.1 = true; rw [HQP.out]; exact hp) (by rw [← HO.out.1]; exact HOM.out)
            unfold Going
            rw [q1, q2, hel, ← hL1]
            refine h4.maps ((h6.mono ?_).congr fun k => cnt_erase (left_at (p := fun x => q x.1) (M := M) HX.out.1) k) h7
            have := HN.out; have := HJ.out; omega
          have e4 : IntKind.i64.wrap ((j : Int) + 1) = (J : Int) := by have := HJ.out; rw [IntKind.wrap_i64]; omega
          have c23 := hM3.at'.c2
          rw [← hLL] at c23
          have bx2 := cell_of_row _ _ 2 _ _ _ R2
          clear hM3 hG2 hG8 hrow3 hap3 hnew3 hrun hW8 hb8 r8 R8 R3 R2 hjl hll hel hJ hL1 hLL hB3 hbB el3
          go_wp2_with (at_builtin; rw [← HW8.out]; refine wpList_append_run rfl (.tmp 38) (.tmp 41) 24 rfl _ _ _ rfl rfl HR.out ?_)
          refine KD.out.mono ?_
          rintro e w4 ⟨rfl, y0, y1, y2, y3, y4⟩
          have KU : Hid (Calls Try.prog 33 #[.pointer (some ⟨g, 0, none⟩), .agg #[.int .i64 xe, .int .i64 xi]] (w4.setCell ⟨g, 2, none⟩ (.slice (some ⟨b, 0, none⟩) L1 cap)) fun e w'' => e = .returned (.tuple #[]) ∧ Going w g m (some ⟨b, 0, none⟩) cap s ss n (fun x => q x.1) M j (.slice a3 (O + 1) c3) w'') := y4
          clear KD y4 c23 bx2
          go_wp2_with fail
          refine KU.out.mono ?_
          rintro e w5 ⟨rfl, hE⟩
          have HE : Hid (Going w g m (some ⟨b, 0, none⟩) cap s ss n (fun x => q x.1) M j (.slice a3 (O + 1) c3) w5) := hE
          clear hE KU
          go_wp2
          go_roundw
          case rel => exact ⟨j, _, rfl, rfl, by have := HJ.out; omega, HE.out⟩
          case measure => simp [intOf]
end Go.Proofs.Yteehkekmaikeiaa
