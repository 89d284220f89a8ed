/-
  The document's Take and Drop.
-/
import Derived.Test.YteehkekmaikeiaaRefB
namespace Go.Proofs.Yteehkekmaikeiaa
open Go.ChangeShapes Go.WideShapes Go.ChangeAt Go.RowKit

/-- Two lists of its own beside a world that stays: bytes, and what waits. -/
structure Two (w : World) (vo : Value) (os : List Bl) (vl : Value) (ls : List Sl) (W : World) : Prop where
  bel : Below w.heap.size w W
  out : Row E22 W vo os
  row : Row E59 W vl ls
  newo : ∀ k, vo.ownBlock = some k → w.heap.size ≤ k
  newl : ∀ k, vl.ownBlock = some k → w.heap.size ≤ k
theorem Two.ne {w : World} {vo : Value} {os : List Bl} {vl : Value} {ls : List Sl} {W : World} (h : Two w vo os vl ls W) {k : Nat} (h1 : vo.ownBlock = some k) (h2 : vl.ownBlock = some k) : False := by
  obtain ⟨c1, e1, _⟩ := h.out.isRow h1
  obtain ⟨c2, e2, _⟩ := h.row.isRow h2
  rw [e1] at e2
  have : E22.T = E59.T := by injection e2 with e3; injection e3
  exact absurd this (by decide)
theorem Two.below {w : World} {vo : Value} {os : List Bl} {vl : Value} {ls : List Sl} {W W' : World} (h : Two w vo os vl ls W) (hb : Below W.heap.size W W') : Two w vo os vl ls W' :=
  ⟨h.bel.trans (hb.mono h.bel.size), h.out.below hb, h.row.below hb, h.newo, h.newl⟩
theorem Two.out1 {w : World} {vo vo' : Value} {os os' : List Bl} {vl : Value} {ls : List Sl} {W W' : World} (h : Two w vo os vl ls W) (hr : Row E22 W' vo' os') (ha : Apart (fun k => vo.ownBlock = some k) W W') (hn : ∀ k, vo'.ownBlock = some k → vo.ownBlock = some k ∨ W.heap.size ≤ k) : Two w vo' os' vl ls W' :=
  ⟨ha.below h.bel h.newo h.bel.size, hr, h.row.apart ha fun k hk e => h.ne e hk, fun k hk => by
    rcases hn k hk with e | e
    · exact h.newo k e
    · exact Nat.le_trans h.bel.size e, h.newl⟩
theorem Two.row1 {w : World} {vo : Value} {os : List Bl} {vl vl' : Value} {ls ls' : List Sl} {W W' : World} (h : Two w vo os vl ls W) (hr : Row E59 W' vl' ls') (ha : Apart (fun k => vl.ownBlock = some k) W W') (hn : ∀ k, vl'.ownBlock = some k → vl.ownBlock = some k ∨ W.heap.size ≤ k) : Two w vo os vl' ls' W' :=
  ⟨ha.below h.bel h.newl h.bel.size, h.out.apart ha fun k hk e => h.ne hk e, hr, h.newo, fun k hk => by
    rcases hn k hk with e | e
    · exact h.newl k e
    · exact Nat.le_trans h.bel.size e⟩
/-- Bytes more. -/
theorem Two.addo {w : World} {oa : Option Addr} {on oc : Nat} {os : List Bl} {vl : Value} {ls : List Sl} {W : World} (h : Two w (.slice oa on oc) os vl ls W) (hl : os.length ≤ 900) (x : Sl) :
    ∃ a' c' W1, (Builtin.append_ #[24, 24] 24 #[.slice oa on oc, .slice (some ⟨W.heap.size, 0, none⟩) 1 1]).run Try.prog (W.alloc (.cells #[.slice x.2.1 x.1.b.length x.2.2] 22)) = .ok (.slice a' (on + 1) c') W1 ∧ Two w (.slice a' (on + 1) c') (os ++ [blOf x]) vl ls W1 := by
  obtain ⟨V, hV⟩ : ∃ V, V = W.alloc (.cells #[.slice x.2.1 x.1.b.length x.2.2] 22) := ⟨_, rfl⟩
  have hb : Below W.heap.size W V := by rw [hV]; exact (Below.refl _ _).alloc (Nat.le_refl _) _
  have hr : V.heap[W.heap.size]? = some (.cells #[.slice x.2.1 x.1.b.length x.2.2] 22 (0, 0)) := by rw [hV]; exact heap_alloc_new _ _
  rw [← hV]
  have h1 := h.below hb
  obtain ⟨v', W1, hrun, hrow, hap, hnew⟩ := h1.out.append [blOf x] (by simp; omega) (some ⟨W.heap.size, 0, none⟩) 1 (fun _ => ⟨W.heap.size, 0, rfl, fun t u hu => by
    rw [show E22.cs [blOf x] = [.slice x.2.1 x.1.b.length x.2.2] from rfl] at hu
    rw [cell_of_row _ _ (0 + t) _ _ _ hr, Nat.zero_add, ← Array.getElem?_toList]; exact hu⟩)
  have h2 := h1.out1 hrow hap hnew
  obtain ⟨a', c', rfl, -⟩ := hrow.shape
  have el : (os ++ [blOf x]).length = on + 1 := by
    obtain ⟨_, _, e, _⟩ := h.out.shape
    cases e
    simp
  rw [el] at hrun h2
  exact ⟨a', c', W1, hrun, h2⟩
/-- One more that waits. -/
theorem Two.addl {w : World} {la : Option Addr} {ln lc : Nat} {os : List Bl} {vo : Value} {ls : List Sl} {W : World} (h : Two w vo os (.slice la ln lc) ls W) (hl : ls.length ≤ 900) (x : Sl) :
    ∃ a' c' W1, (Builtin.append_ #[40, 40] 40 #[.slice la ln lc, .slice (some ⟨W.heap.size, 0, none⟩) 1 1]).run Try.prog (W.alloc (.cells #[.int .i64 x.1.e, .int .i64 x.1.i, .slice x.2.1 x.1.b.length x.2.2] 59)) = .ok (.slice a' (ln + 1) c') W1 ∧ Two w vo os (.slice a' (ln + 1) c') (ls ++ [x]) W1 := by
  obtain ⟨V, hV⟩ : ∃ V, V = W.alloc (.cells #[.int .i64 x.1.e, .int .i64 x.1.i, .slice x.2.1 x.1.b.length x.2.2] 59) := ⟨_, rfl⟩
  have hb : Below W.heap.size W V := by rw [hV]; exact (Below.refl _ _).alloc (Nat.le_refl _) _
  have hr : V.heap[W.heap.size]? = some (.cells #[.int .i64 x.1.e, .int .i64 x.1.i, .slice x.2.1 x.1.b.length x.2.2] 59 (0, 0)) := by rw [hV]; exact heap_alloc_new _ _
  rw [← hV]
  have h1 := h.below hb
  obtain ⟨v', W1, hrun, hrow, hap, hnew⟩ := h1.row.append [x] (by simp; omega) (some ⟨W.heap.size, 0, none⟩) 1 (fun _ => ⟨W.heap.size, 0, rfl, fun t u hu => by
    rw [show E59.cs [x] = [.int .i64 x.1.e, .int .i64 x.1.i, .slice x.2.1 x.1.b.length x.2.2] from rfl] at hu
    rw [cell_of_row _ _ (0 + t) _ _ _ hr, Nat.zero_add, ← Array.getElem?_toList]; exact hu⟩)
  have h2 := h1.row1 hrow hap hnew
  obtain ⟨a', c', rfl, -⟩ := hrow.shape
  have el : (ls ++ [x]).length = ln + 1 := by
    obtain ⟨_, _, e, _⟩ := h.row.shape
    cases e
    simp
  rw [el] at hrun h2
  exact ⟨a', c', W1, hrun, h2⟩
/-- The list is put into the field. -/
theorem Two.done {w : World} {r : Nat} {v : Value} {s : Bs} {ss : List Sl} (h : Rb w r v s ss) {vo : Value} {os : List Bl} {vl : Value} {p : Sl → Bool} {q : It → Bool} (hpq : ∀ x : Sl, p x = q x.1) {W : World} (hT : Two w vo os vl (ss.filter p) W) (hos : ∀ y ∈ os, ∃ x ∈ ss, y = blOf x) :
    RLeft w r v { s with L := s.L.filter q } (W.setCell ⟨r, 1, none⟩ vl) ∧ Told (W.setCell ⟨r, 1, none⟩ vl) w.heap.size vo (os.map Prod.fst) := by
  have h2 := h.below hT.bel
  have hag : Apart (fun k => k = r) W (W.setCell ⟨r, 1, none⟩ vl) := (Apart.refl (fun k => k = r) W).setCell (b := r) (.inl rfl) 1 _
  have hr := h.at'.lt
  have hpl : ∀ k, k = r → Plain W k := fun k hk => hk ▸ h2.plain (.inl rfl)
  refine ⟨⟨vl, ss.filter p, ⟨h2.at'.put1 _, hT.row.apart hag fun k hk e => by have := hT.newl k hk; omega, ?_, fun y hy => (h2.seen y (List.mem_filter.1 hy).1).apart hag hpl, h.ok.filter q⟩, (Apart.of_below (F := fun k => k = r) hT.bel).trans hag fun i hi => .inl hi, fun k hk => .inr (hT.newl k hk)⟩, os, hT.out.apart hag fun k hk e => by have := hT.newo k hk; omega, fun y hy => ?_, rfl, hT.newo⟩
  · show _ = s.L.filter q
    rw [← h.its, List.filter_map]
    congr 1
    exact List.filter_congr fun x _ => hpq x
  · obtain ⟨x, hx, rfl⟩ := hos y hy
    exact (h2.seen x hx).apart hag hpl

set_option maxHeartbeats 1600000 in
set_option maxRecDepth 20000 in
theorem rtake_ok (w : World) (r : Nat) (v : Value) (s : Bs) (ss : List Sl) (h : Rb w r v s ss) (k : Key) :
    Calls Try.prog 14 #[.pointer (some ⟨r, 0, none⟩), .int .i64 k.1, .int .i64 k.2] w fun e w' => ∃ vo, e = .returned vo ∧ RLeft w r v (takeV s k) w' ∧ Told w' w.heap.size vo (takeL s k) := by
  obtain ⟨a, cap, rfl, hcap, hmax, -⟩ := h.row.shape
  obtain ⟨hlen, h64⟩ := h.len
  have HB : Hid (∀ W, Below w.heap.size w W → Rb W r (.slice a ss.length cap) s ss) := fun W hb => h.below hb
  have HH : Hid (Rb w r (.slice a ss.length cap) s ss) := h
  obtain ⟨N, hN⟩ : ∃ N, N = ss.length := ⟨_, rfl⟩
  have HN : Hid (N = ss.length) := hN
  have hN64 : N ≤ 64 := by omega
  have hcm : cap ≤ 9223372036854775807 := by unfold maxLen at hmax; omega
  obtain ⟨k1, k2⟩ := k
  have c1 := h.at'.c1
  rw [← hN] at c1 hcap HB
  clear h hlen h64 hN hmax
  go_enter Try.func14, Try.ntmps14
  go_wp2
  clear c1
  go_loopw [7, 8, 9] (fun s7 s8 s9 wr => ∃ t : Nat, s9 = .int .i64 (t : Int) ∧ t ≤ N ∧ Two w s7 (((ss.take t).filter fun x => isK (k1, k2) x.1).map blOf) s8 ((ss.take t).filter fun x => !isK (k1, k2) x.1) wr) (fun _ _ s9 _ => N - (intOf s9).toNat)
  case atStart => exact ⟨0, rfl, Nat.zero_le _, Below.refl _ _, Row.nil _ _, Row.nil _ _, (fun k hk => by cases hk), (fun k hk => by cases hk)⟩
  case round =>
    obtain ⟨t, rfl, ht, hT⟩ := hrel
    obtain ⟨oa, oc, rfl, -⟩ := hT.out.shape
    obtain ⟨la, lc, rfl, -⟩ := hT.row.shape
    have hP := HB.out wr hT.bel
    have c1 := hP.at'.c1
    by_cases hlt : t < N
    · obtain ⟨x, hx⟩ : ∃ x, ss[t]? = some x := ⟨ss[t]'(by have := HN.out; omega), by rw [List.getElem?_eq_getElem]⟩
      obtain ⟨-, q, rfl, hcell⟩ := hP.row.get hx
      have x0 := hcell 0 _ rfl
      have x1 := hcell 1 _ rfl
      have x2 := hcell 2 _ rfl
      rw [show E59.n = 3 from rfl] at x0 x1 x2
      rw [Nat.add_zero] at x0
      have htk := take_snoc ss t x hx
      have g1 : (t : Int) < (N : Int) := by omega
      have g2 : (0 : Int) ≤ (t : Int) := Int.natCast_nonneg _
      have e1 : IntKind.i64.wrap ((t : Int) + 1) = ((t + 1 : Nat) : Int) := by rw [IntKind.wrap_i64]; omega
      have HJ : Hid (t < N) := hlt
      have hl1 : (((ss.take t).filter fun x => isK (k1, k2) x.1).map blOf).length ≤ 64 := by rw [List.length_map]; exact Nat.le_trans (List.length_filter_le _ _) (by rw [List.length_take]; omega)
      have hl2 : ((ss.take t).filter fun x => !isK (k1, k2) x.1).length ≤ 64 := Nat.le_trans (List.length_filter_le _ _) (by rw [List.length_take]; omega)
      obtain ⟨ao, co, Wo, hrun1, hT1⟩ := hT.addo (by omega) x
      obtain ⟨al, cl, Wl, hrun2, hT2⟩ := hT.addl (by omega) x
      obtain ⟨on, hon⟩ : ∃ on, on = (((ss.take t).filter fun x => isK (k1, k2) x.1).map blOf).length := ⟨_, rfl⟩
      obtain ⟨ln, hln⟩ : ∃ ln, ln = ((ss.take t).filter fun x => !isK (k1, k2) x.1).length := ⟨_, rfl⟩
      rw [← hon] at hrun1 hT1 hT2 ⊢
      rw [← hln] at hrun2 hT2 hT1 ⊢
      obtain ⟨xe, hxe⟩ : ∃ xe, xe = x.1.e := ⟨_, rfl⟩
      obtain ⟨xi, hxi⟩ : ∃ xi, xi = x.1.i := ⟨_, rfl⟩
      obtain ⟨xl, hxl⟩ : ∃ xl, xl = x.1.b.length := ⟨_, rfl⟩
      obtain ⟨xa, hxa⟩ : ∃ xa, xa = x.2.1 := ⟨_, rfl⟩
      obtain ⟨xc, hxc⟩ : ∃ xc, xc = x.2.2 := ⟨_, rfl⟩
      rw [← hxl, ← hxa, ← hxc] at hrun1 hrun2
      rw [← hxe, ← hxi] at hrun2
      have x0' : wr.cell? ⟨q, t * 3, none⟩ = some (.int .i64 xe) := by rw [hxe]; exact x0
      have x1' : wr.cell? ⟨q, t * 3 + 1, none⟩ = some (.int .i64 xi) := by rw [hxi]; exact x1
      have x2' : wr.cell? ⟨q, t * 3 + 2, none⟩ = some (.slice xa xl xc) := by rw [hxl, hxa, hxc]; exact x2
      have HR1 : Hid ((Builtin.append_ #[24, 24] 24 #[.slice oa on oc, .slice (some ⟨wr.heap.size, 0, none⟩) 1 1]).run Try.prog (wr.alloc (.cells #[.slice xa xl xc] 22)) = .ok (.slice ao (on + 1) co) Wo) := hrun1
      have HR2 : Hid ((Builtin.append_ #[40, 40] 40 #[.slice la ln lc, .slice (some ⟨wr.heap.size, 0, none⟩) 1 1]).run Try.prog (wr.alloc (.cells #[.int .i64 xe, .int .i64 xi, .slice xa xl xc] 59)) = .ok (.slice al (ln + 1) cl) Wl) := hrun2
      have HT1 : Hid (isK (k1, k2) x.1 = true → Two w (.slice ao (on + 1) co) (((ss.take (t + 1)).filter fun x => isK (k1, k2) x.1).map blOf) (.slice la ln lc) ((ss.take (t + 1)).filter fun x => !isK (k1, k2) x.1) Wo) := fun hk => by
        rw [htk, List.filter_append, List.filter_append, List.map_append]
        simpa [hk] using hT1
      have HT2 : Hid (isK (k1, k2) x.1 = false → Two w (.slice oa on oc) (((ss.take (t + 1)).filter fun x => isK (k1, k2) x.1).map blOf) (.slice al (ln + 1) cl) ((ss.take (t + 1)).filter fun x => !isK (k1, k2) x.1) Wl) := fun hk => by
        rw [htk, List.filter_append, List.filter_append, List.map_append]
        simpa [hk] using hT2
      have HKE : Hid ((xe = k1 ∧ xi = k2 → isK (k1, k2) x.1 = true) ∧ (¬ (xe = k1 ∧ xi = k2) → isK (k1, k2) x.1 = false)) := by
        rw [hxe, hxi]
        refine ⟨fun h => isK_iff.2 (key_eq.2 h), fun h => ?_⟩
        cases hb : isK (k1, k2) x.1
        · rfl
        · exact absurd (key_eq.1 (isK_iff.1 hb)) h
      clear hT hP hx hcell x0 x1 x2 htk hl1 hl2 hrun1 hrun2 hT1 hT2 hon hln hxe hxi hxl hxa hxc ht hlt
      by_cases h1 : xe = k1
      · subst h1
        by_cases h2 : xi = k2
        · subst h2
          have HE : Hid (Two w (.slice ao (on + 1) co) (((ss.take (t + 1)).filter fun x => isK (xe, xi) x.1).map blOf) (.slice la ln lc) ((ss.take (t + 1)).filter fun x => !isK (xe, xi) x.1) Wo) := HT1.out (HKE.out.1 ⟨rfl, rfl⟩)
          go_wp2_with (at_builtin; refine wpList_append_run rfl (.tmp 41) (.tmp 50) 24 rfl _ _ _ rfl rfl HR1.out ?_)
          go_roundw
          case rel => exact ⟨t + 1, by first | rfl | (congr 1; omega), by have := HJ.out; omega, HE.out⟩
          case measure => have := HJ.out; simp [intOf]; omega
        · have HE := HT2.out (HKE.out.2 (fun e => h2 e.2))
          have HE2 : Hid (Two w (.slice oa on oc) (((ss.take (t + 1)).filter fun x => isK (xe, k2) x.1).map blOf) (.slice al (ln + 1) cl) ((ss.take (t + 1)).filter fun x => !isK (xe, k2) x.1) Wl) := HE
          clear HE
          go_wp2_with (at_builtin; refine wpList_append_run rfl (.tmp 52) (.tmp 60) 40 rfl _ _ _ rfl rfl HR2.out ?_)
          go_roundw
          case rel => exact ⟨t + 1, by first | rfl | (congr 1; omega), by have := HJ.out; omega, HE2.out⟩
          case measure => have := HJ.out; simp [intOf]; omega
      · have HE := HT2.out (HKE.out.2 (fun e => h1 e.1))
        have HE2 : Hid (Two w (.slice oa on oc) (((ss.take (t + 1)).filter fun x => isK (k1, k2) x.1).map blOf) (.slice al (ln + 1) cl) ((ss.take (t + 1)).filter fun x => !isK (k1, k2) x.1) Wl) := HE
        clear HE
        go_wp2_with (at_builtin; refine wpList_append_run rfl (.tmp 52) (.tmp 60) 40 rfl _ _ _ rfl rfl HR2.out ?_)
        go_roundw
        case rel => exact ⟨t + 1, by first | rfl | (congr 1; omega), by have := HJ.out; omega, HE2.out⟩
        case measure => have := HJ.out; simp [intOf]; omega
    · have hall : ss.take t = ss := List.take_of_length_le (by have := HN.out; omega)
      rw [hall] at hT ⊢
      have f1 := hP.at'.fz 1
      have hd := Two.done (q := fun x => !isK (k1, k2) x) HH.out (fun x => rfl) hT (fun y hy => by
        obtain ⟨x, hx, rfl⟩ := List.mem_map.1 hy
        exact ⟨x, (List.mem_filter.1 hx).1, rfl⟩)
      have eL : (((ss.filter fun x => isK (k1, k2) x.1).map blOf).map Prod.fst) = takeL s (k1, k2) := by
        rw [takeL, ← HH.out.its, List.filter_map, List.map_map, List.map_map]
        rfl
      rw [eL] at hd
      obtain ⟨on, hon⟩ : ∃ on, on = ((ss.filter fun x => isK (k1, k2) x.1).map blOf).length := ⟨_, rfl⟩
      obtain ⟨ln, hln⟩ : ∃ ln, ln = (ss.filter fun x => !isK (k1, k2) x.1).length := ⟨_, rfl⟩
      rw [← hon, ← hln] at hd ⊢
      have HD : Hid (RLeft w r (.slice a ss.length cap) (takeV s (k1, k2)) (wr.setCell ⟨r, 1, none⟩ (.slice la ln lc)) ∧ Told (wr.setCell ⟨r, 1, none⟩ (.slice la ln lc)) w.heap.size (.slice oa on oc) (takeL s (k1, k2))) := hd
      have g1 : ¬ (t : Int) < (N : Int) := by omega
      clear hT hP hall hd eL hon hln ht hlt
      go_wp2
      go_ret
      exact ⟨_, rfl, HD.out⟩
end Go.Proofs.Yteehkekmaikeiaa
