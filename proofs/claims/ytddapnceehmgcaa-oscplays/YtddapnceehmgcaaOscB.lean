/-
  What is clamped, and by how much a step pays; a clock is made, adjusted, set.
-/
import Derived.Test.YtddapnceehmgcaaOscA
import Derived.BigRegion
import Derived.Deep.Cut
namespace Go.Proofs.Ytddapnceehmgcaa
open Go.ChangeShapes Go.WideShapes Go.ChangeAt Go.RowKit

theorem istime_ok (w : World) (n : Int) : Calls Try.prog 20 #[.int .i64 n] w fun e w' => e = .returned (.bool (timeB n)) ∧ w' = w := by
  by_cases h0 : 0 ≤ n
  · by_cases h1 : n ≤ 1099511627776
    · rw [show timeB n = true by simp [timeB, h0, h1]]
      go_enter Try.func20, Try.ntmps20
      go_wp2
      go_ret
      exact ⟨rfl, rfl⟩
    · rw [show timeB n = false by simp [timeB, h1]]
      go_enter Try.func20, Try.ntmps20
      go_wp2
      go_ret
      exact ⟨rfl, rfl⟩
  · rw [show timeB n = false by simp [timeB, h0]]
    go_enter Try.func20, Try.ntmps20
    go_wp2
    go_ret
    exact ⟨rfl, rfl⟩
theorem clamp_ok (w : World) (x lo hi : Int) : Calls Try.prog 23 #[.int .i64 x, .int .i64 lo, .int .i64 hi] w fun e w' => e = .returned (.int .i64 (max lo (min x hi))) ∧ w' = w := by
  go_enter Try.func23, Try.ntmps23
  go_wp2
  all_goals
    go_ret
    refine ⟨?_, rfl⟩
    show Ending.returned (.int .i64 _) = _
    congr 2
    omega
theorem pays_ok (w : World) (m b : Nat) (o x n : Int) (hm : w.cell? ⟨m, 0, none⟩ = some (.int .i64 x)) (hb : w.cell? ⟨b, 0, none⟩ = some (.int .i64 n)) (x0 : 0 ≤ x) (xn : x ≤ n) (n1 : n ≤ 1099511627776) :
    Calls Try.prog 22 #[.int .i64 o, .pointer (some ⟨m, 0, none⟩), .pointer (some ⟨b, 0, none⟩)] w fun e w' => e = .returned (.int .i64 (max (-x) (min o x))) ∧ w' = w := by
  have hc := clamp_ok w o (-x) x
  have e1 : IntKind.i64.wrap (-x) = -x := wrap_in (by omega) (by omega)
  clear n1 x0
  go_enter Try.func22, Try.ntmps22
  go_wp2_with fail
  refine hc.mono ?_
  rintro e w1 ⟨rfl, rfl⟩
  go_wp2
  go_ret
  exact ⟨rfl, rfl⟩
set_option maxHeartbeats 1600000 in
theorem paying_ok (w : World) (g : Nat) (v : Ck) (h : OC w g v) (hv : v.ok) (n : Int) (n0 : 0 ≤ n) (n1 : n ≤ 1099511627776) :
    Calls Try.prog 21 #[.pointer (some ⟨g, 0, none⟩), .int .i64 n] w fun e w' => ∃ m b, e = .returned (.func (.func 22) #[] #[.pointer (some ⟨m, 0, none⟩), .pointer (some ⟨b, 0, none⟩)]) ∧
      w'.cell? ⟨m, 0, none⟩ = some (.int .i64 (mostN v.s n)) ∧ w'.cell? ⟨b, 0, none⟩ = some (.int .i64 n) ∧ Below w.heap.size w w' := by
  obtain ⟨W, hW⟩ : ∃ W, W = w.alloc (.cells #[.int .i64 n] 2) := ⟨_, rfl⟩
  have hb : Below w.heap.size w W := by rw [hW]; exact (Below.refl _ _).alloc (Nat.le_refl _) _
  have c1 := (h.below hb).c1
  have c2 : W.cell? ⟨w.heap.size, 0, none⟩ = some (.int .i64 n) := by rw [hW]; exact cell_of_row _ _ 0 _ _ _ (heap_alloc_new w _)
  have HM : Hid (mostN v.s n = v.s * ((n + 50) / 100)) := rfl
  obtain ⟨x0, x1⟩ := most_in hv.s0 hv.s1 n0
  have e1 : IntKind.i64.wrap (n + 50) = n + 50 := wrap_in (by omega) (by omega)
  obtain ⟨q, hq⟩ : ∃ q, q = (n + 50) / 100 := ⟨_, rfl⟩
  have e2 : (n + 50).tdiv 100 = q := by rw [Int.tdiv_eq_ediv_of_nonneg (by omega)]; omega
  have e2' : (n + 50) / 100 = q := hq.symm
  have e3 : IntKind.i64.wrap q = q := wrap_in (by omega) (by omega)
  obtain ⟨x, hx⟩ : ∃ x, x = mostN v.s n := ⟨_, rfl⟩
  have e4 : v.s * q = x := by rw [hx, hq]; rfl
  have e5 : IntKind.i64.wrap x = x := wrap_in (by omega) (by omega)
  rw [← hx]
  have HB : Hid (Below w.heap.size w W) := hb
  have HW : Hid (W = w.alloc (.cells #[.int .i64 n] 2)) := hW
  have HS1 : Hid ((W.drew.alloc (.cells #[.int .i64 0] 2)).cell? ⟨g, 1, none⟩ = some (.int .i64 v.s) ∧ (W.drew.alloc (.cells #[.int .i64 0] 2)).cell? ⟨w.heap.size, 0, none⟩ = some (.int .i64 n)) := by
    have hb2 : Below W.heap.size W (W.drew.alloc (.cells #[.int .i64 0] 2)) := (Below.refl W.heap.size W).drew.alloc (Nat.le_refl _) _
    exact ⟨((h.below hb).below hb2).c1, by rw [hb2.cell (p := ⟨w.heap.size, 0, none⟩) (World.block_lt_of_cell? W _ c2)]; exact c2⟩
  have hb2 : Below W.heap.size W (W.alloc (.cells #[.int .i64 x] 2)).drew := ((Below.refl W.heap.size W).alloc (Nat.le_refl _) _).drew
  have HS2 : Hid ((W.alloc (.cells #[.int .i64 x] 2)).drew.cell? ⟨g, 1, none⟩ = some (.int .i64 v.s) ∧ (W.alloc (.cells #[.int .i64 x] 2)).drew.cell? ⟨w.heap.size, 0, none⟩ = some (.int .i64 n)) :=
    ⟨((h.below hb).below hb2).c1, by rw [hb2.cell (p := ⟨w.heap.size, 0, none⟩) (World.block_lt_of_cell? W _ c2)]; exact c2⟩
  have h1 : (W.alloc (.cells #[.int .i64 x] 2)).heap[W.heap.size]? = some (.cells #[.int .i64 x] 2 (0, 0)) := heap_alloc_new W _
  have HC : Hid ((W.alloc (.cells #[.int .i64 x] 2)).drew.cell? ⟨W.heap.size, 0, none⟩ = some (.int .i64 x)) := cell_of_row (W.alloc (.cells #[.int .i64 x] 2)) _ 0 _ _ _ h1
  have HB2 : Hid (Below w.heap.size w (W.alloc (.cells #[.int .i64 x] 2)).drew) := (hb.alloc hb.size _).drew
  clear h hv n0 n1 hb hW HM x0 x1 hq hx HB hb2 h1
  generalize v.s = s at *
  go_enter Try.func21, Try.ntmps21
  go_upto_region 1 with fail
  rw [← HW.out]
  generalize hB : w.heap.size = b at *
  have HG : Hid (w.heap.size = b) := hB
  clear hB
  refine wp_region_noPanic ?_
  refine wp_region_held (S := fun V => V.cell? ⟨g, 1, none⟩ = some (.int .i64 s) ∧ V.cell? ⟨b, 0, none⟩ = some (.int .i64 n)) (by kernel_rfl) ?_
  have hS := (show (fun V => V.cell? ⟨g, 1, none⟩ = some (.int .i64 s) ∧ V.cell? ⟨b, 0, none⟩ = some (.int .i64 n)) W.drew from ⟨c1, c2⟩)
  refine any_take 0 ?vpn1 rfl (by kernel_rfl) (by kernel_rfl) (by kernel_rfl) (fun _ _ _ h => h) (by rfl) ?hpn1 hS ?_
  case hpn1 => (intro w hSw; (try dsimp only at hSw); go_split_ands; go_simp; (try with_reducible rfl))
  (try simp only [Act.put, List.setIfInBounds_toArray, List.set_cons_zero, List.set_cons_succ])
  refine any_take 1 ?vpn2 rfl (by kernel_rfl) (by kernel_rfl) (by kernel_rfl) (fun _ _ _ h => h) (by rfl) ?hpn2 hS ?_
  case hpn2 => (intro w hSw; (try dsimp only at hSw); go_split_ands; go_simp; (try with_reducible rfl))
  (try simp only [Act.put, List.setIfInBounds_toArray, List.set_cons_zero, List.set_cons_succ])
  refine any_take 2 ?vpn3 rfl (by kernel_rfl) (by kernel_rfl) (by kernel_rfl) (fun _ _ _ h => h) (by rfl) ?hpn3 hS ?_
  case hpn3 => (intro w hSw; (try dsimp only at hSw); go_split_ands; go_simp; (try with_reducible rfl))
  (try simp only [Act.put, List.setIfInBounds_toArray, List.set_cons_zero, List.set_cons_succ])
  refine any_take 3 ?vpn4 rfl (by kernel_rfl) (by kernel_rfl) (by kernel_rfl) (fun _ _ _ h => h) (by rfl) ?hpn4 hS ?_
  case hpn4 => (intro w hSw; (try dsimp only at hSw); go_split_ands; go_simp; (try with_reducible rfl))
  (try simp only [Act.put, List.setIfInBounds_toArray, List.set_cons_zero, List.set_cons_succ])
  refine any_take 4 ?vpn5 rfl (by kernel_rfl) (by kernel_rfl) (by kernel_rfl) (fun _ _ _ h => h) (by rfl) ?hpn5 hS ?_
  case hpn5 => (intro w hSw; (try dsimp only at hSw); go_split_ands; go_simp; (try with_reducible rfl))
  (try simp only [Act.put, List.setIfInBounds_toArray, List.set_cons_zero, List.set_cons_succ])
  refine any_take 5 ?vpn6 rfl (by kernel_rfl) (by kernel_rfl) (by kernel_rfl) (fun _ _ _ h => h) (by rfl) ?hpn6 hS ?_
  case hpn6 => (intro w hSw; (try dsimp only at hSw); go_split_ands; go_simp; (try with_reducible rfl))
  (try simp only [Act.put, List.setIfInBounds_toArray, List.set_cons_zero, List.set_cons_succ])
  refine any_take 6 ?vpn7 rfl (by kernel_rfl) (by kernel_rfl) (by kernel_rfl) (fun _ _ _ h => h) (by rfl) ?hpn7 hS ?_
  case hpn7 => (intro w hSw; (try dsimp only at hSw); go_split_ands; go_simp; (try with_reducible rfl))
  (try simp only [Act.put, List.setIfInBounds_toArray, List.set_cons_zero, List.set_cons_succ])
  refine any_take 7 ?vpn8 rfl (by kernel_rfl) (by kernel_rfl) (by kernel_rfl) (fun _ _ _ h => h) (by rfl) ?hpn8 hS ?_
  case hpn8 => (intro w hSw; (try dsimp only at hSw); go_split_ands; go_simp; (try with_reducible rfl))
  (try simp only [Act.put, List.setIfInBounds_toArray, List.set_cons_zero, List.set_cons_succ])
  refine any_one 8 rfl (by kernel_rfl) (by rfl) (fun K hK => ?_)
  clear hS
  go_simp
  refine hK.out _ _ (HS1.out) (fun hS => ?_)
  clear hK
  (try simp only [Act.put, List.setIfInBounds_toArray, List.set_cons_zero, List.set_cons_succ])
  refine any_one 9 rfl (by kernel_rfl) (by rfl) (fun K hK => ?_)
  clear hS
  go_simp
  refine hK.out _ _ (HS2.out) (fun hS => ?_)
  clear hK
  (try simp only [Act.put, List.setIfInBounds_toArray, List.set_cons_zero, List.set_cons_succ])
  refine wpAnyH_done (by kernel_rfl) ?_ _
  refine NoPanic.normal ?_
  clear hS HS1
  go_wp2
  go_ret
  exact ⟨_, _, rfl, HC.out, HS2.out.2, by rw [HG.out]; exact HB2.out⟩

theorem new_ok (w : World) (s : Int) (h0 : 0 ≤ s) (h1 : s ≤ 49) : Calls Try.prog 7 #[.int .i64 s] w fun e w' => ∃ g, e = .returned (.tuple #[.pointer (some ⟨g, 0, none⟩), .int .i64 0]) ∧ OC w' g (newK s) ∧ w.heap.size ≤ g ∧ Below w.heap.size w w' := by
  go_enter Try.func7, Try.ntmps7
  go_wp2
  go_ret2
  exact ⟨_, rfl, heap_alloc_new w _, Nat.le_refl _, (Below.refl _ _).alloc (Nat.le_refl _) _⟩
theorem new_no (w : World) (s : Int) (h : ¬ (0 ≤ s ∧ s ≤ 49)) : Calls Try.prog 7 #[.int .i64 s] w fun e w' => e = .returned (.tuple #[.pointer none, .int .i64 1]) ∧ w' = w := by
  by_cases h0 : 0 ≤ s
  · have h1 : ¬ s ≤ 49 := by omega
    clear h
    go_enter Try.func7, Try.ntmps7
    go_wp2
    go_ret2
    exact ⟨rfl, rfl⟩
  · clear h
    go_enter Try.func7, Try.ntmps7
    go_wp2
    go_ret2
    exact ⟨rfl, rfl⟩
theorem rnew_ok (w : World) (s : Int) (h0 : 0 ≤ s) (h1 : s ≤ 49) : Calls Try.prog 8 #[.int .i64 s] w fun e w' => ∃ g, e = .returned (.tuple #[.pointer (some ⟨g, 0, none⟩), .int .i64 0]) ∧ RC w' g (newK s) ∧ w.heap.size ≤ g ∧ Below w.heap.size w w' := by
  go_enter Try.func8, Try.ntmps8
  go_wp2
  go_ret2
  exact ⟨_, rfl, heap_alloc_new w _, Nat.le_refl _, (Below.refl _ _).alloc (Nat.le_refl _) _⟩
theorem rnew_no (w : World) (s : Int) (h : ¬ (0 ≤ s ∧ s ≤ 49)) : Calls Try.prog 8 #[.int .i64 s] w fun e w' => e = .returned (.tuple #[.pointer none, .int .i64 1]) ∧ w' = w := by
  by_cases h0 : 0 ≤ s
  · have h1 : ¬ s ≤ 49 := by omega
    clear h
    go_enter Try.func8, Try.ntmps8
    go_wp2
    go_ret2
    exact ⟨rfl, rfl⟩
  · clear h
    go_enter Try.func8, Try.ntmps8
    go_wp2
    go_ret2
    exact ⟨rfl, rfl⟩
theorem apart_set {w w' : World} {g : Nat} (h : Apart (fun k => k = g) w w') (i : Nat) (v : Value) : Apart (fun k => k = g) w (w'.setCell ⟨g, i, none⟩ v) := h.setCell (.inl rfl) i v
theorem adjust_ok (w : World) (g : Nat) (v : Ck) (h : OC w g v) (n : Int) : Calls Try.prog 12 #[.pointer (some ⟨g, 0, none⟩), .int .i64 n] w fun e w' => e = .returned (.int .i64 (adjE n)) ∧ OC w' g (adjV v n) ∧ Apart (fun k => k = g) w w' := by
  have hs := stands_ok w g v h
  cases hc : owesB n
  · rw [adjE, adjV, hc, if_neg Bool.false_ne_true, if_neg Bool.false_ne_true]
    have H : Hid (OC w g v) := h
    have hn : ¬ (-1099511627776 ≤ n) ∨ ¬ (n ≤ 1099511627776) := by
      simp only [owesB, Bool.and_eq_false_iff, decide_eq_false_iff_not] at hc; exact hc
    clear h hc
    by_cases h0 : -1099511627776 ≤ n
    · have h1 : ¬ n ≤ 1099511627776 := by omega
      clear hn
      go_enter Try.func12, Try.ntmps12
      go_wp2_with fail
      refine hs.mono ?_
      rintro e w1 ⟨rfl, rfl⟩
      go_wp2
      go_ret
      exact ⟨rfl, H.out, Apart.refl _ _⟩
    · clear hn
      go_enter Try.func12, Try.ntmps12
      go_wp2_with fail
      refine hs.mono ?_
      rintro e w1 ⟨rfl, rfl⟩
      go_wp2
      go_ret
      exact ⟨rfl, H.out, Apart.refl _ _⟩
  · rw [adjE, adjV, hc, if_pos rfl, if_pos rfl]
    have H : Hid (OC w g v) := h
    obtain ⟨h0, h1⟩ : -1099511627776 ≤ n ∧ n ≤ 1099511627776 := by simpa only [owesB, Bool.and_eq_true, decide_eq_true_eq] using hc
    have f4 := h.fz 4
    have c4 := h.c4
    clear h hc
    go_enter Try.func12, Try.ntmps12
    go_wp2_with fail
    refine hs.mono ?_
    rintro e w1 ⟨rfl, rfl⟩
    go_wp2
    go_ret
    exact ⟨rfl, H.out.set4 n, apart_set (Apart.refl _ _) _ _⟩
theorem set_ok (w : World) (g : Nat) (v : Ck) (h : OC w g v) (n : Int) : Calls Try.prog 14 #[.pointer (some ⟨g, 0, none⟩), .int .i64 n] w fun e w' => e = .returned (.int .i64 (setE n)) ∧ OC w' g (setV v n) ∧ Apart (fun k => k = g) w w' := by
  have hs := stands_ok w g v h
  have ht := istime_ok w n
  cases hc : timeB n
  · rw [setE, setV, hc, if_neg Bool.false_ne_true, if_neg Bool.false_ne_true]
    rw [hc] at ht
    have H : Hid (OC w g v) := h
    clear h hc
    go_enter Try.func14, Try.ntmps14
    go_wp2_with fail
    refine hs.mono ?_
    rintro e w1 ⟨rfl, rfl⟩
    go_wp2_with fail
    refine ht.mono ?_
    rintro e w1 ⟨rfl, rfl⟩
    go_wp2
    go_ret
    exact ⟨rfl, H.out, Apart.refl _ _⟩
  · rw [setE, setV, hc, if_pos rfl, if_pos rfl]
    rw [hc] at ht
    have H : Hid (OC w g v) := h
    have f3 := h.fz 3
    have c3 := h.c3
    have f4 := h.fz 4
    have c4 := h.c4
    clear h hc
    go_enter Try.func14, Try.ntmps14
    go_wp2_with fail
    refine hs.mono ?_
    rintro e w1 ⟨rfl, rfl⟩
    go_wp2_with fail
    refine ht.mono ?_
    rintro e w1 ⟨rfl, rfl⟩
    go_wp2
    go_ret
    exact ⟨rfl, (H.out.set3 n).set4 0, apart_set (apart_set (Apart.refl _ _) _ _) _ _⟩
end Go.Proofs.Ytddapnceehmgcaa
