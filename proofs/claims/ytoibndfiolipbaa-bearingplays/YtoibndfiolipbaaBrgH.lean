/-
  The contract of Near, the program's.
-/
import Derived.Test.YtoibndfiolipbaaBrgG
namespace Go.Proofs.Ytoibndfiolipbaa
open Go.ChangeShapes Go.WideShapes Go.ChangeAt Go.RowKit Go.Shelf
attribute [local go_sem] Oper.semAt_some

set_option maxRecDepth 100000 in
set_option maxHeartbeats 4000000 in
set_option maxRecDepth 20000 in
theorem near_ok (w : World) (g m : Nat) (v : Bt) (n : Nat) (h : Bd w g m v n) (ok : v.ok) (t : Int) :
    Calls Try.prog 18 #[.pointer (some ⟨g, 0, none⟩), .int .i64 t] w fun e w' => e = .returned (.int .i64 (neU v t v.c.n.toNat)) ∧ Below w.heap.size w w' := by
  have hr := right_of ok.r
  have HC : Hid (0 ≤ v.c.n ∧ v.c.n ≤ 8 ∧ v.c.e ≤ 9223372036854775807) := ⟨by have := hr.n0; omega, hr.n1, by have := hr.e1; have := hr.s1; omega⟩
  have HB : Hid (Bd w g m v n ∧ v.ok) := ⟨h, ok⟩
  have KT := told_ok ((w.alloc (.cells #[.pointer (some ⟨g, 0, none⟩)] 28)).alloc (.cells #[.int .i64 0] 3)) (.pointer (some ⟨g, 0, none⟩)) rfl t
  rw [World.size_alloc, World.size_alloc] at KT
  clear h ok hr
  have hfm : Try.prog.follows .mixedOrders = true := by kernel_rfl
  refine (callsIn_wide (n := 9)).1 ?_
  refine callsIn_of_wp_marks Try.func18 rfl trivial ?_ rfl
  simp only [Try.ntmps18, List.size_toArray, List.length_cons, List.length_nil, Nat.reduceAdd, Nat.reduceSub, Array.replicate_succ, Array.replicate_zero, List.push_toArray, List.append_toArray, List.nil_append, List.cons_append]
  gi_wp2
  refine ⟨trivial, (callsIn_wide.2 KT).mono ?_⟩
  rintro e w' ⟨rfl, hw'⟩
  rw [hw']
  clear KT hw' w'
  gi_wp2
  obtain ⟨W0, hW0⟩ : ∃ W0, W0 = (((w.alloc (.cells #[.pointer (some ⟨g, 0, none⟩)] 28)).alloc (.cells #[.int .i64 0] 3)).alloc (.cells #[.pointer (some ⟨g, 0, none⟩)] 28)).alloc (.cells #[.int .i64 t] 2) := ⟨_, rfl⟩
  have hsz : W0.heap.size = w.heap.size + 4 := by rw [hW0]; simp
  have hI0 : NI w (.pointer (some ⟨g, 0, none⟩)) v t 0 W0 := by
    have a1 := Boxed.new w 28 (.pointer (some ⟨g, 0, none⟩))
    have a2 := Boxed.new (w.alloc (.cells #[.pointer (some ⟨g, 0, none⟩)] 28)) 3 (.int .i64 0)
    have a3 := Boxed.new ((w.alloc (.cells #[.pointer (some ⟨g, 0, none⟩)] 28)).alloc (.cells #[.int .i64 0] 3)) 28 (.pointer (some ⟨g, 0, none⟩))
    have a4 := Boxed.new (((w.alloc (.cells #[.pointer (some ⟨g, 0, none⟩)] 28)).alloc (.cells #[.int .i64 0] 3)).alloc (.cells #[.pointer (some ⟨g, 0, none⟩)] 28)) 2 (.int .i64 t)
    rw [World.size_alloc] at a2
    rw [World.size_alloc, World.size_alloc] at a3
    rw [World.size_alloc, World.size_alloc, World.size_alloc] at a4
    rw [hW0]
    exact ⟨((a1.alloc _).alloc _).alloc _, (a2.alloc _).alloc _, a3.alloc _, a4,
      (((Go.Joins.below_alloc2 _ _ _).alloc (by simp; omega) _).alloc (by simp; omega) _)⟩
  rw [← hW0]
  have HW0 : Hid (w.heap.size ≤ W0.heap.size ∧ W0.heap.size = w.heap.size + 4) := ⟨by omega, hsz⟩
  clear hW0 hsz
  refine range_own 56 #[.pointer (some ⟨w.heap.size + 1 + 1, 0, none⟩), .pointer (some ⟨w.heap.size + 1 + 1 + 1, 0, none⟩)] rfl (enters_of Try.func56 (by kernel_rfl) rfl)
    (fun x : Int × Int × Int => #[.int .i64 x.1, .agg #[.int .i64 x.2.1, .int .i64 x.2.2]]) (fun _ => rfl) (NI w (.pointer (some ⟨g, 0, none⟩)) v t) (fun s x W => NI w (.pointer (some ⟨g, 0, none⟩)) v t s W ∧ s = x.1 ∧ 0 ≤ x.1 ∧ x.1 < v.c.n ∧ tolB v t x.1 = true ∧ x.2.1 = (atA v x.1 t).a ∧ x.2.2 = (atA v x.1 t).b) (fun _ x => x.1 + 1) (fun _ _ _ => False)
    (fun s => AtEnd v s) ?fI (fun _ _ _ _ h _ => h)
    (fun x N => { tmps := #[.pointer (some ⟨g, 0, none⟩), .int .i64 t, .pointer (some ⟨w.heap.size, 0, none⟩), undef, .int .i64 0, .pointer (some ⟨w.heap.size + 1, 0, none⟩), undef, .pointer (some ⟨N, 0, none⟩), .pointer (some ⟨g, 0, none⟩), .int .i64 t, .func (.func 56) #[] #[.pointer (some ⟨w.heap.size + 1 + 1, 0, none⟩), .pointer (some ⟨w.heap.size + 1 + 1 + 1, 0, none⟩)], .int .i64 x.1, .agg #[.int .i64 x.2.1, .int .i64 x.2.2], undef, undef, undef, undef, undef, undef, undef, undef, undef, undef], defers := [] })
    (fun s x N W => (NI w (.pointer (some ⟨g, 0, none⟩)) v t s W ∧ Pair W N x.2.1 x.2.2) ∧ s = x.1 ∧ 0 ≤ x.1 ∧ x.1 < v.c.n ∧ tolB v t x.1 = true ∧ x.2.1 = (atA v x.1 t).a ∧ x.2.2 = (atA v x.1 t).b) ?fA ?assign ?body ?iter (fun _ _ _ _ h _ => h) ?done (fun _ _ _ _ _ h _ => h.elim)
  case fI => exact fun s V V' h ht => h.turned HW0.out.1 ht
  case fA => exact fun s x N V V' ⟨⟨h1, h3⟩, h2⟩ ht => ⟨⟨h1.turned HW0.out.1 ht, Pair.turned ht h3⟩, h2⟩
  case assign =>
    intro l s x W K hP hK
    have hk := hK W.heap.size (W.alloc (.cells #[.int .i64 x.2.1, .int .i64 x.2.2] 39)) (Below.keepsFrom (Go.Joins.below_alloc1 _ _) _) ⟨⟨hP.1.below (Go.Joins.below_alloc1 _ _), Pair.new _ _ _⟩, hP.2⟩
    clear hK hP
    gi_wp2
    exact hk
  case body =>
    rintro l s ⟨j, x, y⟩ N W ⟨⟨hI, hP⟩, hs, hj0, hj1, htl, hx, hy⟩
    show Code.wpIn _ _ _ _ (roundEnds W0.heap.size (NI w (.pointer (some ⟨g, 0, none⟩)) v t) (fun _ _ _ => False) (j + 1) W) _ _
    dsimp only at hs hj0 hj1 htl hx hy hP ⊢
    subst hs
    have hadd := ne_told HB.out.2 hj0 htl
    rw [← hx, ← hy] at hadd
    have hin := ne_in v t s.toNat
    have KI : Hid (∀ V, Calls Try.prog 26 #[.agg #[.int .i64 x, .int .i64 y], .int .i64 v.c.e] V fun e w' => e = .returned (.bool (insideB x y v.c.e)) ∧ Below V.heap.size V w') := fun V => inside_ok V x y v.c.e HC.out.2.2
    have HQ : Hid (∀ V, Below W.heap.size W V → (V.cell? ⟨N, 0, none⟩ = some (.int .i64 x) ∧ V.cell? ⟨N, 1, none⟩ = some (.int .i64 y) ∧ V.cell? ⟨w.heap.size, 0, none⟩ = some (.pointer (some ⟨g, 0, none⟩)) ∧ V.cell? ⟨g, 5, none⟩ = some (.int .i64 v.c.e)) ∧ NI w (.pointer (some ⟨g, 0, none⟩)) v t s V) := fun V hV => by
      have hI2 := hI.below hV
      have hP2 := hP.below hV
      exact ⟨⟨hP2.c0, hP2.c1, hI2.bx.cell, (HB.out.1.below hI2.bel).at'.cell 5 rfl⟩, hI2⟩
    have HJ : Hid (0 ≤ neU v t s.toNat ∧ neU v t s.toNat ≤ 8) := ⟨hin.1, by have := HC.out; omega⟩
    have HAD : Hid (neU v t (s + 1).toNat = neU v t s.toNat + (if insideB x y v.c.e = true then 1 else 0)) := hadd
    have hS0 := HQ.out W.drew (Below.refl _ _).drew
    have HD : Hid (Below W.heap.size W W.drew) := (Below.refl _ _).drew
    clear hI hI0 hj0 hj1 htl hadd hin hP hx hy
    obtain ⟨E, hE⟩ : ∃ E, E = v.c.e := ⟨_, rfl⟩
    rw [← hE] at KI HQ hS0 HAD
    clear hE
    generalize insideB x y E = bi at *
    gi_wp2
    refine region_roundN (S := fun V => (V.cell? ⟨N, 0, none⟩ = some (.int .i64 x) ∧ V.cell? ⟨N, 1, none⟩ = some (.int .i64 y) ∧ V.cell? ⟨w.heap.size, 0, none⟩ = some (.pointer (some ⟨g, 0, none⟩)) ∧ V.cell? ⟨g, 5, none⟩ = some (.int .i64 E)) ∧ NI w (.pointer (some ⟨g, 0, none⟩)) v t s V) hfm (by kernel_rfl) ?_
    have hS := hS0
    refine any_take 0 ?vnan1 rfl (by kernel_rfl) (by kernel_rfl) (by kernel_rfl) (fun _ _ _ h => h) (by rfl) ?hnan1 hS ?_
    case hnan1 => (intro w hSw; (try dsimp only at hSw); go_split_ands; go_simp; (try with_reducible rfl))
    (try simp only [Act.put, List.setIfInBounds_toArray, List.set_cons_zero, List.set_cons_succ])
    refine any_take 1 ?vnan2 rfl (by kernel_rfl) (by kernel_rfl) (by kernel_rfl) (fun _ _ _ h => h) (by rfl) ?hnan2 hS ?_
    case hnan2 => (intro w hSw; (try dsimp only at hSw); go_split_ands; go_simp; (try with_reducible rfl))
    (try simp only [Act.put, List.setIfInBounds_toArray, List.set_cons_zero, List.set_cons_succ])
    refine any_take 2 ?vnan3 rfl (by kernel_rfl) (by kernel_rfl) (by kernel_rfl) (fun _ _ _ h => h) (by rfl) ?hnan3 hS ?_
    case hnan3 => (intro w hSw; (try dsimp only at hSw); go_split_ands; go_simp; (try with_reducible rfl))
    (try simp only [Act.put, List.setIfInBounds_toArray, List.set_cons_zero, List.set_cons_succ])
    refine any_take 3 ?vnan4 rfl (by kernel_rfl) (by kernel_rfl) (by kernel_rfl) (fun _ _ _ h => h) (by rfl) ?hnan4 hS ?_
    case hnan4 => (intro w hSw; (try dsimp only at hSw); go_split_ands; go_simp; (try with_reducible rfl))
    (try simp only [Act.put, List.setIfInBounds_toArray, List.set_cons_zero, List.set_cons_succ])
    refine any_take 4 ?vnan5 rfl (by kernel_rfl) (by kernel_rfl) (by kernel_rfl) (fun _ _ _ h => h) (by rfl) ?hnan5 hS ?_
    case hnan5 => (intro w hSw; (try dsimp only at hSw); go_split_ands; go_simp; (try with_reducible rfl))
    (try simp only [Act.put, List.setIfInBounds_toArray, List.set_cons_zero, List.set_cons_succ])
    refine any_take 5 ?vnan6 rfl (by kernel_rfl) (by kernel_rfl) (by kernel_rfl) (fun _ _ _ h => h) (by rfl) ?hnan6 hS ?_
    case hnan6 => (intro w hSw; (try dsimp only at hSw); go_split_ands; go_simp; (try with_reducible rfl))
    (try simp only [Act.put, List.setIfInBounds_toArray, List.set_cons_zero, List.set_cons_succ])
    refine any_one 6 rfl (by kernel_rfl) (by rfl) (fun K hK => ?_)
    clear hS
    go_simp
    refine (KI.out _).mono ?_
    rintro ev wc ⟨rfl, hbc⟩
    have hbc2 := HD.out.trans (hbc.mono HD.out.size)
    have hQ2 := HQ.out wc hbc2
    refine hK.out _ _ (hQ2) (fun hS => ?_)
    clear hK
    (try simp only [Act.put, List.setIfInBounds_toArray, List.set_cons_zero, List.set_cons_succ])
    refine wpAnyH_done (by kernel_rfl) ?_ _
    refine NoOut.normal ?_
    have c1 := hQ2.2.ct.cell
    have f1 := hQ2.2.ct.frozen
    cases bi
    · have HE : Hid (KeepsFrom (w.heap.size + 4) W wc ∧ NI w (.pointer (some ⟨g, 0, none⟩)) v t (s + 1) wc) := ⟨Below.keepsFrom hbc2 _, hQ2.2.next (by rw [HAD.out]; simp)⟩
      clear hS hS0 hQ2 hbc hbc2
      gi_wp2
      exact ⟨by first | exact HE.out.1 | (rw [HW0.out.2]; exact HE.out.1), HE.out.2⟩
    · obtain ⟨z, hz⟩ : ∃ z, z = neU v t s.toNat + 1 := ⟨_, rfl⟩
      have e1 : IntKind.i64.wrap (neU v t s.toNat + 1) = z := by rw [hz]; exact wrap_in (by have := HJ.out; omega) (by have := HJ.out; omega)
      have HE : Hid (KeepsFrom (w.heap.size + 4) W (wc.setCell ⟨w.heap.size + 1, 0, none⟩ (.int .i64 z)) ∧ NI w (.pointer (some ⟨g, 0, none⟩)) v t (s + 1) (wc.setCell ⟨w.heap.size + 1, 0, none⟩ (.int .i64 z))) := ⟨(Below.keepsFrom hbc2 _).trans ((KeepsOthers.setCell _ _ _).from _), hQ2.2.set (by rw [HAD.out, hz]; simp)⟩
      clear hS hS0 hQ2 hbc hbc2 hz
      gi_wp2
      exact ⟨by first | exact HE.out.1 | (rw [HW0.out.2]; exact HE.out.1), HE.out.2⟩
  case iter =>
    intro l W1 hB1 hs1 hl Bk Bx kB hY kX hBk
    exact tell_in 8 l _ _ g m v n HB.out.2 t (NI w (.pointer (some ⟨g, 0, none⟩)) v t) (fun s W W' h hb => h.below hb) (fun s W h => ⟨h.bt.cell, h.bn.cell, HB.out.1.below h.bel⟩)
      (fun s W h h0 h1 htl => h.next (ne_none h0 htl))
      Bk Bx (fun W W' h hb => kB W W' h (Below.keepsFrom hb _)) hY W1 hBk (hI0.below hB1)
  case done =>
    rintro D s V hD hs hI hK
    have c1 := hI.ct.cell
    have hs2 : s = v.c.n := hs
    rw [hs2] at c1
    have HE : Hid (Below w.heap.size w V) := hI.bel
    have HK2 : Hid (V.heap[D]? = some (.deferred (some []))) := hK
    clear hK hI0 hs hs2 hI
    gi_wp2
    refine ⟨by simp, .inl ⟨_, _, rfl, run_takeDeferred HK2.out, ?_⟩⟩
    refine ⟨_, results_tmp rfl _ _ _, rfl, ?_⟩
    exact HE.out.trans (belowK_b (w := w) (Nat.le_refl _) V D _ _ (by have := HW0.out; omega) HK2.out rfl rfl)
end Go.Proofs.Ytoibndfiolipbaa
