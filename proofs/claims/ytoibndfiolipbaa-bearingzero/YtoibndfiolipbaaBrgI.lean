/-
  What Fresh, Near and Offsets answer where no call made the table; the law's zero.
-/
import Derived.Test.YtoibndfiolipbaaBrgH
namespace Go.Proofs.Ytoibndfiolipbaa
open Go.ChangeShapes Go.WideShapes Go.ChangeAt Go.RowKit Go.Shelf
attribute [local go_sem] Oper.semAt_some

theorem tell_no (q l bT bN : Nat) (p : Option Addr) (W : World) (hp : NoB W (.pointer p)) (hb : W.cell? ⟨bT, 0, none⟩ = some (.pointer p)) :
    CallsIn Fence.wide q Try.prog 56 #[.func (.yield l) #[] #[], .pointer (some ⟨bT, 0, none⟩), .pointer (some ⟨bN, 0, none⟩)] W fun e W' => (∃ v, e = .returned v) ∧ W' = W := by
  have KM := made_no W _ hp
  clear hp
  refine callsIn_of_wp Try.func56 rfl trivial ?_ rfl
  simp only [Try.ntmps56, List.size_toArray, List.length_cons, List.length_nil, Nat.reduceAdd, Nat.reduceSub, Array.replicate_succ, Array.replicate_zero, List.push_toArray, List.append_toArray, List.nil_append, List.cons_append]
  gi_wp2
  refine ⟨trivial, (fun h => by cases h), (callsIn_wide.2 KM).mono ?_⟩
  rintro e w1 ⟨rfl, rfl⟩
  clear KM
  gi_wp2
  refine bodyPost_ret (results_none rfl _ _ _) rfl ?_
  exact ⟨⟨_, rfl⟩, rfl⟩
def nilB : Bt := newT Cf.zero 0

set_option maxRecDepth 100000 in
set_option maxHeartbeats 4000000 in
set_option maxRecDepth 20000 in
theorem fresh_no (w : World) (p : Option Addr) (h : NoB w (.pointer p)) (t : Int) :
    Calls Try.prog 20 #[.pointer p, .int .i64 t] w fun e w' => (∃ a c, e = .returned (.slice a 0 c)) ∧ Below w.heap.size w w' := by
  have HB : Hid (NoB w (.pointer p)) := h
  have KT := told_ok ((w.alloc (.cells #[.pointer p] 28)).alloc (.cells #[.slice none 0 0] 25)) (.pointer p) rfl t
  rw [World.size_alloc, World.size_alloc] at KT
  clear h
  refine (callsIn_wide (n := 9)).1 ?_
  refine callsIn_of_wp_marks Try.func20 rfl trivial ?_ rfl
  simp only [Try.ntmps20, List.size_toArray, List.length_cons, List.length_nil, Nat.reduceAdd, Nat.reduceSub, Array.replicate_succ, Array.replicate_zero, List.push_toArray, List.append_toArray, List.nil_append, List.cons_append]
  gi_wp2
  refine ⟨trivial, (callsIn_wide.2 KT).mono ?_⟩
  rintro e w' ⟨rfl, hw'⟩
  rw [hw']
  clear KT hw' w'
  gi_wp2
  obtain ⟨W0, hW0⟩ : ∃ W0, W0 = (((w.alloc (.cells #[.pointer p] 28)).alloc (.cells #[.slice none 0 0] 25)).alloc (.cells #[.pointer p] 28)).alloc (.cells #[.int .i64 t] 2) := ⟨_, rfl⟩
  have hsz : W0.heap.size = w.heap.size + 4 := by rw [hW0]; simp
  have hI0 : FI w (.pointer p) nilB t 0 W0 := by
    have a1 := Boxed.new w 28 (.pointer p)
    have a2 := Boxed.new (w.alloc (.cells #[.pointer p] 28)) 25 (.slice none 0 0)
    have a3 := Boxed.new ((w.alloc (.cells #[.pointer p] 28)).alloc (.cells #[.slice none 0 0] 25)) 28 (.pointer p)
    have a4 := Boxed.new (((w.alloc (.cells #[.pointer p] 28)).alloc (.cells #[.slice none 0 0] 25)).alloc (.cells #[.pointer p] 28)) 2 (.int .i64 t)
    rw [World.size_alloc] at a2
    rw [World.size_alloc, World.size_alloc] at a3
    rw [World.size_alloc, World.size_alloc, World.size_alloc] at a4
    rw [hW0]
    exact ⟨((a1.alloc _).alloc _).alloc _, a3.alloc _, a4, ⟨_, (a2.alloc _).alloc _, Row.nil _ _, fun k hk => by cases hk⟩,
      (((Go.Joins.below_alloc2 _ _ _).alloc (by simp; omega) _).alloc (by simp; omega) _)⟩
  rw [← hW0]
  have HW0 : Hid (w.heap.size ≤ W0.heap.size ∧ W0.heap.size = w.heap.size + 4) := ⟨by omega, hsz⟩
  clear hW0 hsz
  refine range_own 56 #[.pointer (some ⟨w.heap.size + 1 + 1, 0, none⟩), .pointer (some ⟨w.heap.size + 1 + 1 + 1, 0, none⟩)] rfl (enters_of Try.func56 (by kernel_rfl) rfl)
    (fun x : Int × Int × Int => #[.int .i64 x.1, .agg #[.int .i64 x.2.1, .int .i64 x.2.2]]) (fun _ => rfl) (FI w (.pointer p) nilB t) (fun _ _ _ => False) (fun s _ => s) (fun _ _ _ => False)
    (fun s => s = 0) ?fI (fun _ _ _ _ h _ => h)
    (fun _ _ => { tmps := #[], defers := [] })
    (fun _ _ _ _ => False) (fun _ _ _ _ _ h _ => h) (fun _ _ _ _ _ h _ => h.elim) (fun _ _ _ _ _ h => h.elim) ?iter (fun _ _ _ _ h _ => h) ?done (fun _ _ _ _ _ h _ => h.elim)
  case fI => exact fun s V V' h ht => h.turned HW0.out.1 ht
  case iter =>
    intro l W1 hB1 hs1 hl Bk Bx kB hY kX hBk
    have hI1 := hI0.below hB1
    refine (tell_no 8 l _ _ p W1 (HB.out.below hI1.bel) hI1.bt.cell).mono ?_
    rintro e W' ⟨hv, rfl⟩
    exact ⟨hv, .inl ⟨0, rfl, hBk, hI1⟩⟩
  case done =>
    rintro D s V hD rfl ⟨h1, h2, h3, ⟨sl, h4, h5, h6⟩, h7⟩ hK
    have c1 := h4.cell
    obtain ⟨sa, sc, hsl, _⟩ := h5.shape
    rw [hsl] at c1
    have c2 : V.cell? ⟨w.heap.size + 1, 0, none⟩ = some (.slice sa 0 sc) := c1
    have HE : Hid (Below w.heap.size w V) := h7
    have HK2 : Hid (V.heap[D]? = some (.deferred (some []))) := hK
    clear hK hI0 h1 h2 h3 h4 h5 h6 h7 c1
    gi_wp2
    refine ⟨by simp, .inl ⟨_, _, rfl, run_takeDeferred HK2.out, ?_⟩⟩
    refine ⟨_, results_tmp rfl _ _ _, ⟨sa, sc, rfl⟩, ?_⟩
    exact HE.out.trans (belowK_b (w := w) (Nat.le_refl _) V D _ _ (by have := HW0.out; omega) HK2.out rfl rfl)

set_option maxRecDepth 100000 in
set_option maxHeartbeats 4000000 in
set_option maxRecDepth 20000 in
theorem offs_no (w : World) (p : Option Addr) (h : NoB w (.pointer p)) (t : Int) :
    Calls Try.prog 22 #[.pointer p, .int .i64 t] w fun e w' => (∃ a c, e = .returned (.slice a 0 c)) ∧ Below w.heap.size w w' := by
  have HB : Hid (NoB w (.pointer p)) := h
  have KT := told_ok (w.alloc (.cells #[.slice none 0 0] 26)) (.pointer p) rfl t
  rw [World.size_alloc] at KT
  clear h
  refine (callsIn_wide (n := 9)).1 ?_
  refine callsIn_of_wp_marks Try.func22 rfl trivial ?_ rfl
  simp only [Try.ntmps22, List.size_toArray, List.length_cons, List.length_nil, Nat.reduceAdd, Nat.reduceSub, Array.replicate_succ, Array.replicate_zero, List.push_toArray, List.append_toArray, List.nil_append, List.cons_append]
  gi_wp2
  refine ⟨trivial, (callsIn_wide.2 KT).mono ?_⟩
  rintro e w' ⟨rfl, hw'⟩
  rw [hw']
  clear KT hw' w'
  gi_wp2
  obtain ⟨W0, hW0⟩ : ∃ W0, W0 = ((w.alloc (.cells #[.slice none 0 0] 26)).alloc (.cells #[.pointer p] 28)).alloc (.cells #[.int .i64 t] 2) := ⟨_, rfl⟩
  have hsz : W0.heap.size = w.heap.size + 3 := by rw [hW0]; simp
  have hI0 : OI w (.pointer p) nilB t 0 W0 := by
    have a1 := Boxed.new w 26 (.slice none 0 0)
    have a2 := Boxed.new (w.alloc (.cells #[.slice none 0 0] 26)) 28 (.pointer p)
    have a3 := Boxed.new ((w.alloc (.cells #[.slice none 0 0] 26)).alloc (.cells #[.pointer p] 28)) 2 (.int .i64 t)
    rw [World.size_alloc] at a2
    rw [World.size_alloc, World.size_alloc] at a3
    rw [hW0]
    exact ⟨a2.alloc _, a3, ⟨_, (a1.alloc _).alloc _, Row.nil _ _, fun k hk => by cases hk⟩, Go.Joins.below_alloc3 _ _ _ _⟩
  rw [← hW0]
  have HW0 : Hid (w.heap.size ≤ W0.heap.size ∧ W0.heap.size = w.heap.size + 3) := ⟨by omega, hsz⟩
  clear hW0 hsz
  refine range_own 56 #[.pointer (some ⟨w.heap.size + 1, 0, none⟩), .pointer (some ⟨w.heap.size + 1 + 1, 0, none⟩)] rfl (enters_of Try.func56 (by kernel_rfl) rfl)
    (fun x : Int × Int × Int => #[.int .i64 x.1, .agg #[.int .i64 x.2.1, .int .i64 x.2.2]]) (fun _ => rfl) (OI w (.pointer p) nilB t) (fun _ _ _ => False) (fun s _ => s) (fun _ _ _ => False)
    (fun s => s = 0) ?fI (fun _ _ _ _ h _ => h)
    (fun _ _ => { tmps := #[], defers := [] })
    (fun _ _ _ _ => False) (fun _ _ _ _ _ h _ => h) (fun _ _ _ _ _ h _ => h.elim) (fun _ _ _ _ _ h => h.elim) ?iter (fun _ _ _ _ h _ => h) ?done (fun _ _ _ _ _ h _ => h.elim)
  case fI => exact fun s V V' h ht => h.turned HW0.out.1 ht
  case iter =>
    intro l W1 hB1 hs1 hl Bk Bx kB hY kX hBk
    have hI1 := hI0.below hB1
    refine (tell_no 8 l _ _ p W1 (HB.out.below hI1.bel) hI1.bt.cell).mono ?_
    rintro e W' ⟨hv, rfl⟩
    exact ⟨hv, .inl ⟨0, rfl, hBk, hI1⟩⟩
  case done =>
    rintro D s V hD rfl ⟨h2, h3, ⟨sl, h4, h5, h6⟩, h7⟩ hK
    have c1 := h4.cell
    obtain ⟨sa, sc, hsl, _⟩ := h5.shape
    rw [hsl] at c1
    have c2 : V.cell? ⟨w.heap.size, 0, none⟩ = some (.slice sa 0 sc) := c1
    have HE : Hid (Below w.heap.size w V) := h7
    have HK2 : Hid (V.heap[D]? = some (.deferred (some []))) := hK
    clear hK hI0 h2 h3 h4 h5 h6 h7 c1
    gi_wp2
    refine ⟨by simp, .inl ⟨_, _, rfl, run_takeDeferred HK2.out, ?_⟩⟩
    refine ⟨_, results_tmp rfl _ _ _, ⟨sa, sc, rfl⟩, ?_⟩
    exact HE.out.trans (belowK_b (w := w) (Nat.le_refl _) V D _ _ (by have := HW0.out; omega) HK2.out rfl rfl)

set_option maxRecDepth 100000 in
set_option maxHeartbeats 4000000 in
set_option maxRecDepth 20000 in
theorem near_no (w : World) (p : Option Addr) (h : NoB w (.pointer p)) (t : Int) :
    Calls Try.prog 18 #[.pointer p, .int .i64 t] w fun e w' => e = .returned (.int .i64 0) ∧ Below w.heap.size w w' := by
  have HB : Hid (NoB w (.pointer p)) := h
  have KT := told_ok ((w.alloc (.cells #[.pointer p] 28)).alloc (.cells #[.int .i64 0] 3)) (.pointer p) rfl t
  rw [World.size_alloc, World.size_alloc] at KT
  clear h
  refine (callsIn_wide (n := 9)).1 ?_
  refine callsIn_of_wp_marks Try.func18 rfl trivial ?_ rfl
  simp only [Try.ntmps18, List.size_toArray, List.length_cons, List.length_nil, Nat.reduceAdd, Nat.reduceSub, Array.replicate_succ, Array.replicate_zero, List.push_toArray, List.append_toArray, List.nil_append, List.cons_append]
  gi_wp2
  refine ⟨trivial, (callsIn_wide.2 KT).mono ?_⟩
  rintro e w' ⟨rfl, hw'⟩
  rw [hw']
  clear KT hw' w'
  gi_wp2
  obtain ⟨W0, hW0⟩ : ∃ W0, W0 = (((w.alloc (.cells #[.pointer p] 28)).alloc (.cells #[.int .i64 0] 3)).alloc (.cells #[.pointer p] 28)).alloc (.cells #[.int .i64 t] 2) := ⟨_, rfl⟩
  have hsz : W0.heap.size = w.heap.size + 4 := by rw [hW0]; simp
  have hI0 : NI w (.pointer p) nilB t 0 W0 := by
    have a1 := Boxed.new w 28 (.pointer p)
    have a2 := Boxed.new (w.alloc (.cells #[.pointer p] 28)) 3 (.int .i64 0)
    have a3 := Boxed.new ((w.alloc (.cells #[.pointer p] 28)).alloc (.cells #[.int .i64 0] 3)) 28 (.pointer p)
    have a4 := Boxed.new (((w.alloc (.cells #[.pointer p] 28)).alloc (.cells #[.int .i64 0] 3)).alloc (.cells #[.pointer p] 28)) 2 (.int .i64 t)
    rw [World.size_alloc] at a2
    rw [World.size_alloc, World.size_alloc] at a3
    rw [World.size_alloc, World.size_alloc, World.size_alloc] at a4
    rw [hW0]
    exact ⟨((a1.alloc _).alloc _).alloc _, (a2.alloc _).alloc _, a3.alloc _, a4,
      (((Go.Joins.below_alloc2 _ _ _).alloc (by simp; omega) _).alloc (by simp; omega) _)⟩
  rw [← hW0]
  have HW0 : Hid (w.heap.size ≤ W0.heap.size ∧ W0.heap.size = w.heap.size + 4) := ⟨by omega, hsz⟩
  clear hW0 hsz
  refine range_own 56 #[.pointer (some ⟨w.heap.size + 1 + 1, 0, none⟩), .pointer (some ⟨w.heap.size + 1 + 1 + 1, 0, none⟩)] rfl (enters_of Try.func56 (by kernel_rfl) rfl)
    (fun x : Int × Int × Int => #[.int .i64 x.1, .agg #[.int .i64 x.2.1, .int .i64 x.2.2]]) (fun _ => rfl) (NI w (.pointer p) nilB t) (fun _ _ _ => False) (fun s _ => s) (fun _ _ _ => False)
    (fun s => s = 0) ?fI (fun _ _ _ _ h _ => h)
    (fun _ _ => { tmps := #[], defers := [] })
    (fun _ _ _ _ => False) (fun _ _ _ _ _ h _ => h) (fun _ _ _ _ _ h _ => h.elim) (fun _ _ _ _ _ h => h.elim) ?iter (fun _ _ _ _ h _ => h) ?done (fun _ _ _ _ _ h _ => h.elim)
  case fI => exact fun s V V' h ht => h.turned HW0.out.1 ht
  case iter =>
    intro l W1 hB1 hs1 hl Bk Bx kB hY kX hBk
    have hI1 := hI0.below hB1
    refine (tell_no 8 l _ _ p W1 (HB.out.below hI1.bel) hI1.bt.cell).mono ?_
    rintro e W' ⟨hv, rfl⟩
    exact ⟨hv, .inl ⟨0, rfl, hBk, hI1⟩⟩
  case done =>
    rintro D s V hD rfl hI hK
    have c2 : V.cell? ⟨w.heap.size + 1, 0, none⟩ = some (.int .i64 0) := hI.ct.cell
    have HE : Hid (Below w.heap.size w V) := hI.bel
    have HK2 : Hid (V.heap[D]? = some (.deferred (some []))) := hK
    clear hK hI0 hI
    gi_wp2
    refine ⟨by simp, .inl ⟨_, _, rfl, run_takeDeferred HK2.out, ?_⟩⟩
    refine ⟨_, results_tmp rfl _ _ _, rfl, ?_⟩
    exact HE.out.trans (belowK_b (w := w) (Nat.le_refl _) V D _ _ (by have := HW0.out; omega) HK2.out rfl rfl)
end Go.Proofs.Ytoibndfiolipbaa
