/-
  One table, act by act; what the law's own 'awake' answers.
-/
import Derived.Test.YtoibndfiolipbaaBrgH
namespace Go.Proofs.Ytoibndfiolipbaa
open Go.ChangeShapes Go.WideShapes Go.ChangeAt Go.RowKit

/-- One table, new since w; all that was in w stays. -/
def Solo (w W : World) (g : Nat) (v : Bt) (n : Nat) : Prop := ∃ m, Bd W g m v n ∧ (∀ k, Own g m k → w.heap.size ≤ k) ∧ Below w.heap.size w W ∧ v.ok
theorem Solo.low {w W : World} {g : Nat} {v : Bt} {n : Nat} (h : Solo w W g v n) : Below w.heap.size w W := by
  obtain ⟨m, h1, h2, h3, h4⟩ := h; exact h3
theorem Solo.ok {w W : World} {g : Nat} {v : Bt} {n : Nat} (h : Solo w W g v n) : v.ok := by
  obtain ⟨m, h1, h2, h3, h4⟩ := h; exact h4
theorem Solo.below {w W W' : World} {g : Nat} {v : Bt} {n : Nat} (h : Solo w W g v n) (hb : Below W.heap.size W W') : Solo w W' g v n := by
  obtain ⟨m, h1, h2, h3, h4⟩ := h
  exact ⟨m, h1.below hb, h2, h3.trans (hb.mono h3.size), h4⟩
theorem solo_new (w W : World) (hb : Below w.heap.size w W) (c : Cf) (i : Int) (h : nodeB c i = true) : Calls Try.prog 7 #[.agg (cfC c), .int .i64 i] W fun e w' => ∃ g, e = .returned (.tuple #[.pointer (some ⟨g, 0, none⟩), .int .i64 0]) ∧ Solo w w' g (newT c i) 0 := by
  refine (new_ok W c i h).mono fun _ _ ⟨g, m, he, hg, h1, h2, h3⟩ => ⟨g, he, m, hg, ?_, hb.trans (h3.mono hb.size), newT_ok h⟩
  intro k hk
  have := hb.size
  rcases hk with rfl | rfl <;> omega
theorem Solo.at {w W : World} {g : Nat} {v : Bt} {n : Nat} (h : Solo w W g v n) (f t : Int) : Calls Try.prog 14 #[.pointer (some ⟨g, 0, none⟩), .int .i64 f, .int .i64 t] W fun e w' => e = .returned (.tuple #[.agg #[.int .i64 (atA v f t).a, .int .i64 (atA v f t).b], .int .i64 (atA v f t).e]) ∧ Solo w w' g v n := by
  have h0 := h
  obtain ⟨m, h1, h2, h3, h4⟩ := h
  exact (at_ok W g m v n h1 h4 f t).mono fun _ _ ⟨he, hb⟩ => ⟨he, h0.below hb⟩
theorem Solo.most {w W : World} {g : Nat} {v : Bt} {n : Nat} (h : Solo w W g v n) (f t : Int) : Calls Try.prog 16 #[.pointer (some ⟨g, 0, none⟩), .int .i64 f, .int .i64 t] W fun e w' => e = .returned (.tuple #[.int .i64 (mosV (atA v f t) t), .int .i64 (atA v f t).e]) ∧ Solo w w' g v n := by
  have h0 := h
  obtain ⟨m, h1, h2, h3, h4⟩ := h
  exact (most_ok W g m v n h1 h4 f t).mono fun _ _ ⟨he, hb⟩ => ⟨he, h0.below hb⟩
theorem Solo.near {w W : World} {g : Nat} {v : Bt} {n : Nat} (h : Solo w W g v n) (t : Int) : Calls Try.prog 18 #[.pointer (some ⟨g, 0, none⟩), .int .i64 t] W fun e w' => e = .returned (.int .i64 (neU v t v.c.n.toNat)) ∧ Solo w w' g v n := by
  have h0 := h
  obtain ⟨m, h1, h2, h3, h4⟩ := h
  exact (near_ok W g m v n h1 h4 t).mono fun _ _ ⟨he, hb⟩ => ⟨he, h0.below hb⟩
theorem Solo.fresh {w W : World} {g : Nat} {v : Bt} {n : Nat} (h : Solo w W g v n) (t : Int) : Calls Try.prog 20 #[.pointer (some ⟨g, 0, none⟩), .int .i64 t] W fun e w' => ∃ sl, e = .returned sl ∧ Row EI w' sl (frU v t v.c.n.toNat) ∧ Solo w w' g v n := by
  have h0 := h
  obtain ⟨m, h1, h2, h3, h4⟩ := h
  exact (fresh_ok W g m v n h1 h4 t).mono fun _ _ ⟨sl, he, hr, _, hb⟩ => ⟨sl, he, hr, h0.below hb⟩
theorem Solo.offs {w W : World} {g : Nat} {v : Bt} {n : Nat} (h : Solo w W g v n) (t : Int) : Calls Try.prog 22 #[.pointer (some ⟨g, 0, none⟩), .int .i64 t] W fun e w' => ∃ sl, e = .returned sl ∧ Row EV w' sl (ofU v t v.c.n.toNat) ∧ Solo w w' g v n := by
  have h0 := h
  obtain ⟨m, h1, h2, h3, h4⟩ := h
  exact (offs_ok W g m v n h1 h4 t).mono fun _ _ ⟨sl, he, hr, _, hb⟩ => ⟨sl, he, hr, h0.below hb⟩
theorem Solo.put {w W : World} {g : Nat} {v : Bt} {n : Nat} (h : Solo w W g v n) (hn : n ≤ 999) (f a b t : Int) : Calls Try.prog 12 #[.pointer (some ⟨g, 0, none⟩), .int .i64 f, .agg #[.int .i64 a, .int .i64 b], .int .i64 t] W fun e w' => e = .returned (.int .i64 (putE v f a b t)) ∧ Solo w w' g (putV v f a b t) (n + 1) := by
  obtain ⟨m, h1, h2, h3, h4⟩ := h
  exact (put_ok W g m v n h1 h4 hn f a b t).mono fun _ _ ⟨he, hg, ha⟩ => ⟨he, m, hg, h2, ha.below h3 (fun k hk => by subst hk; exact h2 _ (.inr rfl)) h3.size, putV_ok h4 f a b t⟩

/-- The law's own config. -/
def usualC : Cf := ⟨3, 0, 400, 1, 16, 400, 400, 1, 2, 8⟩
set_option maxRecDepth 20000 in
theorem usual_ok (w : World) : Calls Try.prog 24 #[] w fun e w' => e = .returned (.agg (cfC usualC)) ∧ Below w.heap.size w w' := by
  have hb : ∀ W, (Instr.build 23 #[(0, .int .i64 3), (2, .int .i64 400), (3, .int .i64 1), (4, .int .i64 16), (5, .int .i64 400), (6, .int .i64 400), (7, .int .i64 1), (8, .int .i64 2), (9, .int .i64 8)]).run Try.prog W = .ok (.agg (cfC usualC)) W := fun W => by
    kernel_rfl
  have h0 : CfAt (w.alloc (.cells (cfC Cf.zero) 23)) w.heap.size Cf.zero := CfAt.new w _
  have HB : Hid ((Instr.build 23 #[(0, .int .i64 3), (2, .int .i64 400), (3, .int .i64 1), (4, .int .i64 16), (5, .int .i64 400), (6, .int .i64 400), (7, .int .i64 1), (8, .int .i64 2), (9, .int .i64 8)]).run Try.prog (w.alloc (.cells (cfC Cf.zero) 23)) = .ok (.agg (cfC usualC)) (w.alloc (.cells (cfC Cf.zero) 23))) := hb _
  have HS : Hid ((Instr.storeAt 23 (.pointer (some ⟨w.heap.size, 0, none⟩)) (.agg (cfC usualC))).run Try.prog (w.alloc (.cells (cfC Cf.zero) 23)) = .ok () ((w.alloc (.cells (cfC Cf.zero) 23)).setRow w.heap.size (cfC usualC))) := h0.stores usualC
  have HE : Hid (CfAt ((w.alloc (.cells (cfC Cf.zero) 23)).setRow w.heap.size (cfC usualC)) w.heap.size usualC ∧ Below w.heap.size w ((w.alloc (.cells (cfC Cf.zero) 23)).setRow w.heap.size (cfC usualC))) :=
    ⟨h0.stored usualC, below_setRow (Go.Joins.below_alloc1 _ _) (Nat.le_refl _) _⟩
  clear hb h0
  go_enter Try.func24, Try.ntmps24
  go_wp2_with (first | (refine wpList_build_run rfl 23 _ rfl [(0, .int .i64 3), (2, .int .i64 400), (3, .int .i64 1), (4, .int .i64 16), (5, .int .i64 400), (6, .int .i64 400), (7, .int .i64 1), (8, .int .i64 2), (9, .int .i64 8)] _ rfl HB.out ?_) | (refine wpList_store_run rfl 23 _ _ rfl _ _ rfl rfl HS.out ?_) | fail)
  refine bodyPost_ret (res_cf rfl rfl HE.out.1) rfl ?_
  exact ⟨rfl, HE.out.2⟩

set_option maxHeartbeats 1600000 in
set_option maxRecDepth 20000 in
theorem awake_ok (w : World) : Calls Try.prog 9 #[] w fun e w' => e = .returned (.bool true) ∧ Below w.heap.size w w' := by
  have k1 := usual_ok w
  have K2 : Hid (∀ W, Below w.heap.size w W → Calls Try.prog 7 #[.agg (cfC usualC), .int .i64 0] W fun e w' => ∃ g, e = .returned (.tuple #[.pointer (some ⟨g, 0, none⟩), .int .i64 0]) ∧ Solo w w' g (newT usualC 0) 0) := fun W hW => solo_new w W hW usualC 0 (by decide)
  have K3 : Hid (∀ W g, Solo w W g (newT usualC 0) 0 → Calls Try.prog 12 #[.pointer (some ⟨g, 0, none⟩), .int .i64 1, .agg #[.int .i64 (-5), .int .i64 6], .int .i64 0] W fun e w' => e = .returned (.int .i64 0) ∧ Solo w w' g (putV (newT usualC 0) 1 (-5) 6 0) 1) := fun W g hW => by
    have := hW.put (by omega) 1 (-5) 6 0
    rw [show putE (newT usualC 0) 1 (-5) 6 0 = 0 by decide +kernel] at this
    exact this
  have K4 : Hid (∀ W g, Solo w W g (putV (newT usualC 0) 1 (-5) 6 0) 1 → Calls Try.prog 18 #[.pointer (some ⟨g, 0, none⟩), .int .i64 0] W fun e w' => e = .returned (.int .i64 2) ∧ Below w.heap.size w w') := fun W g hW => by
    have := hW.near 0
    rw [show neU (putV (newT usualC 0) 1 (-5) 6 0) 0 (putV (newT usualC 0) 1 (-5) 6 0).c.n.toNat = 2 by decide +kernel] at this
    exact this.mono fun _ _ ⟨h1, h2⟩ => ⟨h1, h2.low⟩
  generalize putV (newT usualC 0) 1 (-5) 6 0 = v1 at *
  generalize usualC = c at *
  go_enter Try.func9, Try.ntmps9
  go_wp2_with fail
  refine k1.mono ?_
  rintro e w1 ⟨rfl, hb1⟩
  clear k1
  have k2 := K2.out w1 hb1
  clear K2 hb1
  go_wp2_with fail
  refine k2.mono ?_
  rintro e w2 ⟨g, rfl, hb2⟩
  have k3 := K3.out w2 g hb2
  clear k2 K3 hb2
  go_wp2_with fail
  refine k3.mono ?_
  rintro e w3 ⟨rfl, hb3⟩
  have k4 := K4.out w3 g hb3
  clear k3 K4 hb3
  go_wp2_with fail
  refine k4.mono ?_
  rintro e w4 ⟨rfl, hb4⟩
  clear k4
  have HB : Hid (Below w.heap.size w w4) := hb4
  clear hb4
  go_wp2
  go_ret
  exact ⟨rfl, HB.out⟩
end Go.Proofs.Ytoibndfiolipbaa
