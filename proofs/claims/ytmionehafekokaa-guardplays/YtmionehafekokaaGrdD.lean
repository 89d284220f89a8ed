/-
  One guard, act by act; what the law's own 'awake' answers.
-/
import Derived.Test.YtmionehafekokaaGrdO
namespace Go.Proofs.Ytmionehafekokaa
open Go.ChangeShapes Go.WideShapes Go.ChangeAt Go.RowKit

/-- One guard, new since w; all that was in w stays. -/
def Solo (w W : World) (g : Nat) (v : Gs) (n : Nat) : Prop := ∃ m s rs, Gd W g m s v rs n ∧ (∀ k, Own g m s k → w.heap.size ≤ k) ∧ Below w.heap.size w W ∧ v.ok
theorem Solo.low {w W : World} {g : Nat} {v : Gs} {n : Nat} (h : Solo w W g v n) : Below w.heap.size w W := by
  obtain ⟨m, s, rs, h1, h2, h3, h4⟩ := h; exact h3
theorem Solo.ok {w W : World} {g : Nat} {v : Gs} {n : Nat} (h : Solo w W g v n) : v.ok := by
  obtain ⟨m, s, rs, h1, h2, h3, h4⟩ := h; exact h4
theorem Solo.below {w W W' : World} {g : Nat} {v : Gs} {n : Nat} (h : Solo w W g v n) (hb : Below W.heap.size W W') : Solo w W' g v n := by
  obtain ⟨m, s, rs, h1, h2, h3, h4⟩ := h
  exact ⟨m, s, rs, h1.below hb, h2, h3.trans (hb.mono h3.size), h4⟩
theorem Solo.drew {w W : World} {g : Nat} {v : Gs} {n : Nat} (h : Solo w W g v n) : Solo w W.drew g v n := by
  obtain ⟨m, s, rs, h1, h2, h3, h4⟩ := h
  exact ⟨m, s, rs, h1.drew, h2, h3.drew, h4⟩
theorem solo_new (w W : World) (hb : Below w.heap.size w W) (c : Cf) (i : Int) (h : nodeB c i = true) : Calls Try.prog 7 #[.agg (cfC c), .int .i64 i] W fun e w' => ∃ g, e = .returned (.tuple #[.pointer (some ⟨g, 0, none⟩), .int .i64 0]) ∧ Solo w w' g (newG c i) 0 := by
  refine (new_ok W c i h).mono fun _ _ ⟨g, m, he, hg, h1, h2, h3⟩ => ⟨g, he, m, _, _, hg, ?_, hb.trans (h3.mono hb.size), newG_ok h⟩
  intro k hk
  have := hb.size
  rcases hk with rfl | rfl | hk
  · omega
  · omega
  · cases hk
theorem Solo.data {w W : World} {g : Nat} {v : Gs} {n : Nat} (h : Solo w W g v n) (t : Int) : Calls Try.prog 10 #[.pointer (some ⟨g, 0, none⟩), .int .i64 t] W fun e w' => e = .returned (.tuple #[.int .i64 (dataR v t), .int .i64 (dataE v t)]) ∧ Solo w w' g (dataV v t) n := by
  obtain ⟨m, s, rs, h1, h2, h3, h4⟩ := h
  exact (data_ok W g m s v rs n h1 t).mono fun _ _ ⟨he, hg, ha⟩ => ⟨he, m, s, rs, hg, h2, ha.below h3 (fun k hk => by subst hk; exact h2 _ (.inl rfl)) h3.size, dataV_ok h4 t⟩
theorem Solo.other {w W : World} {g : Nat} {v : Gs} {n : Nat} (h : Solo w W g v n) (hn : n ≤ 999) (t : Int) : Calls Try.prog 12 #[.pointer (some ⟨g, 0, none⟩), .int .i64 t] W fun e w' => e = .returned (.int .i64 (othE v t)) ∧ Solo w w' g (othV v t) (n + 1) := by
  obtain ⟨m, s, rs, h1, h2, h3, h4⟩ := h
  refine (other_ok W g m s v rs n h1 h4 hn t).mono fun _ _ ⟨he, s', rs', hg, hs, ha⟩ => ⟨he, m, s', rs', hg, fun k hk => ?_, ha.below h3 h2 h3.size, othV_ok h4 t⟩
  rcases hk with rfl | rfl | hk
  · exact h2 _ (.inl rfl)
  · exact h2 _ (.inr (.inl rfl))
  · rcases hs k hk with h5 | h5
    · exact h2 k (.inr (.inr h5))
    · exact Nat.le_trans h3.size h5
theorem Solo.last {w W : World} {g : Nat} {v : Gs} {n : Nat} (h : Solo w W g v n) : Calls Try.prog 16 #[.pointer (some ⟨g, 0, none⟩)] W fun e w' => e = .returned (.int .i64 v.last) ∧ w' = W := by
  obtain ⟨m, s, rs, h1, h2, h3, h4⟩ := h
  exact last_ok W g m v s h1.at'

theorem usual_ok (w : World) : Calls Try.prog 20 #[] w fun e w' => e = .returned (.agg (cfC usualC)) ∧ Below w.heap.size w w' := by
  have hb : ∀ W, (Instr.build 23 #[(0, .int .i64 3), (2, .int .i64 400), (3, .int .i64 1), (4, .int .i64 16), (5, .int .i64 400), (6, .int .i64 400), (7, .int .i64 1), (8, .int .i64 2), (9, .int .i64 8)]).run Try.prog W = .ok (.agg (cfC usualC)) W := fun W => by
    kernel_rfl
  have h0 : CfAt (w.alloc (.cells (cfC Cf.zero) 23)) w.heap.size Cf.zero := CfAt.new w _
  have HB : Hid ((Instr.build 23 #[(0, .int .i64 3), (2, .int .i64 400), (3, .int .i64 1), (4, .int .i64 16), (5, .int .i64 400), (6, .int .i64 400), (7, .int .i64 1), (8, .int .i64 2), (9, .int .i64 8)]).run Try.prog (w.alloc (.cells (cfC Cf.zero) 23)) = .ok (.agg (cfC usualC)) (w.alloc (.cells (cfC Cf.zero) 23))) := hb _
  have HS : Hid ((Instr.storeAt 23 (.pointer (some ⟨w.heap.size, 0, none⟩)) (.agg (cfC usualC))).run Try.prog (w.alloc (.cells (cfC Cf.zero) 23)) = .ok () ((w.alloc (.cells (cfC Cf.zero) 23)).setRow w.heap.size (cfC usualC))) := h0.stores usualC
  have HE : Hid (CfAt ((w.alloc (.cells (cfC Cf.zero) 23)).setRow w.heap.size (cfC usualC)) w.heap.size usualC ∧ Below w.heap.size w ((w.alloc (.cells (cfC Cf.zero) 23)).setRow w.heap.size (cfC usualC))) :=
    ⟨h0.stored usualC, below_setRow (Go.Joins.below_alloc1 _ _) (Nat.le_refl _) _⟩
  clear hb h0
  go_enter Try.func20, Try.ntmps20
  go_wp2_with (first | (refine wpList_build_run rfl 23 _ rfl [(0, .int .i64 3), (2, .int .i64 400), (3, .int .i64 1), (4, .int .i64 16), (5, .int .i64 400), (6, .int .i64 400), (7, .int .i64 1), (8, .int .i64 2), (9, .int .i64 8)] _ rfl HB.out ?_) | (refine wpList_store_run rfl 23 _ _ rfl _ _ rfl rfl HS.out ?_) | fail)
  refine bodyPost_ret (res_cf rfl rfl HE.out.1) rfl ?_
  exact ⟨rfl, HE.out.2⟩

set_option maxHeartbeats 1600000 in
set_option maxRecDepth 20000 in
theorem awake_ok (w : World) : Calls Try.prog 9 #[] w fun e w' => e = .returned (.bool true) ∧ Below w.heap.size w w' := by
  have k1 := usual_ok w
  have K2 : Hid (∀ W, Below w.heap.size w W → Calls Try.prog 7 #[.agg (cfC usualC), .int .i64 1] W fun e w' => ∃ g, e = .returned (.tuple #[.pointer (some ⟨g, 0, none⟩), .int .i64 0]) ∧ Solo w w' g (newG usualC 1) 0) := fun W hW => solo_new w W hW usualC 1 (by decide)
  have K3 : Hid (∀ W g, Solo w W g (newG usualC 1) 0 → Calls Try.prog 10 #[.pointer (some ⟨g, 0, none⟩), .int .i64 1650] W fun e w' => e = .returned (.tuple #[.int .i64 1, .int .i64 0]) ∧ Below w.heap.size w w') := fun W g hW => by
    have := hW.data 1650
    rw [show dataR (newG usualC 1) 1650 = 1 by decide +kernel, show dataE (newG usualC 1) 1650 = 0 by decide +kernel] at this
    exact this.mono fun _ _ ⟨h1, h2⟩ => ⟨h1, h2.low⟩
  generalize usualC = c at *
  go_enter Try.func9, Try.ntmps9
  go_wp2_with fail
  refine k1.mono ?_
  rintro e w1 ⟨rfl, hb1⟩
  clear k1
  have k2 := K2.out w1 hb1
  clear K2 hb1
  go_wp2_with fail
  refine k2.mono ?_
  rintro e w2 ⟨g, rfl, hb2⟩
  have k3 := K3.out w2 g hb2
  clear k2 K3 hb2
  go_wp2_with fail
  refine k3.mono ?_
  rintro e w3 ⟨rfl, hb3⟩
  clear k3
  have HB : Hid (Below w.heap.size w w3) := hb3
  clear hb3
  go_wp2
  go_ret
  exact ⟨rfl, HB.out⟩
end Go.Proofs.Ytmionehafekokaa
