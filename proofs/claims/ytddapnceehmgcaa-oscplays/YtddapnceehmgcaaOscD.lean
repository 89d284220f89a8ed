/-
  One clock, act by act; what the law's own 'awake' answers.
-/
import Derived.Test.YtddapnceehmgcaaOscC
namespace Go.Proofs.Ytddapnceehmgcaa
open Go.ChangeShapes Go.WideShapes Go.ChangeAt Go.RowKit

/-- One clock, new since w; all that was in w stays. -/
structure Solo (w W : World) (g : Nat) (v : Ck) : Prop where
  at' : OC W g v
  ok : v.ok
  new : w.heap.size ≤ g
  low : Below w.heap.size w W
theorem Solo.act {w W W' : World} {g : Nat} {v v' : Ck} (h : Solo w W g v) (hc : OC W' g v') (ho : v'.ok) (ha : Apart (fun k => k = g) W W') : Solo w W' g v' :=
  ⟨hc, ho, h.new, ha.below h.low (fun k hk => by subst hk; exact h.new) h.low.size⟩
theorem solo_new (w W : World) (hb : Below w.heap.size w W) (s : Int) (h0 : 0 ≤ s) (h1 : s ≤ 49) : Calls Try.prog 7 #[.int .i64 s] W fun e w' => ∃ g, e = .returned (.tuple #[.pointer (some ⟨g, 0, none⟩), .int .i64 0]) ∧ Solo w w' g (newK s) :=
  (new_ok W s h0 h1).mono fun _ _ ⟨g, he, hc, hg, hbw⟩ => ⟨g, he, hc, newK_ok h0 h1, Nat.le_trans hb.size hg, hb.trans (hbw.mono hb.size)⟩
theorem Solo.step {w W : World} {g : Nat} {v : Ck} (h : Solo w W g v) (n : Int) : Calls Try.prog 10 #[.pointer (some ⟨g, 0, none⟩), .int .i64 n] W fun e w' => e = .returned (.int .i64 (stepE v n)) ∧ Solo w w' g (stepV v n) :=
  (step_ok W g v h.at' h.ok n).mono fun _ _ ⟨he, hc, ha⟩ => ⟨he, h.act hc (stepV_ok h.ok n) ha⟩
theorem Solo.adjust {w W : World} {g : Nat} {v : Ck} (h : Solo w W g v) (n : Int) : Calls Try.prog 12 #[.pointer (some ⟨g, 0, none⟩), .int .i64 n] W fun e w' => e = .returned (.int .i64 (adjE n)) ∧ Solo w w' g (adjV v n) :=
  (adjust_ok W g v h.at' n).mono fun _ _ ⟨he, hc, ha⟩ => ⟨he, h.act hc (adjV_ok h.ok n) ha⟩
theorem Solo.now {w W : World} {g : Nat} {v : Ck} (h : Solo w W g v) : Calls Try.prog 16 #[.pointer (some ⟨g, 0, none⟩)] W fun e w' => e = .returned (.int .i64 v.t) ∧ w' = W := now_ok W g v h.at'
theorem Solo.hard {w W : World} {g : Nat} {v : Ck} (h : Solo w W g v) : Calls Try.prog 17 #[.pointer (some ⟨g, 0, none⟩)] W fun e w' => e = .returned (.int .i64 v.h) ∧ w' = W := hard_ok W g v h.at'
theorem Solo.owed {w W : World} {g : Nat} {v : Ck} (h : Solo w W g v) : Calls Try.prog 18 #[.pointer (some ⟨g, 0, none⟩)] W fun e w' => e = .returned (.int .i64 v.o) ∧ w' = W := owed_ok W g v h.at'

set_option maxHeartbeats 1600000 in
set_option maxRecDepth 20000 in
theorem awake_ok (w : World) : Calls Try.prog 9 #[] w fun e w' => e = .returned (.bool true) ∧ Below w.heap.size w w' := by
  have k1 := solo_new w w (Below.refl _ _) 2 (by decide) (by decide)
  go_enter Try.func9, Try.ntmps9
  go_wp2_with fail
  refine k1.mono ?_
  rintro e w1 ⟨g, rfl, h1⟩
  clear k1
  have k2 := h1.adjust 5
  rw [show adjE 5 = 0 by decide, show adjV (newK 2) 5 = ⟨2, 0, 0, 5⟩ from rfl] at k2
  clear h1
  go_wp2_with fail
  refine k2.mono ?_
  rintro e w2 ⟨rfl, h2⟩
  clear k2
  have k3 := h2.step 100
  rw [show stepE ⟨2, 0, 0, 5⟩ 100 = 0 by decide, show stepV ⟨2, 0, 0, 5⟩ 100 = ⟨2, 100, 102, 3⟩ from rfl] at k3
  clear h2
  go_wp2_with fail
  refine k3.mono ?_
  rintro e w3 ⟨rfl, h3⟩
  clear k3
  have k4 := h3.now
  have k5 := h3.owed
  have HB : Hid (Below w.heap.size w w3) := h3.low
  clear h3
  go_wp2_with fail
  refine k4.mono ?_
  rintro e w3 ⟨rfl, rfl⟩
  go_wp2_with fail
  refine k5.mono ?_
  rintro e w3 ⟨rfl, rfl⟩
  go_wp2
  go_ret
  exact ⟨rfl, HB.out⟩
end Go.Proofs.Ytddapnceehmgcaa
