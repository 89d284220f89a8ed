/-
  Two clocks side by side, the program's and the document's, act by act.
-/
import Derived.Test.YtddapnceehmgcaaOscD
import Derived.Test.YtddapnceehmgcaaOscR
namespace Go.Proofs.Ytddapnceehmgcaa
open Go.ChangeShapes Go.WideShapes Go.ChangeAt Go.RowKit

/-- Both clocks, new since w and apart from each other; all that was in w stays. -/
structure Duo (w W : World) (g r : Nat) (v u : Ck) : Prop where
  at' : OC W g v
  rt : RC W r u
  ne : g ≠ r
  vo : v.ok
  uo : u.ok
  new : w.heap.size ≤ g
  rnew : w.heap.size ≤ r
  low : Below w.heap.size w W
theorem Duo.drew {w W : World} {g r : Nat} {v u : Ck} (h : Duo w W g r v u) : Duo w W.drew g r v u := ⟨h.at', h.rt, h.ne, h.vo, h.uo, h.new, h.rnew, h.low.drew⟩
theorem Duo.act {w W W' : World} {g r : Nat} {v v' u : Ck} (h : Duo w W g r v u) (hc : OC W' g v') (ho : v'.ok) (ha : Apart (fun k => k = g) W W') : Duo w W' g r v' u :=
  ⟨hc, (ha.block r h.rt.lt (fun e => h.ne e.symm)).trans h.rt, h.ne, ho, h.uo, h.new, h.rnew, ha.below h.low (fun k hk => by subst hk; exact h.new) h.low.size⟩
theorem Duo.ract {w W W' : World} {g r : Nat} {v u u' : Ck} (h : Duo w W g r v u) (hc : RC W' r u') (ho : u'.ok) (ha : Apart (fun k => k = r) W W') : Duo w W' g r v u' :=
  ⟨(ha.block g h.at'.lt (fun e => h.ne e)).trans h.at', hc, h.ne, h.vo, ho, h.new, h.rnew, ha.below h.low (fun k hk => by subst hk; exact h.rnew) h.low.size⟩
theorem Solo.duo {w W : World} {g : Nat} {v : Ck} (h : Solo w W g v) (s : Int) (h0 : 0 ≤ s) (h1 : s ≤ 49) : Calls Try.prog 8 #[.int .i64 s] W fun e w' => ∃ r, e = .returned (.tuple #[.pointer (some ⟨r, 0, none⟩), .int .i64 0]) ∧ Duo w w' g r v (newK s) :=
  (rnew_ok W s h0 h1).mono fun _ _ ⟨r, he, hc, hr, hb⟩ => ⟨r, he, h.at'.below hb, hc, by have := h.at'.lt; omega, h.ok, newK_ok h0 h1, h.new, Nat.le_trans h.low.size hr, h.low.trans (hb.mono h.low.size)⟩
theorem Duo.step {w W : World} {g r : Nat} {v u : Ck} (h : Duo w W g r v u) (n : Int) : Calls Try.prog 10 #[.pointer (some ⟨g, 0, none⟩), .int .i64 n] W fun e w' => e = .returned (.int .i64 (stepE v n)) ∧ Duo w w' g r (stepV v n) u :=
  (step_ok W g v h.at' h.vo n).mono fun _ _ ⟨he, hc, ha⟩ => ⟨he, h.act hc (stepV_ok h.vo n) ha⟩
theorem Duo.rstep {w W : World} {g r : Nat} {v u : Ck} (h : Duo w W g r v u) (n : Int) : Calls Try.prog 11 #[.pointer (some ⟨r, 0, none⟩), .int .i64 n] W fun e w' => e = .returned (.int .i64 (stepE u n)) ∧ Duo w w' g r v (stepV u n) :=
  (rstep_ok W r u h.rt h.uo n).mono fun _ _ ⟨he, hc, ha⟩ => ⟨he, h.ract hc (stepV_ok h.uo n) ha⟩
theorem Duo.adjust {w W : World} {g r : Nat} {v u : Ck} (h : Duo w W g r v u) (n : Int) : Calls Try.prog 12 #[.pointer (some ⟨g, 0, none⟩), .int .i64 n] W fun e w' => e = .returned (.int .i64 (adjE n)) ∧ Duo w w' g r (adjV v n) u :=
  (adjust_ok W g v h.at' n).mono fun _ _ ⟨he, hc, ha⟩ => ⟨he, h.act hc (adjV_ok h.vo n) ha⟩
theorem Duo.radjust {w W : World} {g r : Nat} {v u : Ck} (h : Duo w W g r v u) (n : Int) : Calls Try.prog 13 #[.pointer (some ⟨r, 0, none⟩), .int .i64 n] W fun e w' => e = .returned (.int .i64 (adjE n)) ∧ Duo w w' g r v (adjV u n) :=
  (radjust_ok W r u h.rt n).mono fun _ _ ⟨he, hc, ha⟩ => ⟨he, h.ract hc (adjV_ok h.uo n) ha⟩
theorem Duo.set {w W : World} {g r : Nat} {v u : Ck} (h : Duo w W g r v u) (n : Int) : Calls Try.prog 14 #[.pointer (some ⟨g, 0, none⟩), .int .i64 n] W fun e w' => e = .returned (.int .i64 (setE n)) ∧ Duo w w' g r (setV v n) u :=
  (set_ok W g v h.at' n).mono fun _ _ ⟨he, hc, ha⟩ => ⟨he, h.act hc (setV_ok h.vo n) ha⟩
theorem Duo.rset {w W : World} {g r : Nat} {v u : Ck} (h : Duo w W g r v u) (n : Int) : Calls Try.prog 15 #[.pointer (some ⟨r, 0, none⟩), .int .i64 n] W fun e w' => e = .returned (.int .i64 (setE n)) ∧ Duo w w' g r v (setV u n) :=
  (rset_ok W r u h.rt n).mono fun _ _ ⟨he, hc, ha⟩ => ⟨he, h.ract hc (setV_ok h.uo n) ha⟩
theorem Duo.tells {w W : World} {g r : Nat} {v u : Ck} (h : Duo w W g r v u) : (Calls Try.prog 16 #[.pointer (some ⟨g, 0, none⟩)] W fun e w' => e = .returned (.int .i64 v.t) ∧ w' = W) ∧ (Calls Try.prog 17 #[.pointer (some ⟨g, 0, none⟩)] W fun e w' => e = .returned (.int .i64 v.h) ∧ w' = W) ∧ (Calls Try.prog 18 #[.pointer (some ⟨g, 0, none⟩)] W fun e w' => e = .returned (.int .i64 v.o) ∧ w' = W) :=
  ⟨now_ok W g v h.at', hard_ok W g v h.at', owed_ok W g v h.at'⟩
theorem Duo.cells {w W : World} {g r : Nat} {v u : Ck} (h : Duo w W g r v u) : W.cell? ⟨r, 2, none⟩ = some (.int .i64 u.t) ∧ W.cell? ⟨r, 1, none⟩ = some (.int .i64 u.h) ∧ W.cell? ⟨r, 3, none⟩ = some (.int .i64 u.o) := ⟨h.rt.c2, h.rt.c1, h.rt.c3⟩
end Go.Proofs.Ytddapnceehmgcaa
