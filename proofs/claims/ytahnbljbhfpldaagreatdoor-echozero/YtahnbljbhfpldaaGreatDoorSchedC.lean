/-
  The contract of Check.
  The contracts of Round, Keep, Quiet, isNode, isTime, begin, upwards, Patience and of the statements' awake.
  The contracts of isNode, isTime, begin, upwards, Patience and of the statements' awake.
  The contracts of At, Speak and Next.
  The contract of Place.
-/
import Derived.Test.YtahnbljbhfpldaaGreatDoorSchedA
import Derived.Test.YtahnbljbhfpldaaGreatDoorPureB
namespace Go.Proofs.YtahnbljbhfpldaaGreatDoor
open Go.ChangeShapes Go.WideShapes Go.ChangeAt Go.RowKit
set_option maxRecDepth 20000

/-- The config lies in block g, which is new since w. -/
structure Cfg (w : World) (g : Nat) (c : Cf) (W : World) : Prop where
  own : CfAt W g c
  le : w.heap.size ≤ g
  bel : Below w.heap.size w W
theorem Cfg.new (w : World) (c : Cf) : Cfg w w.heap.size c (w.alloc (.cells (cfC c) 23)) := ⟨CfAt.new w c, Nat.le_refl _, Go.Joins.below_alloc1 _ _⟩
theorem Cfg.drew {w W : World} {g : Nat} {c : Cf} (h : Cfg w g c W) : Cfg w g c W.drew := ⟨h.own, h.le, h.bel.drew⟩
theorem Cfg.step {w W V : World} {g : Nat} {c : Cf} (h : Cfg w g c W) (hb : Below W.heap.size W V) : Cfg w g c V := ⟨h.own.below hb, h.le, h.bel.trans (hb.mono h.bel.size)⟩
/-- What a region that draws holds of memory: the config's cells. -/
theorem Cfg.held {w W : World} {g : Nat} {c : Cf} (h : Cfg w g c W) : (W.cell? ⟨g, 0, none⟩ = some (.int .i64 c.n) ∧ W.cell? ⟨g, 1, none⟩ = some (.int .i64 c.f) ∧ W.cell? ⟨g, 2, none⟩ = some (.int .i64 c.s) ∧ W.cell? ⟨g, 3, none⟩ = some (.int .i64 c.d) ∧ W.cell? ⟨g, 4, none⟩ = some (.int .i64 c.k) ∧ W.cell? ⟨g, 5, none⟩ = some (.int .i64 c.e) ∧ W.cell? ⟨g, 6, none⟩ = some (.int .i64 c.v) ∧ W.cell? ⟨g, 7, none⟩ = some (.int .i64 c.r) ∧ W.cell? ⟨g, 8, none⟩ = some (.int .i64 c.l) ∧ W.cell? ⟨g, 9, none⟩ = some (.int .i64 c.p)) ∧ Cfg w g c W :=
  ⟨⟨h.own.c0, h.own.c1, h.own.c2, h.own.c3, h.own.c4, h.own.c5, h.own.c6, h.own.c7, h.own.c8, h.own.c9⟩, h⟩

set_option maxHeartbeats 1600000 in
set_option maxRecDepth 20000 in
theorem scheck_ok (w : World) (c : Cf) : Calls Tryz.prog 28 #[.agg (cfC c)] w fun e w' => e = .returned (.int .i64 (if okB c = true then 0 else 1)) ∧ Below w.heap.size w w' := by
  have K1 : Hid (∀ W, Calls Tryz.prog 56 #[.agg (cfC c)] W fun e w' => e = .returned (.agg (cfC (bNodes c))) ∧ Below W.heap.size W w') := fun W => bnodes_ok W c
  have n1 : ∀ W, (binOp .neq 23 (.agg #[.int .i64 c.n, .int .i64 c.f, .int .i64 c.s, .int .i64 c.d, .int .i64 c.k, .int .i64 c.e, .int .i64 c.v, .int .i64 c.r, .int .i64 c.l, .int .i64 c.p]) (.agg (cfC (bNodes c)))).run Tryz.prog W = .ok (.bool (!nodesB c)) W := fun W => by rw [← same_nodes]; exact neqCf c (bNodes c) W
  have K2 : Hid (∀ W, Calls Tryz.prog 57 #[.agg (cfC c)] W fun e w' => e = .returned (.agg (cfC (bSlots c))) ∧ Below W.heap.size W w') := fun W => bslots_ok W c
  have n2 : ∀ W, (binOp .neq 23 (.agg #[.int .i64 c.n, .int .i64 c.f, .int .i64 c.s, .int .i64 c.d, .int .i64 c.k, .int .i64 c.e, .int .i64 c.v, .int .i64 c.r, .int .i64 c.l, .int .i64 c.p]) (.agg (cfC (bSlots c)))).run Tryz.prog W = .ok (.bool (!slotsB c)) W := fun W => by rw [← same_slots]; exact neqCf c (bSlots c) W
  have K3 : Hid (∀ W, Calls Tryz.prog 58 #[.agg (cfC c)] W fun e w' => e = .returned (.agg (cfC (bKeys c))) ∧ Below W.heap.size W w') := fun W => bkeys_ok W c
  have n3 : ∀ W, (binOp .neq 23 (.agg #[.int .i64 c.n, .int .i64 c.f, .int .i64 c.s, .int .i64 c.d, .int .i64 c.k, .int .i64 c.e, .int .i64 c.v, .int .i64 c.r, .int .i64 c.l, .int .i64 c.p]) (.agg (cfC (bKeys c)))).run Tryz.prog W = .ok (.bool (!keysB c)) W := fun W => by rw [← same_keys]; exact neqCf c (bKeys c) W
  have K4 : Hid (∀ W, Calls Tryz.prog 59 #[.agg (cfC c)] W fun e w' => e = .returned (.agg (cfC (bClocks c))) ∧ Below W.heap.size W w') := fun W => bclocks_ok W c
  have n4 : ∀ W, (binOp .neq 23 (.agg #[.int .i64 c.n, .int .i64 c.f, .int .i64 c.s, .int .i64 c.d, .int .i64 c.k, .int .i64 c.e, .int .i64 c.v, .int .i64 c.r, .int .i64 c.l, .int .i64 c.p]) (.agg (cfC (bClocks c)))).run Tryz.prog W = .ok (.bool (!clocksB c)) W := fun W => by rw [← same_clocks]; exact neqCf c (bClocks c) W
  have H0 : Hid (Cfg w w.heap.size c (w.alloc (.cells (cfC c) 23))) := Cfg.new w c
  unfold okB
  generalize nodesB c = b1 at *
  generalize bNodes c = c1 at *
  generalize slotsB c = b2 at *
  generalize bSlots c = c2 at *
  generalize keysB c = b3 at *
  generalize bKeys c = c3 at *
  generalize clocksB c = b4 at *
  generalize bClocks c = c4 at *
  go_enter Tryz.func28, Tryz.ntmps28
  go_upto_region 1 with fail
  generalize hg : w.heap.size = g at *
  generalize w.alloc (.cells (cfC c) 23) = W at *
  have HG : Hid (w.heap.size = g) := hg
  clear hg
  go_region_held3 (fun V => (V.cell? ⟨g, 0, none⟩ = some (.int .i64 c.n) ∧ V.cell? ⟨g, 1, none⟩ = some (.int .i64 c.f) ∧ V.cell? ⟨g, 2, none⟩ = some (.int .i64 c.s) ∧ V.cell? ⟨g, 3, none⟩ = some (.int .i64 c.d) ∧ V.cell? ⟨g, 4, none⟩ = some (.int .i64 c.k) ∧ V.cell? ⟨g, 5, none⟩ = some (.int .i64 c.e) ∧ V.cell? ⟨g, 6, none⟩ = some (.int .i64 c.v) ∧ V.cell? ⟨g, 7, none⟩ = some (.int .i64 c.r) ∧ V.cell? ⟨g, 8, none⟩ = some (.int .i64 c.l) ∧ V.cell? ⟨g, 9, none⟩ = some (.int .i64 c.p)) ∧ Cfg w g c V)
      (first | exact H0.out.held | assumption | exact (Cfg.drew (And.right (by assumption))).held | exact H0.out.drew.held)
      (first | (go_at_call 56; refine (K1.out _).mono ?_; rintro e w1 ⟨rfl, hb⟩; replace hb := (Cfg.step (And.right (by assumption)) hb).held))
  rename_i hh1
  have H1 : Hid (Cfg w g c w1) := hh1.2
  clear hh1 hb H0 K1 n1
  cases b1
  case false =>
    go_wp2
    go_ret
    exact ⟨by simp, HG.out ▸ H1.out.bel⟩
  go_upto_region 2 with fail
  go_region_held3 (fun V => (V.cell? ⟨g, 0, none⟩ = some (.int .i64 c.n) ∧ V.cell? ⟨g, 1, none⟩ = some (.int .i64 c.f) ∧ V.cell? ⟨g, 2, none⟩ = some (.int .i64 c.s) ∧ V.cell? ⟨g, 3, none⟩ = some (.int .i64 c.d) ∧ V.cell? ⟨g, 4, none⟩ = some (.int .i64 c.k) ∧ V.cell? ⟨g, 5, none⟩ = some (.int .i64 c.e) ∧ V.cell? ⟨g, 6, none⟩ = some (.int .i64 c.v) ∧ V.cell? ⟨g, 7, none⟩ = some (.int .i64 c.r) ∧ V.cell? ⟨g, 8, none⟩ = some (.int .i64 c.l) ∧ V.cell? ⟨g, 9, none⟩ = some (.int .i64 c.p)) ∧ Cfg w g c V)
      (first | exact H1.out.held | assumption | exact (Cfg.drew (And.right (by assumption))).held | exact H1.out.drew.held)
      (first | (go_at_call 57; refine (K2.out _).mono ?_; rintro e w2 ⟨rfl, hb⟩; replace hb := (Cfg.step (And.right (by assumption)) hb).held))
  rename_i hh2
  have H2 : Hid (Cfg w g c w2) := hh2.2
  clear hh2 hb H1 K2 n2
  cases b2
  case false =>
    go_wp2
    go_ret
    exact ⟨by simp, HG.out ▸ H2.out.bel⟩
  go_upto_region 3 with fail
  go_region_held3 (fun V => (V.cell? ⟨g, 0, none⟩ = some (.int .i64 c.n) ∧ V.cell? ⟨g, 1, none⟩ = some (.int .i64 c.f) ∧ V.cell? ⟨g, 2, none⟩ = some (.int .i64 c.s) ∧ V.cell? ⟨g, 3, none⟩ = some (.int .i64 c.d) ∧ V.cell? ⟨g, 4, none⟩ = some (.int .i64 c.k) ∧ V.cell? ⟨g, 5, none⟩ = some (.int .i64 c.e) ∧ V.cell? ⟨g, 6, none⟩ = some (.int .i64 c.v) ∧ V.cell? ⟨g, 7, none⟩ = some (.int .i64 c.r) ∧ V.cell? ⟨g, 8, none⟩ = some (.int .i64 c.l) ∧ V.cell? ⟨g, 9, none⟩ = some (.int .i64 c.p)) ∧ Cfg w g c V)
      (first | exact H2.out.held | assumption | exact (Cfg.drew (And.right (by assumption))).held | exact H2.out.drew.held)
      (first | (go_at_call 58; refine (K3.out _).mono ?_; rintro e w3 ⟨rfl, hb⟩; replace hb := (Cfg.step (And.right (by assumption)) hb).held))
  rename_i hh3
  have H3 : Hid (Cfg w g c w3) := hh3.2
  clear hh3 hb H2 K3 n3
  cases b3
  case false =>
    go_wp2
    go_ret
    exact ⟨by simp, HG.out ▸ H3.out.bel⟩
  go_upto_region 4 with fail
  go_region_held3 (fun V => (V.cell? ⟨g, 0, none⟩ = some (.int .i64 c.n) ∧ V.cell? ⟨g, 1, none⟩ = some (.int .i64 c.f) ∧ V.cell? ⟨g, 2, none⟩ = some (.int .i64 c.s) ∧ V.cell? ⟨g, 3, none⟩ = some (.int .i64 c.d) ∧ V.cell? ⟨g, 4, none⟩ = some (.int .i64 c.k) ∧ V.cell? ⟨g, 5, none⟩ = some (.int .i64 c.e) ∧ V.cell? ⟨g, 6, none⟩ = some (.int .i64 c.v) ∧ V.cell? ⟨g, 7, none⟩ = some (.int .i64 c.r) ∧ V.cell? ⟨g, 8, none⟩ = some (.int .i64 c.l) ∧ V.cell? ⟨g, 9, none⟩ = some (.int .i64 c.p)) ∧ Cfg w g c V)
      (first | exact H3.out.held | assumption | exact (Cfg.drew (And.right (by assumption))).held | exact H3.out.drew.held)
      (first | (go_at_call 59; refine (K4.out _).mono ?_; rintro e w4 ⟨rfl, hb⟩; replace hb := (Cfg.step (And.right (by assumption)) hb).held))
  rename_i hh4
  have H4 : Hid (Cfg w g c w4) := hh4.2
  clear hh4 hb H3 K4 n4
  cases b4
  case false =>
    go_wp2
    go_ret
    exact ⟨by simp, HG.out ▸ H4.out.bel⟩
  go_wp2
  go_ret
  exact ⟨by simp, HG.out ▸ H4.out.bel⟩
end Go.Proofs.YtahnbljbhfpldaaGreatDoor

namespace Go.Proofs.YtahnbljbhfpldaaGreatDoor
open Go.ChangeShapes Go.WideShapes Go.ChangeAt Go.RowKit
set_option maxRecDepth 20000

theorem wrap_in {x : Int} (h0 : -9223372036854775808 ≤ x) (h1 : x ≤ 9223372036854775807) : IntKind.i64.wrap x = x := by rw [IntKind.wrap_i64]; omega
theorem rnd_le (c : Cf) : 0 ≤ rndN c ∧ rndN c ≤ 80000 := by
  cases h : okB c
  · simp [rndN, h]
  · have := rnd_in h; omega

/-- Quiet's sums and products, none of them too great. -/
theorem qui_sums {c : Cf} (h : okB c = true) : ∃ q A B X D Y Q : Int, IntKind.i64.wrap (c.r + c.l) = q ∧ IntKind.i64.wrap (2 * rndN c + c.v) = A ∧ IntKind.i64.wrap (100 + q) = B ∧ IntKind.i64.wrap (A * B) = X ∧ IntKind.i64.wrap (100 - q) = D ∧
    X.tdiv D = Y ∧ IntKind.i64.wrap Y = Y ∧ ¬ D = 0 ∧ (D == 0) = false ∧ IntKind.i64.wrap (Y + 200) = Q ∧ quiN c = Q := by
  have hr := rnd_in h
  have hq := qui_in h
  have g := right_of h
  have h1 := g.v0; have h2 := g.v1; have h3 := g.s1; have h4 := g.r0; have h5 := g.r1; have h6 := g.l0; have h7 := g.l1
  have hd : quiN c = ((2 * rndN c + c.v) * (100 + (c.r + c.l))).tdiv (100 - (c.r + c.l)) + 200 := by rw [quiN, if_pos h]
  have a1 : (2 * rndN c + c.v) * 100 ≤ (2 * rndN c + c.v) * (100 + (c.r + c.l)) := Int.mul_le_mul_of_nonneg_left (by omega) (by omega)
  have a2 : (2 * rndN c + c.v) * (100 + (c.r + c.l)) ≤ (2 * rndN c + c.v) * 110 := Int.mul_le_mul_of_nonneg_left (by omega) (by omega)
  refine ⟨c.r + c.l, 2 * rndN c + c.v, 100 + (c.r + c.l), (2 * rndN c + c.v) * (100 + (c.r + c.l)), 100 - (c.r + c.l), ((2 * rndN c + c.v) * (100 + (c.r + c.l))).tdiv (100 - (c.r + c.l)), quiN c,
    wrap_in (by omega) (by omega), wrap_in (by omega) (by omega), wrap_in (by omega) (by omega), wrap_in (by omega) (by omega), wrap_in (by omega) (by omega), rfl, ?_, by omega, by simp; omega, ?_, rfl⟩
  · exact wrap_in (by omega) (by omega)
  · rw [hd]; exact wrap_in (by omega) (by omega)

end Go.Proofs.YtahnbljbhfpldaaGreatDoor

namespace Go.Proofs.YtahnbljbhfpldaaGreatDoor
open Go.ChangeShapes Go.WideShapes Go.ChangeAt Go.RowKit
set_option maxRecDepth 20000

/-- Patience's sums. -/
theorem pat_sums {c : Cf} {i : Int} (h : nodeB c i = true) : ∃ a b d x y z t P u : Int, upN (quiN c) (rndN c) = u ∧ IntKind.i64.wrap (6 + u) = a ∧ IntKind.i64.wrap (c.d + 1) = b ∧ IntKind.i64.wrap (2 * b) = d ∧ IntKind.i64.wrap (d + 8) = x ∧ IntKind.i64.wrap (c.n - 1) = y ∧
    IntKind.i64.wrap (y - i) = z ∧ IntKind.i64.wrap (z * a) = t ∧ IntKind.i64.wrap (x + t) = P ∧ patN c i = P ∧ IntKind.i64.wrap u = u := by
  obtain ⟨ho, i0, i1⟩ := node_ok h
  have hr := rnd_in ho
  have hq := qui_in ho
  have g := right_of ho
  have h1 := g.n0; have h2 := g.n1; have h3 := g.d0; have h4 := g.d1
  have hu := up_in (a := quiN c) (b := rndN c) (by omega) (by omega)
  have hp : patN c i = 2 * (c.d + 1) + 8 + (c.n - 1 - i) * (6 + upN (quiN c) (rndN c)) := by rw [patN, if_pos h]
  have a1 : 0 ≤ (c.n - 1 - i) * (6 + upN (quiN c) (rndN c)) := Int.mul_nonneg (by omega) (by omega)
  have a2 : (c.n - 1 - i) * (6 + upN (quiN c) (rndN c)) ≤ 8 * (6 + upN (quiN c) (rndN c)) := Int.mul_le_mul_of_nonneg_right (by omega) (by omega)
  exact ⟨6 + upN (quiN c) (rndN c), c.d + 1, 2 * (c.d + 1), 2 * (c.d + 1) + 8, c.n - 1, c.n - 1 - i, (c.n - 1 - i) * (6 + upN (quiN c) (rndN c)), patN c i, upN (quiN c) (rndN c), rfl,
    wrap_in (by omega) (by omega), wrap_in (by omega) (by omega), wrap_in (by omega) (by omega), wrap_in (by omega) (by omega), wrap_in (by omega) (by omega), wrap_in (by omega) (by omega), wrap_in (by omega) (by omega),
    by rw [hp]; exact wrap_in (by omega) (by omega), rfl, wrap_in (by omega) (by omega)⟩

/-- The usual config. -/
def usualC : Cf := ⟨3, 0, 400, 1, 16, 400, 400, 1, 2, 8⟩
end Go.Proofs.YtahnbljbhfpldaaGreatDoor

namespace Go.Proofs.YtahnbljbhfpldaaGreatDoor
open Go.ChangeShapes Go.WideShapes Go.ChangeAt Go.RowKit
set_option maxRecDepth 20000

/-- What At, Speak and Next answer. -/
def atV (c : Cf) (r s : Int) : Value := if cellB c r s = true then .tuple #[.int .i64 (atN c r s), .int .i64 0] else .tuple #[.int .i64 0, .int .i64 1]
def speakV (c : Cf) (r s : Int) : Value := if cellB c r s = true then .tuple #[.int .i64 (atN c r s), .int .i64 (atN c r s + c.s - 1), .int .i64 0] else .tuple #[.int .i64 0, .int .i64 0, .int .i64 1]
def nextV (c : Cf) (i t : Int) : Value := if snextB c i t = true then .tuple #[.int .i64 (nextN c i t), .int .i64 0] else .tuple #[.int .i64 0, .int .i64 1]

end Go.Proofs.YtahnbljbhfpldaaGreatDoor

namespace Go.Proofs.YtahnbljbhfpldaaGreatDoor
open Go.ChangeShapes Go.WideShapes Go.ChangeAt Go.RowKit
set_option maxRecDepth 20000

/-- What Place answers. -/
def triA (a b d : Int) : Array Value := #[.int .i64 a, .int .i64 b, .int .i64 d]
def placeV (c : Cf) (t : Int) : Value := if placeB c t = true then .tuple #[.agg #[.int .i64 (t / rndN c), .int .i64 (t % rndN c / c.s), .int .i64 (t % c.s)], .int .i64 0] else .tuple #[.agg #[.int .i64 0, .int .i64 0, .int .i64 0], .int .i64 1]
/-- Place's quotients. -/
theorem place_sums {c : Cf} {t : Int} (ho : okB c = true) (ht : timeB t = true) : ∃ R q m k o : Int, rndN c = R ∧ ¬ R = 0 ∧ (R == 0) = false ∧ t.tdiv R = q ∧ IntKind.i64.wrap q = q ∧ t.tmod R = m ∧ ¬ c.s = 0 ∧ (c.s == 0) = false ∧ m.tdiv c.s = k ∧ IntKind.i64.wrap k = k ∧ t.tmod c.s = o ∧
    t / rndN c = q ∧ t % rndN c / c.s = k ∧ t % c.s = o ∧ t % rndN c = m ∧ m.tmod c.s = o := by
  have hr := rnd_in ho
  have hT := time_in ht
  have hs := (right_of ho).s0
  have p1 := parts t (rndN c) (by omega)
  have q1 : t.tdiv (rndN c) = t / rndN c := Int.tdiv_eq_ediv_of_nonneg hT.1
  have q2 : t.tmod (rndN c) = t % rndN c := Int.tmod_eq_emod_of_nonneg hT.1
  have q3 : (t % rndN c).tdiv c.s = t % rndN c / c.s := Int.tdiv_eq_ediv_of_nonneg p1.2.1
  have q4 : t.tmod c.s = t % c.s := Int.tmod_eq_emod_of_nonneg hT.1
  have q5 : (t % rndN c).tmod c.s = t % c.s := by rw [Int.tmod_eq_emod_of_nonneg p1.2.1, over_eq ho]
  have u1 : 0 ≤ t / rndN c := Int.ediv_nonneg hT.1 (by omega)
  have u2 : t / rndN c ≤ t := Int.ediv_le_self _ hT.1
  have u3 := slot_of ho t
  have u4 := (right_of ho).n1
  refine ⟨rndN c, t / rndN c, t % rndN c, t % rndN c / c.s, t % c.s, rfl, by omega, by simp; omega, q1, wrap_in (by omega) (by omega), q2, by omega, by simp; omega, q3, wrap_in (by omega) (by omega), q4, rfl, rfl, rfl, rfl, q5⟩

end Go.Proofs.YtahnbljbhfpldaaGreatDoor
