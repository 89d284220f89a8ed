/-
  The contracts of the closure that orders the ends, and of what it calls.
-/
import Derived.Test.YtmdpfkilkmicjaaSortLaid
import Derived.Test.YtmdpfkilkmicjaaMostMath
import Derived.Test.YtmdpfkilkmicjaaDraws
import Derived.Lib.SmallJoins
namespace Go.Proofs.Ytmdpfkilkmicjaa
open Go.ChangeShapes Go.WideShapes Go.ChangeAt Go.RowKit Go.Sort Go.Shelf

theorem nan64_ok (w : World) (a : Int) : Calls Try.prog 54 #[.int .i64 a] w fun e w' => e = .returned (.bool false) ∧ w' = w := by
  go_enter Try.func54, Try.ntmps54
  go_wp2
  go_ret
  exact ⟨by first | rfl | simp, rfl⟩
theorem nan_ok (w : World) (a : Int) : Calls Try.prog 55 #[.int .i64 a] w fun e w' => e = .returned (.bool false) ∧ w' = w := by
  go_enter Try.func55, Try.ntmps55
  go_wp2
  go_ret
  exact ⟨by first | rfl | simp, rfl⟩
theorem compare64_ok (w : World) (a b : Int) : Calls Try.prog 45 #[.int .i64 a, .int .i64 b] w fun e w' => e = .returned (.int .i64 (Lib.compareInt a b)) ∧ w' = w := by
  have k1 := nan64_ok w a
  have k2 := nan64_ok w b
  have h : (a < b ∧ Lib.compareInt a b = -1) ∨ (¬ a < b ∧ b < a ∧ Lib.compareInt a b = 1) ∨ (¬ a < b ∧ ¬ b < a ∧ Lib.compareInt a b = 0) := by
    unfold Lib.compareInt; split
    · exact .inl ⟨by assumption, rfl⟩
    · split
      · exact .inr (.inl ⟨by assumption, by assumption, rfl⟩)
      · exact .inr (.inr ⟨by assumption, by assumption, rfl⟩)
  rcases h with ⟨h1, h2⟩ | ⟨h1, h2, h3⟩ | ⟨h1, h2, h3⟩
  all_goals
    first | rw [h2] | rw [h3]
    go_enter Try.func45, Try.ntmps45
    go_wp2_with fail
    refine k1.mono ?_
    rintro e w1 ⟨rfl, rfl⟩
    clear k1
    go_wp2_with fail
    refine k2.mono ?_
    rintro e w1 ⟨rfl, rfl⟩
    clear k2
    go_wp2
    go_ret
    exact ⟨by first | rfl | simp, rfl⟩
theorem compare_ok (w : World) (a b : Int) : Calls Try.prog 46 #[.int .i64 a, .int .i64 b] w fun e w' => e = .returned (.int .i64 (Lib.compareInt a b)) ∧ w' = w := by
  have k1 := nan_ok w a
  have k2 := nan_ok w b
  have h : (a < b ∧ Lib.compareInt a b = -1) ∨ (¬ a < b ∧ b < a ∧ Lib.compareInt a b = 1) ∨ (¬ a < b ∧ ¬ b < a ∧ Lib.compareInt a b = 0) := by
    unfold Lib.compareInt; split
    · exact .inl ⟨by assumption, rfl⟩
    · split
      · exact .inr (.inl ⟨by assumption, by assumption, rfl⟩)
      · exact .inr (.inr ⟨by assumption, by assumption, rfl⟩)
  rcases h with ⟨h1, h2⟩ | ⟨h1, h2, h3⟩ | ⟨h1, h2, h3⟩
  all_goals
    first | rw [h2] | rw [h3]
    go_enter Try.func46, Try.ntmps46
    go_wp2_with fail
    refine k1.mono ?_
    rintro e w1 ⟨rfl, rfl⟩
    clear k1
    go_wp2_with fail
    refine k2.mono ?_
    rintro e w1 ⟨rfl, rfl⟩
    clear k2
    go_wp2
    go_ret
    exact ⟨by first | rfl | simp, rfl⟩

/-- The first of two that is not 0. -/
def orN (x y : Int) : Int := if x = 0 then y else x
set_option maxHeartbeats 800000 in
theorem or_ok (w : World) (g : Nat) (x y : Int) (h0 : w.cell? ⟨g, 0, none⟩ = some (.int .i64 x)) (h1 : w.cell? ⟨g, 1, none⟩ = some (.int .i64 y)) :
    Calls Try.prog 44 #[.slice (some ⟨g, 0, none⟩) 2 2] w fun e w' => e = .returned (.int .i64 (orN x y)) ∧ w' = w := by
  have h : (¬ x = 0 ∧ orN x y = x) ∨ (x = 0 ∧ ¬ y = 0 ∧ orN x y = y) ∨ (x = 0 ∧ y = 0 ∧ orN x y = 0) := by
    unfold orN; split <;> omega
  rcases h with ⟨g1, g2⟩ | ⟨g1, g3, g2⟩ | ⟨g1, g3, g2⟩
  · rw [g2]
    clear g2
    go_enter Try.func44, Try.ntmps44
    go_wp2
    refine wp_loop_rounds 3 ?_
    rw [rounds_succ]
    go_wp2
    go_ret
    exact ⟨by first | rfl | simp, rfl⟩
  · rw [g2]
    subst g1
    clear g2
    go_enter Try.func44, Try.ntmps44
    go_wp2
    refine wp_loop_rounds 3 ?_
    rw [rounds_succ]
    go_wp2
    rw [rounds_succ]
    go_wp2
    go_ret
    exact ⟨by first | rfl | simp, rfl⟩
  · rw [g2]
    subst g1
    subst g3
    clear g2
    go_enter Try.func44, Try.ntmps44
    go_wp2
    refine wp_loop_rounds 3 ?_
    rw [rounds_succ]
    go_wp2
    rw [rounds_succ]
    go_wp2
    rw [rounds_succ]
    go_wp2
    go_ret
    exact ⟨by first | rfl | simp, rfl⟩

/-- An end's two cells; the order of the ends. -/
def encE (x : Int × Int) : List Value := [.int .i64 x.1, .int .i64 x.2]
def cmpE (x y : Int × Int) : Int := orN (Lib.compareInt x.1 y.1) (Lib.compareInt y.2 x.2)

theorem cell_drew_new (V : World) (p q : Value) (n j : Nat) (hn : n = V.heap.size) : (V.alloc (.cells #[p, q] 3)).drew.cell? ⟨n, j, none⟩ = #[p, q][j]? := Go.Joins.cell_alloc_mark_at V #[p, q] 3 (0, 0) n j hn
theorem cell_new_drew (V : World) (p q : Value) (n j : Nat) (hn : n = V.heap.size) : (V.drew.alloc (.cells #[p, q] 3)).cell? ⟨n, j, none⟩ = #[p, q][j]? := Go.Joins.cell_alloc_mark_at V.drew #[p, q] 3 (0, 0) n j hn
/-- What the closure's region holds of memory: its two boxes. -/
def Four (s : Nat) (a b c d : Int) (V : World) : Prop :=
  (V.cell? ⟨s, 0, none⟩ = some (.int .i64 a) ∧ V.cell? ⟨s, 1, none⟩ = some (.int .i64 b) ∧ V.cell? ⟨s + 1, 0, none⟩ = some (.int .i64 c) ∧ V.cell? ⟨s + 1, 1, none⟩ = some (.int .i64 d)) ∧ s + 1 < V.heap.size
theorem Four.alloc {s : Nat} {a b c d : Int} {V : World} (h : Four s a b c d V) (o : Obj) : Four s a b c d (V.alloc o) := by
  obtain ⟨⟨h1, h2, h3, h4⟩, h5⟩ := h
  have hb := Go.Joins.below_alloc1 V o
  have hz := hb.size
  exact ⟨⟨by rw [hb.cell (by show s < _; omega)]; exact h1, by rw [hb.cell (by show s < _; omega)]; exact h2, by rw [hb.cell h5]; exact h3, by rw [hb.cell h5]; exact h4⟩, by omega⟩
theorem Four.drew {s : Nat} {a b c d : Int} {V : World} (h : Four s a b c d V) : Four s a b c d V.drew := h

set_option maxHeartbeats 1600000 in
set_option maxRecDepth 20000 in
/-- The closure. -/
theorem closure_ok (x y : Int × Int) (W : World) : Calls Try.prog 43 #[.agg #[.int .i64 x.1, .int .i64 x.2], .agg #[.int .i64 y.1, .int .i64 y.2]] W fun e w' => e = .returned (.int .i64 (cmpE x y)) ∧ ∃ q os', w' = grow (W.drewN q) os' := by
  obtain ⟨a, b⟩ := x
  obtain ⟨c, d⟩ := y
  unfold cmpE
  simp only []
  have K1 : Hid (∀ W, Calls Try.prog 45 #[.int .i64 a, .int .i64 c] W fun e w' => e = .returned (.int .i64 (Lib.compareInt a c)) ∧ w' = W) := fun W => compare64_ok W a c
  have K2 : Hid (∀ W, Calls Try.prog 46 #[.int .i64 d, .int .i64 b] W fun e w' => e = .returned (.int .i64 (Lib.compareInt d b)) ∧ w' = W) := fun W => compare_ok W d b
  generalize Lib.compareInt a c = p at *
  generalize Lib.compareInt d b = q at *
  have K3 : Hid (∀ W g, W.cell? ⟨g, 0, none⟩ = some (.int .i64 p) → W.cell? ⟨g, 1, none⟩ = some (.int .i64 q) → Calls Try.prog 44 #[.slice (some ⟨g, 0, none⟩) 2 2] W fun e w' => e = .returned (.int .i64 (orN p q)) ∧ w' = W) := fun W g h0 h1 => or_ok W g p q h0 h1
  generalize orN p q = r at *
  have H0 : Hid (Four W.heap.size a b c d ((W.alloc (.cells #[.int .i64 a, .int .i64 b] 63)).alloc (.cells #[.int .i64 c, .int .i64 d] 63))) := by
    refine ⟨⟨?_, ?_, ?_, ?_⟩, ?_⟩ <;> simp
  go_enter Try.func43, Try.ntmps43
  go_wp2
  go_region_held3 (fun V => (V.cell? ⟨W.heap.size, 0, none⟩ = some (.int .i64 a) ∧ V.cell? ⟨W.heap.size, 1, none⟩ = some (.int .i64 b) ∧ V.cell? ⟨W.heap.size + 1, 0, none⟩ = some (.int .i64 c) ∧ V.cell? ⟨W.heap.size + 1, 1, none⟩ = some (.int .i64 d)) ∧ W.heap.size + 1 < V.heap.size)
      (first | exact H0.out | assumption | exact H0.out.drew | exact Four.drew (by assumption) | exact Four.alloc (by assumption) _)
      (first | (go_at_call 45; refine (K1.out _).mono ?_; rintro e w9 ⟨rfl, rfl⟩)
             | (go_at_call 46; refine (K2.out _).mono ?_; rintro e w9 ⟨rfl, rfl⟩)
             | (go_at_call 44; refine (K3.out _ _ (by first | exact (cell_drew_new _ _ _ _ _ (by simp)).trans rfl | exact (cell_new_drew _ _ _ _ _ (by simp)).trans rfl) (by first | exact (cell_drew_new _ _ _ _ _ (by simp)).trans rfl | exact (cell_new_drew _ _ _ _ _ (by simp)).trans rfl)).mono ?_; rintro e w9 ⟨rfl, rfl⟩))
  all_goals
    go_wp2
    go_ret
    exact ⟨rfl, 1, _, by rw [alloc_eq_grow, alloc_eq_grow, alloc_eq_grow, grow_grow, grow_grow]; rfl⟩

theorem lt_cmpE (x y : Int × Int) : ltOf cmpE x y = decide (x.1 < y.1 ∨ (x.1 = y.1 ∧ y.2 < x.2)) := by
  unfold ltOf cmpE orN Lib.compareInt
  congr 1
  apply propext
  repeat' split
  all_goals omega
theorem swoE : SWO (ltOf cmpE) := {
  irrefl := fun x => by rw [lt_cmpE]; simp
  trans := fun x y z h1 h2 => by rw [lt_cmpE] at *; simp at *; omega
  ntrans := fun x y z h1 h2 => by rw [lt_cmpE] at *; simp at *; omega }
theorem totE (x y : Int × Int) (h1 : ltOf cmpE x y = false) (h2 : ltOf cmpE y x = false) : x = y := by
  rw [lt_cmpE] at *
  simp at *
  exact Prod.ext (by omega) (by omega)
theorem leE_iff (x y : Int × Int) : (!ltOf cmpE y x) = true ↔ leE x y := by
  rw [lt_cmpE]
  unfold leE
  simp
  omega
theorem cmpLaysE (blk off size : Nat) (w : World) : Go.Proofs.CmpLays Try.prog 43 #[] encE 2 cmpE blk off size w :=
  fun _ _ _ _ x y => closure_ok x y _
end Go.Proofs.Ytmdpfkilkmicjaa
