/-
  Two guards side by side, the program's and the document's, act by act.
-/
import Derived.Test.YtmionehafekokaaGrdS
namespace Go.Proofs.Ytmionehafekokaa
open Go.ChangeShapes Go.WideShapes Go.ChangeAt Go.RowKit

/-- Both guards, new since w and apart from each other; all that was in w stays. -/
def Duo (w W : World) (g r : Nat) (v u : Gs) (n q : Nat) : Prop :=
  ∃ m s rs s2, Gd W g m s v rs n ∧ Rd W r s2 u q ∧ (∀ k, Own g m s k → ¬ Rwn r s2 k) ∧ (∀ k, Own g m s k → w.heap.size ≤ k) ∧ (∀ k, Rwn r s2 k → w.heap.size ≤ k) ∧ Below w.heap.size w W ∧ v.ok
theorem Duo.low {w W : World} {g r : Nat} {v u : Gs} {n q : Nat} (h : Duo w W g r v u n q) : Below w.heap.size w W := by
  obtain ⟨m, s, rs, s2, h1, h2, h3, h4, h5, h6, h7⟩ := h; exact h6
theorem Duo.drew {w W : World} {g r : Nat} {v u : Gs} {n q : Nat} (h : Duo w W g r v u n q) : Duo w W.drew g r v u n q := by
  obtain ⟨m, s, rs, s2, h1, h2, h3, h4, h5, h6, h7⟩ := h
  exact ⟨m, s, rs, s2, h1.drew, h2.drew, h3, h4, h5, h6.drew, h7⟩
/-- An act of the program's. -/
theorem duo_act {w W W' : World} {g r m : Nat} {s s2 : Value} {u v' : Gs} {q n' : Nat} (h2 : Rd W r s2 u q) (h3 : ∀ k, Own g m s k → ¬ Rwn r s2 k) (h4 : ∀ k, Own g m s k → w.heap.size ≤ k) (h5 : ∀ k, Rwn r s2 k → w.heap.size ≤ k) (h6 : Below w.heap.size w W) (ho : v'.ok)
    (hp : Passed W g m s v' n' W') : Duo w W' g r v' u n' q := by
  obtain ⟨s', rs', hg, hs, ha⟩ := hp
  have hO : ∀ k, Own g m s' k → Own g m s k ∨ W.heap.size ≤ k := fun k hk => by
    rcases hk with rfl | rfl | hk
    · exact .inl (.inl rfl)
    · exact .inl (.inr (.inl rfl))
    · rcases hs k hk with h | h
      · exact .inl (.inr (.inr h))
      · exact .inr h
  refine ⟨m, s', rs', s2, hg, h2.keep fun k hk => ha.block k (h2.lt hk) (fun e => h3 k e hk), fun k hk hr => ?_, fun k hk => ?_, h5, ha.below h6 h4 h6.size, ho⟩
  · rcases hO k hk with h | h
    · exact h3 k h hr
    · have := h2.lt hr; omega
  · rcases hO k hk with h | h
    · exact h4 k h
    · exact Nat.le_trans h6.size h
/-- An act of the document's. -/
theorem duo_ract {w W W' : World} {g r m : Nat} {s s2 : Value} {v u' : Gs} {rs : List Int} {n q' : Nat} (h1 : Gd W g m s v rs n) (h3 : ∀ k, Own g m s k → ¬ Rwn r s2 k) (h4 : ∀ k, Own g m s k → w.heap.size ≤ k) (h5 : ∀ k, Rwn r s2 k → w.heap.size ≤ k) (h6 : Below w.heap.size w W) (ho : v.ok)
    (hp : RPassed W r s2 u' q' W') : Duo w W' g r v u' n q' := by
  obtain ⟨s', hg, hs, ha⟩ := hp
  have hO : ∀ k, Rwn r s' k → Rwn r s2 k ∨ W.heap.size ≤ k := fun k hk => by
    rcases hk with rfl | hk
    · exact .inl (.inl rfl)
    · rcases hs k hk with h | h
      · exact .inl (.inr h)
      · exact .inr h
  refine ⟨m, s, rs, s', h1.keep fun k hk => ha.block k (h1.lt hk) (h3 k hk), hg, fun k hk hr => ?_, h4, fun k hk => ?_, ha.below h6 h5 h6.size, ho⟩
  · rcases hO k hr with h | h
    · exact h3 k hk h
    · have := h1.lt hk; omega
  · rcases hO k hk with h | h
    · exact h5 k h
    · exact Nat.le_trans h6.size h
theorem passed_of {W W' : World} {g m : Nat} {s : Value} {v : Gs} {rs : List Int} {n : Nat} (h : Gd W' g m s v rs n) (ha : Apart (fun k => k = g) W W') : Passed W g m s v n W' := ⟨s, rs, h, fun _ hk => .inl hk, ha.mono fun _ e => .inl e⟩
theorem rpassed_of {W W' : World} {g : Nat} {s : Value} {v : Gs} {n : Nat} (h : Rd W' g s v n) (ha : Apart (fun k => k = g) W W') : RPassed W g s v n W' := ⟨s, h, fun _ hk => .inl hk, ha.mono fun _ e => .inl e⟩
theorem Duo.data {w W : World} {g r : Nat} {v u : Gs} {n q : Nat} (h : Duo w W g r v u n q) (t : Int) : Calls Try.prog 10 #[.pointer (some ⟨g, 0, none⟩), .int .i64 t] W fun e w' => e = .returned (.tuple #[.int .i64 (dataR v t), .int .i64 (dataE v t)]) ∧ Duo w w' g r (dataV v t) u n q := by
  obtain ⟨m, s, rs, s2, h1, h2, h3, h4, h5, h6, h7⟩ := h
  exact (data_ok W g m s v rs n h1 t).mono fun _ _ ⟨he, hg, ha⟩ => ⟨he, duo_act h2 h3 h4 h5 h6 (dataV_ok h7 t) (passed_of hg ha)⟩
theorem Duo.rdata {w W : World} {g r : Nat} {v u : Gs} {n q : Nat} (h : Duo w W g r v u n q) (t : Int) : Calls Try.prog 11 #[.pointer (some ⟨r, 0, none⟩), .int .i64 t] W fun e w' => e = .returned (.tuple #[.int .i64 (dataR u t), .int .i64 (dataE u t)]) ∧ Duo w w' g r v (dataV u t) n q := by
  obtain ⟨m, s, rs, s2, h1, h2, h3, h4, h5, h6, h7⟩ := h
  exact (rdata_ok W r s2 u q h2 t).mono fun _ _ ⟨he, hg, ha⟩ => ⟨he, duo_ract h1 h3 h4 h5 h6 h7 (rpassed_of hg ha)⟩
theorem Duo.other {w W : World} {g r : Nat} {v u : Gs} {n q : Nat} (h : Duo w W g r v u n q) (hn : n ≤ 999) (t : Int) : Calls Try.prog 12 #[.pointer (some ⟨g, 0, none⟩), .int .i64 t] W fun e w' => e = .returned (.int .i64 (othE v t)) ∧ Duo w w' g r (othV v t) u (n + 1) q := by
  obtain ⟨m, s, rs, s2, h1, h2, h3, h4, h5, h6, h7⟩ := h
  exact (other_ok W g m s v rs n h1 h7 hn t).mono fun _ _ ⟨he, hp⟩ => ⟨he, duo_act h2 h3 h4 h5 h6 (othV_ok h7 t) hp⟩
theorem Duo.rother {w W : World} {g r : Nat} {v u : Gs} {n q : Nat} (h : Duo w W g r v u n q) (hn : q ≤ 999) (t : Int) : Calls Try.prog 13 #[.pointer (some ⟨r, 0, none⟩), .int .i64 t] W fun e w' => e = .returned (.int .i64 (othE u t)) ∧ Duo w w' g r v (othV u t) n (q + 1) := by
  obtain ⟨m, s, rs, s2, h1, h2, h3, h4, h5, h6, h7⟩ := h
  exact (rother_ok W r s2 u q h2 hn t).mono fun _ _ ⟨he, hp⟩ => ⟨he, duo_ract h1 h3 h4 h5 h6 h7 hp⟩
theorem Duo.forget {w W : World} {g r : Nat} {v u : Gs} {n q : Nat} (h : Duo w W g r v u n q) (l : Int) : Calls Try.prog 14 #[.pointer (some ⟨g, 0, none⟩), .int .i64 l] W fun e w' => e = .returned (.tuple #[]) ∧ Duo w w' g r (forV v l) u n q := by
  obtain ⟨m, s, rs, s2, h1, h2, h3, h4, h5, h6, h7⟩ := h
  exact (forget_ok W g m s v rs n h1 l).mono fun _ _ ⟨he, hg, ha⟩ => ⟨he, duo_act h2 h3 h4 h5 h6 (forV_ok h7 l) (passed_of hg ha)⟩
theorem Duo.rforget {w W : World} {g r : Nat} {v u : Gs} {n q : Nat} (h : Duo w W g r v u n q) (l : Int) : Calls Try.prog 15 #[.pointer (some ⟨r, 0, none⟩), .int .i64 l] W fun e w' => e = .returned (.tuple #[]) ∧ Duo w w' g r v (forV u l) n q := by
  obtain ⟨m, s, rs, s2, h1, h2, h3, h4, h5, h6, h7⟩ := h
  exact (rforget_ok W r s2 u q h2 l).mono fun _ _ ⟨he, hg, ha⟩ => ⟨he, duo_ract h1 h3 h4 h5 h6 h7 (rpassed_of hg ha)⟩
theorem Duo.last {w W : World} {g r : Nat} {v u : Gs} {n q : Nat} (h : Duo w W g r v u n q) : Calls Try.prog 16 #[.pointer (some ⟨g, 0, none⟩)] W fun e w' => e = .returned (.int .i64 v.last) ∧ w' = W := by
  obtain ⟨m, s, rs, s2, h1, h2, h3, h4, h5, h6, h7⟩ := h
  exact last_ok W g m v s h1.at'
theorem Duo.cell {w W : World} {g r : Nat} {v u : Gs} {n q : Nat} (h : Duo w W g r v u n q) : W.cell? ⟨r, 11, none⟩ = some (.int .i64 u.last) := by
  obtain ⟨m, s, rs, s2, h1, h2, h3, h4, h5, h6, h7⟩ := h
  exact h2.at'.last
theorem Solo.duo {w W : World} {g : Nat} {v : Gs} {n : Nat} (h : Solo w W g v n) (c : Cf) (i : Int) (hi : nodeB c i = true) : Calls Try.prog 8 #[.agg (cfC c), .int .i64 i] W fun e w' => ∃ r, e = .returned (.tuple #[.pointer (some ⟨r, 0, none⟩), .int .i64 0]) ∧ Duo w w' g r v (newG c i) n 0 := by
  obtain ⟨m, s, rs, h1, h2, h3, h4⟩ := h
  refine (rnew_ok W c i hi).mono fun _ _ ⟨r, he, hr, hle, hb⟩ => ⟨r, he, m, s, rs, _, h1.below hb, hr, ?_, h2, ?_, h3.trans (hb.mono h3.size), h4⟩
  · intro k hk hk2
    have := h1.lt hk
    rcases hk2 with rfl | hk2
    · omega
    · cases hk2
  · intro k hk
    rcases hk with rfl | hk
    · exact Nat.le_trans h3.size hle
    · cases hk
end Go.Proofs.Ytmionehafekokaa
