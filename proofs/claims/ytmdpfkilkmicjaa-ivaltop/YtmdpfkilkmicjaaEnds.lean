/-
  The contract of ends: the ends of the right ones, in order.
-/
import Derived.Test.YtmdpfkilkmicjaaSortCmp
import Derived.Test.YtmdpfkilkmicjaaIvals
import Derived.Test.YtmdpfkilkmicjaaIvalParts
import Derived.Laws.AppendOwn
import Derived.OwnWalk
namespace Go.Proofs.Ytmdpfkilkmicjaa
open Go.ChangeShapes Go.WideShapes Go.ChangeAt Go.RowKit Go.Sort Go.Shelf

theorem endInfo : (Try.prog.info? 63).map (fun i => (i.zero, i.size, i.bytes)) = some (some (.agg #[.int .i64 0, .int .i64 0]), 2, 16) := by kernel_rfl

/-- The cells of a list of ends. -/
def flatE (l : List (Int × Int)) : List Value := l.flatMap encE
theorem flatE_length (l : List (Int × Int)) : (flatE l).length = l.length * 2 := by
  induction l with
  | nil => rfl
  | cons x l ih => simp only [flatE, List.flatMap_cons, List.length_append, List.length_cons] at *; rw [ih]; simp [encE]; omega
theorem flatE_append (l m : List (Int × Int)) : flatE (l ++ m) = flatE l ++ flatE m := by simp [flatE]
theorem flatE_get : ∀ (l : List (Int × Int)) (t : Nat), t < l.length * 2 → (flatE l)[t]? = some (encE l[t / 2]!)[t % 2]!
  | [], t, h => by simp at h
  | x :: l, 0, _ => by simp [flatE, encE]
  | x :: l, 1, _ => by simp [flatE, encE]
  | x :: l, t + 2, h => by
    have ih := flatE_get l t (by simp at h; omega)
    have e1 : (t + 2) / 2 = t / 2 + 1 := by omega
    have e2 : (t + 2) % 2 = t % 2 := by omega
    have e3 : flatE (x :: l) = encE x ++ flatE l := by simp [flatE]
    rw [e3, List.getElem?_append_right (by simp [encE]), e1, e2]
    simp only [encE, List.length_cons, List.length_nil] at *
    simpa using ih

theorem own_keepE {w w' : World} {B n B' : Nat} {v : Value} {xs : List Value} (h : w.ownsRow B 63 2 v n xs) (hb : Below B' w w') (hB : B' = w.heap.size := by rfl) : w'.ownsRow B 63 2 v n xs := by
  subst hB
  refine ⟨h.1, ?_⟩
  rcases h.2 with h0 | ⟨g, cap, cur, rfl, hlow, hg, h4, h5, h6, h7⟩
  · exact .inl h0
  · exact .inr ⟨g, cap, cur, rfl, hlow, by rw [hb.block g (Array.getElem?_eq_some_iff.1 hg).1]; exact hg, h4, h5, h6, h7⟩

/-- A new block of four cells. -/
theorem four_new (w : World) (a b c d : Value) : ∀ j u, [a, b, c, d][j]? = some u → (w.alloc (.cells #[a, b, c, d] 63)).cell? ((⟨w.heap.size, 0, none⟩ : Addr).add j) = some u := by
  intro j u hu
  rw [Addr.add_lit, Nat.zero_add, Go.Joins.cell_alloc_mark_at w #[a, b, c, d] 63 (0, 0) w.heap.size j rfl]
  simpa using hu

/-- A row that a call owns, as the sort wants it. -/
theorem holds_of_own {w : World} {B g cap : Nat} {l : List (Int × Int)} (h : w.ownsRow B 63 2 (.slice (some ⟨g, 0, none⟩) l.length cap) l.length (flatE l)) : HoldsK encE 2 w g 0 l.toArray := by
  intro j hj
  rw [size_flatK] at hj
  have hj' : j < l.length * 2 := by simpa using hj
  refine ⟨?_, by rw [Nat.zero_add]; exact h.frozenAt j⟩
  rw [Nat.zero_add, h.cellAt j hj', flatE_get l j hj', get_flatK _ _ _ _ hj]
  simp
/-- What the sort leaves of the rest. -/
theorem sort_below {w : World} {B g m : Nat} (hB : B ≤ g) (hg : g < w.heap.size) (d : Array (Int × Int)) (os : Array Obj) : Below B w (Go.Proofs.sortWorldK encE 2 w g 0 m d os) := by
  refine ⟨rfl, rfl, rfl, ?_, fun k hk => ?_⟩
  · simp [Go.Proofs.sortWorldK, grow, putRowK, putRow, mapBlock]
  · have h1 : ¬ g = k := by omega
    have h2 : k < w.heap.size := by omega
    simp [Go.Proofs.sortWorldK, grow, putRowK, putRow, mapBlock, Array.getElem?_append, Array.getElem_modify, h1, h2]

/-- The ends, in order. -/
def sortE (l : List (Int × Int)) : List (Int × Int) := l.mergeSort fun x y => !ltOf cmpE y x
theorem sortE_perm (l : List (Int × Int)) : (sortE l).Perm l := List.mergeSort_perm _ _
theorem sortE_order (l : List (Int × Int)) : (sortE l).Pairwise leE := by
  have h : (sortE l).Pairwise (fun x y => (!ltOf cmpE y x) = true) := by
    refine List.pairwise_mergeSort ?_ ?_ _
    · intro x y z h1 h2
      rw [leE_iff] at *
      unfold leE at *
      omega
    · intro x y
      have h1 : leE x y ∨ leE y x := by unfold leE; omega
      rcases h1 with h1 | h1
      · rw [(leE_iff x y).2 h1]; rfl
      · rw [(leE_iff y x).2 h1]; simp
  exact h.imp fun h => (leE_iff _ _).1 h

/-- The sort of a row that the call owns. -/
theorem sort_ok (w : World) (B : Nat) (v : Value) (l : List (Int × Int)) (hown : w.ownsRow B 63 2 v l.length (flatE l)) (hl : l.length ≤ 1000000) :
    Calls Try.prog 42 #[v, .func (.func 43) #[] #[]] w fun e w' => e = .returned (.tuple #[]) ∧ (∃ p cap, v = .slice p l.length cap ∧ Ivals w' p cap (sortE l)) ∧ Below B w w' := by
  have hlen : (sortE l).length = l.length := (sortE_perm l).length_eq
  by_cases h0 : l = []
  · subst h0
    have hv : ∃ p cap, v = .slice p 0 cap ∧ cap ≤ maxLen := by
      rcases hown.2 with ⟨rfl, _⟩ | ⟨g, cap, cur, rfl, _, _, _, hm, _⟩
      · exact ⟨none, 0, rfl, by simp⟩
      · exact ⟨_, cap, rfl, hm⟩
    obtain ⟨p, cap, rfl, hm⟩ := hv
    have h := AnyF.slices_SortFunc_none sortEnd p cap (.func (.func 43) #[] #[]) w
    change Calls Try.prog 42 _ _ _ at h
    refine h.mono ?_
    rintro e w' ⟨he, hw⟩
    refine ⟨he, ⟨p, cap, rfl, ?_⟩, by rw [hw]; exact Below.refl _ _⟩
    exact ⟨by rw [hlen]; simp, hm, fun hne => absurd (List.eq_nil_of_length_eq_zero (by rw [hlen]; rfl)) hne⟩
  · rcases hown.2 with ⟨rfl, hn⟩ | ⟨g, cap, cur, rfl, hB, hg, hnc, hm, _⟩
    · exact absurd (List.eq_nil_of_length_eq_zero hn) h0
    have hgl : g < w.heap.size := (Array.getElem?_eq_some_iff.1 hg).1
    have hH := holds_of_own hown
    have eg : ∀ args w, (callFunc 43 args).run Try.prog w = .ok (.enter 43 args) w := enters_of Try.func43 (by kernel_rfl) rfl
    have h := AnyQ.slices_SortFunc_total sortEnd 2 Try.isAgg63 Try.sizeOf63 encE (fun _ => rfl) (fun x v hv => by simp [encE] at hv; rcases hv with rfl | rfl <;> rfl) cmpE swoE 43 #[] g 0 cap l.toArray w eg (cmpLaysE g 0 l.toArray.size w) hH hgl (by simp; omega) totE
    change Calls Try.prog 42 _ _ _ at h
    refine h.mono ?_
    rintro e w' ⟨he, n, os, hw⟩
    refine ⟨he, ⟨_, cap, rfl, ?_⟩, by rw [hw]; exact sort_below hB hgl _ _⟩
    have hK : HoldsK encE 2 w' g 0 (sortE l).toArray := by
      rw [hw]
      exact holdsK_sortWorldK_c encE 2 w g 0 l.toArray _ n os hH hgl (by simp)
    refine ⟨by rw [hlen]; exact hnc, hm, fun _ => ⟨g, 0, rfl, fun i x hx => ?_⟩⟩
    have hi : i < (sortE l).toArray.size := by simpa using (List.getElem?_eq_some_iff.1 hx).1
    have hx2 : (sortE l).toArray[i]! = x := by
      have := (List.getElem?_eq_some_iff.1 hx).2
      rw [getElem!_pos _ i hi]
      simpa using this
    have k0 := (HoldsK.cell hK hi (c := 0) (by omega)).1
    have k1 := (HoldsK.cell hK hi (c := 1) (by omega)).1
    rw [hx2] at k0 k1
    exact ⟨by simpa [encE] using k0, by simpa [encE] using k1⟩
end Go.Proofs.Ytmdpfkilkmicjaa
