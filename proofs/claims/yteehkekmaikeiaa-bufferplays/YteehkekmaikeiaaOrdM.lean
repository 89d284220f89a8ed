/-
  First come, first told, as lists. No program here.
-/
import Derived.Test.YteehkekmaikeiaaFloodM
namespace Go.Proofs.Yteehkekmaikeiaa

/-- What waits of A is the beginning of what was wanted; all of it, or the buffer is full and A has no less than B. -/
structure Ord (s : Bs) (A B : Key) (want : List (List UInt8)) : Prop where
  most : s.most = 64
  keys : ∀ x ∈ s.L, x.k = A ∨ x.k = B
  pre : (s.L.filter (isK A)).map It.b = want.take (cnt s.L A)
  le : cnt s.L A ≤ want.length
  all : cnt s.L A = want.length ∨ (s.L.length = 64 ∧ cnt s.L B ≤ cnt s.L A)
theorem cnt_two {L : List It} {A B : Key} (hAB : A ≠ B) (h : ∀ x ∈ L, x.k = A ∨ x.k = B) : L.length = cnt L A + cnt L B := by
  induction L with
  | nil => rfl
  | cons y r ih =>
    have ih := ih fun x hx => h x (List.mem_cons_of_mem _ hx)
    have e : cnt (y :: r) A = cnt [y] A + cnt r A ∧ cnt (y :: r) B = cnt [y] B + cnt r B := ⟨cnt_append [y] r A, cnt_append [y] r B⟩
    rw [e.1, e.2, List.length_cons, cnt_one, cnt_one]
    rcases h y List.mem_cons_self with hy | hy
    · rw [hy, if_pos rfl, if_neg hAB]; omega
    · rw [hy, if_pos rfl, if_neg (fun e => hAB e.symm)]; omega
theorem Ord.start (A B : Key) : Ord ⟨64, 0, []⟩ A B [] := ⟨rfl, (fun x hx => by cases hx), rfl, Nat.le_refl _, .inl rfl⟩
theorem isK_ne {A B : Key} (h : A ≠ B) : ∀ x : It, isK A x = true → isK B x = false := fun x hx => by
  rw [isK_iff] at hx
  cases hb : isK B x
  · rfl
  · rw [isK_iff] at hb; exact absurd (hx.symm.trans hb) h
theorem heldB_no {L : List It} {x : List UInt8} (h : heldB L x = false) {y : It} (hy : y ∈ L) : y.b ≠ x := by
  intro e
  rw [heldB, List.any_eq_false] at h
  exact h y hy (by simp [e])
theorem Ord.lost {s : Bs} {A B : Key} {want : List (List UInt8)} (h : Ord s A B want) (l : Nat) : Ord { s with lost := l } A B want := ⟨h.most, h.keys, h.pre, h.le, h.all⟩
/-- A list with one more of the wanted cell. -/
theorem ord_more {L L' : List It} {A B : Key} {want : List (List UInt8)} {x : List UInt8} {l : Nat} (hf : L'.filter (isK A) = L.filter (isK A)) (hk : ∀ y ∈ L', y.k = A ∨ y.k = B) (hp : (L.filter (isK A)).map It.b = want.take (cnt L A)) (hn : cnt L A = want.length) :
    Ord ⟨64, l, L' ++ [⟨A.1, A.2, x⟩]⟩ A B (want ++ [x]) := by
  have hc : cnt L' A = cnt L A := by rw [cnt_filter, cnt_filter, hf]
  have hc2 : cnt (L' ++ [⟨A.1, A.2, x⟩]) A = want.length + 1 := by rw [cnt_append, cnt_one, hc, hn, if_pos (show It.k ⟨A.1, A.2, x⟩ = A from rfl)]
  refine ⟨rfl, fun y hy => ?_, ?_, ?_, .inl ?_⟩
  · rcases List.mem_append.1 hy with hy | hy
    · exact hk y hy
    · rw [List.mem_singleton] at hy; subst hy; exact .inl rfl
  · show ((L' ++ [(⟨A.1, A.2, x⟩ : It)]).filter (isK A)).map It.b = (want ++ [x]).take (cnt (L' ++ [⟨A.1, A.2, x⟩]) A)
    rw [hc2, List.filter_append, hf, List.map_append, hp, hn, List.take_of_length_le (Nat.le_refl _), List.take_of_length_le (by simp)]
    simp [isK, It.k]
  · show cnt (L' ++ [⟨A.1, A.2, x⟩]) A ≤ _
    rw [hc2]; simp
  · show cnt (L' ++ [⟨A.1, A.2, x⟩]) A = _
    rw [hc2]; simp
theorem put_cases (s : Bs) (e i : Int) (x : List UInt8) : (putE s e i x ≠ 0 ∧ putV s e i x = s) ∨ (putE s e i x ≠ 0 ∧ putV s e i x = { s with lost := s.lost + 1 }) ∨
    (putE s e i x = 0 ∧ heldB s.L x = false ∧ s.L.length = s.most ∧ cnt s.L (e, i) ≠ cnt s.L (full s.L) ∧ putV s e i x = { s with lost := s.lost + 1, L := (split (isK (full s.L)) 1 s.L).2 ++ [⟨e, i, x⟩] }) ∨
    (putE s e i x = 0 ∧ heldB s.L x = false ∧ s.L.length ≠ s.most ∧ putV s e i x = { s with L := s.L ++ [⟨e, i, x⟩] }) := by
  cases ha : argB e i x
  · left; simp [putE, putV, ha]
  · cases hh : heldB s.L x
    · by_cases hf : s.L.length = s.most
      · by_cases hc : cnt s.L (e, i) = cnt s.L (full s.L)
        · right; left; simp [putE, putV, ha, hh, hf, hc]
        · right; right; left; simp [putE, putV, ha, hh, hf, hc]
      · right; right; right; simp [putE, putV, ha, hh, hf]
    · left; simp [putE, putV, ha, hh]
theorem Ord.putA {s : Bs} {A B : Key} {want : List (List UInt8)} (h : Ord s A B want) (hok : s.ok) (hAB : A ≠ B) (x : List UInt8) :
    (putE s A.1 A.2 x = 0 → want.any (fun y => y == x) = false ∧ Ord (putV s A.1 A.2 x) A B (want ++ [x])) ∧ (putE s A.1 A.2 x ≠ 0 → Ord (putV s A.1 A.2 x) A B want) := by
  have hno : heldB s.L x = false → cnt s.L A = want.length → want.any (fun y => y == x) = false := by
    intro hh hn
    have hp := h.pre
    rw [hn, List.take_of_length_le (Nat.le_refl _)] at hp
    rw [List.any_eq_false]
    intro y hy e
    rw [← hp] at hy
    obtain ⟨z, hz, rfl⟩ := List.mem_map.1 hy
    exact heldB_no hh (List.mem_filter.1 hz).1 (by simpa using e)
  rcases put_cases s A.1 A.2 x with ⟨e1, e2⟩ | ⟨e1, e2⟩ | ⟨e1, hh, hf, hc, e2⟩ | ⟨e1, hh, hf, e2⟩
  · exact ⟨fun e => absurd e e1, fun _ => by rw [e2]; exact h⟩
  · exact ⟨fun e => absurd e e1, fun _ => by rw [e2]; exact h.lost _⟩
  · refine ⟨fun _ => ?_, fun e => absurd e1 e⟩
    have hc : cnt s.L A ≠ cnt s.L (full s.L) := hc
    have hne : s.L ≠ [] := by intro e; rw [e] at hf; have := hok.lo; simp at hf; omega
    obtain ⟨hmax, y, hy, hfy⟩ := full_max (L := s.L) A hne
    have hB : full s.L = B := by
      rcases h.keys y hy with e | e
      · rw [hfy, e] at hc; exact absurd rfl hc
      · rw [hfy, e]
    rw [hB] at hc hmax e2
    have hn : cnt s.L A = want.length := by
      rcases h.all with e | ⟨_, e⟩
      · exact e
      · omega
    have := ord_more (l := s.lost + 1) (x := x) (split_other (isK B) (isK A) 1 (isK_ne fun e => hAB e.symm) s.L) (fun y hy => h.keys y ((split_mem _ _ _ y).2 hy)) h.pre hn
    rw [e2]
    exact ⟨hno hh hn, ⟨h.most, this.keys, this.pre, this.le, this.all⟩⟩
  · refine ⟨fun _ => ?_, fun e => absurd e1 e⟩
    have hn : cnt s.L A = want.length := by
      rcases h.all with e | ⟨e, _⟩
      · exact e
      · rw [h.most] at hf; exact absurd e hf
    have := ord_more (L := s.L) (L' := s.L) (l := s.lost) (x := x) rfl h.keys h.pre hn
    rw [e2]
    exact ⟨hno hh hn, ⟨h.most, this.keys, this.pre, this.le, this.all⟩⟩
theorem Ord.putB {s : Bs} {A B : Key} {want : List (List UInt8)} (h : Ord s A B want) (hok : s.ok) (hAB : A ≠ B) (x : List UInt8) : Ord (putV s B.1 B.2 x) A B want := by
  have hone : (List.filter (isK A) [(⟨B.1, B.2, x⟩ : It)]) = [] := by
    rw [List.filter_eq_nil_iff]
    intro y hy
    rw [List.mem_singleton] at hy
    subst hy
    rw [isK_iff]
    exact fun e => hAB e.symm
  have hcA : ∀ M : List It, cnt (M ++ [⟨B.1, B.2, x⟩]) A = cnt M A := fun M => by rw [cnt_filter, cnt_filter, List.filter_append, hone, List.append_nil]
  have hcB : ∀ M : List It, cnt (M ++ [⟨B.1, B.2, x⟩]) B = cnt M B + 1 := fun M => by rw [cnt_append, cnt_one, if_pos (show It.k ⟨B.1, B.2, x⟩ = B from rfl)]
  have hkeys : ∀ M : List It, (∀ y ∈ M, y.k = A ∨ y.k = B) → ∀ y ∈ M ++ [⟨B.1, B.2, x⟩], y.k = A ∨ y.k = B := fun M hM y hy => by
    rcases List.mem_append.1 hy with hy | hy
    · exact hM y hy
    · rw [List.mem_singleton] at hy; subst hy; exact .inr rfl
  rcases put_cases s B.1 B.2 x with ⟨e1, e2⟩ | ⟨e1, e2⟩ | ⟨e1, hh, hf, hc, e2⟩ | ⟨e1, hh, hf, e2⟩
  · rw [e2]; exact h
  · rw [e2]; exact h.lost _
  · rw [e2]
    · have hc : cnt s.L B ≠ cnt s.L (full s.L) := hc
      have hne : s.L ≠ [] := by intro e; rw [e] at hf; have := hok.lo; simp at hf; omega
      obtain ⟨hmax, y, hy, hfy⟩ := full_max (L := s.L) B hne
      have hA : full s.L = A := by
        rcases h.keys y hy with e | e
        · rw [hfy, e]
        · rw [hfy, e] at hc; exact absurd rfl hc
      rw [hA] at hc hmax ⊢
      have hany : s.L.any (isK A) = true := by rw [cnt_any]; omega
      have hfl := filter_last (isK A) s.L hany
      have hl2 := (split_len (isK A) 1 s.L).1
      have hl1 := (split_one (isK A) s.L hany).1
      have hcA' : cnt (split (isK A) 1 s.L).2 A = cnt s.L A - 1 := by rw [cnt_filter, hfl, List.length_dropLast, ← cnt_filter]
      have hcB' : cnt (split (isK A) 1 s.L).2 B = cnt s.L B := by rw [cnt_filter, split_other (isK A) (isK B) 1 (isK_ne hAB), ← cnt_filter]
      have h2 := cnt_two hAB h.keys
      have hm := h.most
      have hle := h.le
      refine ⟨h.most, hkeys _ fun y hy => h.keys y ((split_mem _ _ _ y).2 hy), ?_, ?_, .inr ⟨?_, ?_⟩⟩
      · show ((((split (isK A) 1 s.L).2) ++ [(⟨B.1, B.2, x⟩ : It)]).filter (isK A)).map It.b = want.take (cnt ((split (isK A) 1 s.L).2 ++ [⟨B.1, B.2, x⟩]) A)
        rw [hcA, hcA', List.filter_append, hone, List.append_nil, hfl, List.map_dropLast, h.pre, List.dropLast_eq_take, List.take_take, List.length_take, Nat.min_eq_left hle, Nat.min_eq_left (by omega)]
      · show cnt ((split (isK A) 1 s.L).2 ++ [⟨B.1, B.2, x⟩]) A ≤ _
        rw [hcA, hcA']; omega
      · show ((split (isK A) 1 s.L).2 ++ [(⟨B.1, B.2, x⟩ : It)]).length = 64
        simp; omega
      · show cnt ((split (isK A) 1 s.L).2 ++ [⟨B.1, B.2, x⟩]) B ≤ cnt ((split (isK A) 1 s.L).2 ++ [⟨B.1, B.2, x⟩]) A
        rw [hcA, hcB, hcA', hcB']; omega
  · rw [e2]
    refine ⟨h.most, hkeys _ h.keys, ?_, ?_, .inl ?_⟩
    · show ((s.L ++ [(⟨B.1, B.2, x⟩ : It)]).filter (isK A)).map It.b = want.take (cnt (s.L ++ [⟨B.1, B.2, x⟩]) A)
      rw [hcA, List.filter_append, hone, List.append_nil, h.pre]
    · show cnt (s.L ++ [⟨B.1, B.2, x⟩]) A ≤ _
      rw [hcA]; exact h.le
    · show cnt (s.L ++ [⟨B.1, B.2, x⟩]) A = _
      rw [hcA]
      rcases h.all with e | ⟨e, _⟩
      · exact e
      · rw [h.most] at hf; exact absurd e hf
theorem putV_lost (s : Bs) (e i : Int) (x : List UInt8) : (putV s e i x).lost ≤ s.lost + 1 := by
  unfold putV
  split
  · exact Nat.le_succ _
  · split
    · exact Nat.le_succ _
    · split
      · split <;> exact Nat.le_refl _
      · exact Nat.le_succ _
end Go.Proofs.Yteehkekmaikeiaa
