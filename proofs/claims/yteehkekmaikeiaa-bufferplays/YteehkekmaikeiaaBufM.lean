/-
  What waits, as a list; how it is taken out; which cell is the fullest. No program here.
-/
import Derived.WalkKit
namespace Go.Proofs.Yteehkekmaikeiaa

/-- Bytes that wait in a cell. -/
structure It where
  e : Int
  i : Int
  b : List UInt8
abbrev Key := Int × Int
def It.k (x : It) : Key := (x.e, x.i)
def isK (k : Key) (x : It) : Bool := decide (x.k = k)
def lowK (k : Key) (x : It) : Bool := decide (x.e < k.1) || (decide (x.e = k.1) && decide (x.i ≤ k.2))
/-- How many wait of a cell. -/
def cnt (L : List It) (k : Key) : Nat := L.countP (isK k)

/-- The newest m of those that p names, and the rest. -/
def split {α : Type} (p : α → Bool) (m : Nat) : List α → List α × List α
  | [] => ([], [])
  | x :: r => if (split p m r).1.length = m then ((split p m r).1, x :: (split p m r).2) else if p x = true then (x :: (split p m r).1, (split p m r).2) else ((split p m r).1, x :: (split p m r).2)

theorem split_stop {α : Type} (p : α → Bool) (m : Nat) (x : α) (r : List α) (h : (split p m r).1.length = m) : split p m (x :: r) = ((split p m r).1, x :: (split p m r).2) := by simp [split, h]
theorem split_yes {α : Type} (p : α → Bool) (m : Nat) (x : α) (r : List α) (h : (split p m r).1.length ≠ m) (hp : p x = true) : split p m (x :: r) = (x :: (split p m r).1, (split p m r).2) := by simp [split, h, hp]
theorem split_no {α : Type} (p : α → Bool) (m : Nat) (x : α) (r : List α) (hp : p x = false) : split p m (x :: r) = ((split p m r).1, x :: (split p m r).2) := by simp [split, hp]
theorem split_full {α : Type} (p : α → Bool) (m : Nat) (r : List α) (h : (split p m r).1.length = m) : ∀ pre : List α, split p m (pre ++ r) = ((split p m r).1, pre ++ (split p m r).2)
  | [] => by simp
  | x :: pre => by
    have ih := split_full p m r h pre
    rw [List.cons_append, split_stop _ _ _ _ (by rw [ih]; exact h), ih]; rfl
theorem split_len {α : Type} (p : α → Bool) (m : Nat) : ∀ L : List α, (split p m L).1.length + (split p m L).2.length = L.length ∧ (split p m L).1.length ≤ m
  | [] => by simp [split]
  | x :: r => by
    have ih := split_len p m r
    by_cases h : (split p m r).1.length = m
    · rw [split_stop _ _ _ _ h]; simp; omega
    · cases hp : p x
      · rw [split_no _ _ _ _ hp]; simp; omega
      · rw [split_yes _ _ _ _ h hp]; simp; omega
theorem split_all {α : Type} (p : α → Bool) (m : Nat) : ∀ L : List α, L.length ≤ m → split p m L = (L.filter p, L.filter fun x => !p x)
  | [], _ => by simp [split]
  | x :: r, hl => by
    rw [List.length_cons] at hl
    have ih := split_all p m r (by omega)
    have hf : (split p m r).1.length ≠ m := by have := split_len p m r; omega
    cases hp : p x
    · rw [split_no _ _ _ _ hp, ih]; simp [hp]
    · rw [split_yes _ _ _ _ hf hp, ih]; simp [hp]
theorem split_map {α β : Type} (f : α → β) (p : β → Bool) (m : Nat) : ∀ L : List α, split p m (L.map f) = ((split (fun x => p (f x)) m L).1.map f, (split (fun x => p (f x)) m L).2.map f)
  | [] => by simp [split]
  | x :: r => by
    have ih := split_map f p m r
    by_cases h : (split (fun x => p (f x)) m r).1.length = m
    · rw [List.map_cons, split_stop p m (f x) _ (by rw [ih]; simpa using h), split_stop _ _ _ _ h, ih]; simp
    · cases hp : p (f x)
      · rw [List.map_cons, split_no p m (f x) _ hp, split_no (fun x => p (f x)) _ _ _ hp, ih]; simp
      · rw [List.map_cons, split_yes p m (f x) _ (by rw [ih]; simpa using h) hp, split_yes (fun x => p (f x)) _ _ _ h hp, ih]; simp
theorem split_mem {α : Type} (p : α → Bool) (m : Nat) : ∀ (L : List α) (y : α), (y ∈ (split p m L).1 → y ∈ L ∧ p y = true) ∧ (y ∈ (split p m L).2 → y ∈ L)
  | [], y => by simp [split]
  | x :: r, y => by
    have ih := split_mem p m r y
    by_cases h : (split p m r).1.length = m
    · rw [split_stop _ _ _ _ h]
      refine ⟨fun hy => ⟨List.mem_cons_of_mem _ (ih.1 hy).1, (ih.1 hy).2⟩, fun hy => ?_⟩
      rcases List.mem_cons.1 hy with rfl | hy
      · exact List.mem_cons_self
      · exact List.mem_cons_of_mem _ (ih.2 hy)
    · cases hp : p x
      · rw [split_no _ _ _ _ hp]
        refine ⟨fun hy => ⟨List.mem_cons_of_mem _ (ih.1 hy).1, (ih.1 hy).2⟩, fun hy => ?_⟩
        rcases List.mem_cons.1 hy with rfl | hy
        · exact List.mem_cons_self
        · exact List.mem_cons_of_mem _ (ih.2 hy)
      · rw [split_yes _ _ _ _ h hp]
        refine ⟨fun hy => ?_, fun hy => List.mem_cons_of_mem _ (ih.2 hy)⟩
        rcases List.mem_cons.1 hy with rfl | hy
        · exact ⟨List.mem_cons_self, hp⟩
        · exact ⟨List.mem_cons_of_mem _ (ih.1 hy).1, (ih.1 hy).2⟩
/-- What p does not name stays. -/
theorem split_other {α : Type} (p q : α → Bool) (m : Nat) (hq : ∀ x, p x = true → q x = false) : ∀ L : List α, (split p m L).2.filter q = L.filter q
  | [] => by simp [split]
  | x :: r => by
    have ih := split_other p q m hq r
    by_cases h : (split p m r).1.length = m
    · rw [split_stop _ _ _ _ h, List.filter_cons, List.filter_cons, ih]
    · cases hp : p x
      · rw [split_no _ _ _ _ hp, List.filter_cons, List.filter_cons, ih]
      · rw [split_yes _ _ _ _ h hp, List.filter_cons, hq x hp]; simpa using ih
theorem split_none {α : Type} (p : α → Bool) (m : Nat) : ∀ L : List α, L.any p = false → split p m L = ([], L)
  | [], _ => by simp [split]
  | x :: r, h => by
    rw [List.any_cons, Bool.or_eq_false_iff] at h
    rw [split_no _ _ _ _ h.1, split_none p m r h.2]
theorem split_zero {α : Type} (p : α → Bool) (L : List α) : split p 0 L = ([], L) := by
  have := split_full p 0 [] (by simp [split]) L
  simpa [split] using this
/-- The place of the last one that p names. -/
def lastI {α : Type} (p : α → Bool) : List α → Nat
  | [] => 0
  | _ :: r => if r.any p = true then lastI p r + 1 else 0
theorem lastI_lt {α : Type} (p : α → Bool) : ∀ L : List α, L ≠ [] → lastI p L < L.length
  | [], h => absurd rfl h
  | x :: r, _ => by
    rw [lastI]
    split
    · rename_i h
      have := lastI_lt p r (by rintro rfl; simp at h)
      simp; omega
    · simp
theorem lastI_snoc {α : Type} (p : α → Bool) (x : α) : ∀ L : List α, lastI p (L ++ [x]) = if p x = true then L.length else lastI p L
  | [] => by simp [lastI]
  | y :: r => by
    have ih := lastI_snoc p x r
    rw [List.cons_append, lastI, ih]
    cases hp : p x
    · simp [hp, lastI]
    · simp [hp]
theorem split_one {α : Type} (p : α → Bool) : ∀ L : List α, L.any p = true → (split p 1 L).1.length = 1 ∧ (split p 1 L).2 = L.eraseIdx (lastI p L)
  | [], h => by simp at h
  | x :: r, h => by
    by_cases hr : r.any p = true
    · obtain ⟨h1, h2⟩ := split_one p r hr
      rw [split_stop _ _ _ _ h1, lastI, if_pos hr]
      exact ⟨h1, by simp [h2]⟩
    · rw [Bool.not_eq_true] at hr
      have hx : p x = true := by rw [List.any_cons, hr, Bool.or_false] at h; exact h
      have hs := split_none p 1 r hr
      rw [split_yes _ _ _ _ (by rw [hs]; simp) hx, hs, lastI, if_neg (by simp [hr])]
      simp
theorem filter_last {α : Type} (p : α → Bool) : ∀ L : List α, L.any p = true → (split p 1 L).2.filter p = (L.filter p).dropLast
  | [], h => by simp at h
  | x :: r, h => by
    by_cases hr : r.any p = true
    · obtain ⟨h1, _⟩ := split_one p r hr
      have ih := filter_last p r hr
      rw [split_stop _ _ _ _ h1, List.filter_cons, List.filter_cons, ih]
      have hne : r.filter p ≠ [] := by
        intro e
        obtain ⟨y, hy, hpy⟩ := List.any_eq_true.1 hr
        have : y ∈ r.filter p := List.mem_filter.2 ⟨hy, hpy⟩
        rw [e] at this; cases this
      split
      · rw [List.dropLast_cons_of_ne_nil hne]
      · rfl
    · rw [Bool.not_eq_true] at hr
      have hx : p x = true := by rw [List.any_cons, hr, Bool.or_false] at h; exact h
      have hs := split_none p 1 r hr
      have hf : r.filter p = [] := by
        rw [List.filter_eq_nil_iff]
        intro y hy
        have := List.any_eq_false.1 hr y hy
        simpa using this
      rw [split_yes _ _ _ _ (by rw [hs]; simp) hx, hs, List.filter_cons, if_pos hx]
      simp [hf]

theorem isK_iff {k : Key} {x : It} : isK k x = true ↔ x.k = k := by simp [isK]
theorem cnt_append (L M : List It) (k : Key) : cnt (L ++ M) k = cnt L k + cnt M k := by simp [cnt]
theorem cnt_one (x : It) (k : Key) : cnt [x] k = if x.k = k then 1 else 0 := by simp [cnt, isK, List.countP_cons]
theorem cnt_le (L : List It) (k : Key) : cnt L k ≤ L.length := List.countP_le_length
theorem cnt_pos {L : List It} {x : It} (h : x ∈ L) : 1 ≤ cnt L x.k := List.countP_pos_iff.2 ⟨x, h, by simp [isK]⟩
theorem cnt_filter (L : List It) (k : Key) : cnt L k = (L.filter (isK k)).length := by rw [cnt, List.countP_eq_length_filter]
theorem cnt_any {L : List It} {k : Key} : L.any (isK k) = true ↔ 1 ≤ cnt L k := by
  rw [cnt, Nat.succ_le_iff, List.countP_pos_iff, List.any_eq_true]

/-- The first cell with the most, as the program and the document seek it. -/
def fullF (L : List It) (f : Key) (l : List It) : Key := l.foldl (fun f x => if cnt L f < cnt L x.k then x.k else f) f
def full (L : List It) : Key := match L with
  | [] => (0, 0)
  | x :: _ => fullF L x.k L
theorem fullF_nil (L : List It) (f : Key) : fullF L f [] = f := rfl
theorem fullF_snoc (L : List It) (f : Key) (l : List It) (x : It) : fullF L f (l ++ [x]) = if cnt L (fullF L f l) < cnt L x.k then x.k else fullF L f l := by rw [fullF, List.foldl_append]; rfl
theorem fullF_ge (L : List It) : ∀ (l : List It) (f : Key), cnt L f ≤ cnt L (fullF L f l) ∧ (∀ x ∈ l, cnt L x.k ≤ cnt L (fullF L f l)) ∧ (fullF L f l = f ∨ ∃ x ∈ l, fullF L f l = x.k)
  | [], f => by simp [fullF]
  | y :: l, f => by
    by_cases hlt : cnt L f < cnt L y.k
    · have e : fullF L f (y :: l) = fullF L y.k l := by simp only [fullF, List.foldl_cons, if_pos hlt]
      obtain ⟨h1, h2, h3⟩ := fullF_ge L l y.k
      rw [e]
      refine ⟨by omega, fun x hx => ?_, ?_⟩
      · rcases List.mem_cons.1 hx with rfl | hx
        · exact h1
        · exact h2 x hx
      · rcases h3 with h3 | ⟨x, hx, h3⟩
        · exact .inr ⟨y, List.mem_cons_self, h3⟩
        · exact .inr ⟨x, List.mem_cons_of_mem _ hx, h3⟩
    · have e : fullF L f (y :: l) = fullF L f l := by simp only [fullF, List.foldl_cons, if_neg hlt]
      obtain ⟨h1, h2, h3⟩ := fullF_ge L l f
      rw [e]
      refine ⟨h1, fun x hx => ?_, ?_⟩
      · rcases List.mem_cons.1 hx with rfl | hx
        · omega
        · exact h2 x hx
      · rcases h3 with h3 | ⟨x, hx, h3⟩
        · exact .inl h3
        · exact .inr ⟨x, List.mem_cons_of_mem _ hx, h3⟩
theorem full_max {L : List It} (k : Key) (hne : L ≠ []) : cnt L k ≤ cnt L (full L) ∧ ∃ x ∈ L, full L = x.k := by
  cases L with
  | nil => exact absurd rfl hne
  | cons y r =>
    have e : full (y :: r) = fullF (y :: r) y.k (y :: r) := rfl
    obtain ⟨h1, h2, h3⟩ := fullF_ge (y :: r) (y :: r) y.k
    rw [← e] at h1 h2 h3
    constructor
    · by_cases hk : 1 ≤ cnt (y :: r) k
      · obtain ⟨x, hx, hp⟩ := List.any_eq_true.1 (cnt_any.2 hk)
        have := h2 x hx
        rw [isK_iff.1 hp] at this
        exact this
      · omega
    · rcases h3 with h3 | h3
      · exact ⟨y, List.mem_cons_self, h3⟩
      · exact h3

/-- What a buffer holds. -/
structure Bs where
  most : Nat
  lost : Nat
  L : List It
def argB (e i : Int) (x : List UInt8) : Bool := decide (0 ≤ e) && decide (e ≤ 65535) && decide (1 ≤ i) && decide (i ≤ 256) && decide (x.length ≤ 96)
theorem argB_iff {e i : Int} {x : List UInt8} : argB e i x = true ↔ 0 ≤ e ∧ e ≤ 65535 ∧ 1 ≤ i ∧ i ≤ 256 ∧ x.length ≤ 96 := by
  simp [argB, and_assoc]
structure Bs.ok (s : Bs) : Prop where
  lo : 1 ≤ s.most
  hi : s.most ≤ 64
  len : s.L.length ≤ s.most
  arg : ∀ x ∈ s.L, argB x.e x.i x.b = true
def heldB (L : List It) (x : List UInt8) : Bool := L.any fun y => y.b == x
def putE (s : Bs) (e i : Int) (x : List UInt8) : Int :=
  if argB e i x = false then 1 else if heldB s.L x = true then 4 else if s.L.length = s.most ∧ cnt s.L (e, i) = cnt s.L (full s.L) then 9 else 0
def putV (s : Bs) (e i : Int) (x : List UInt8) : Bs :=
  if argB e i x = false then s else if heldB s.L x = true then s
  else if s.L.length = s.most then
    if cnt s.L (e, i) = cnt s.L (full s.L) then { s with lost := s.lost + 1 } else { s with lost := s.lost + 1, L := (split (isK (full s.L)) 1 s.L).2 ++ [⟨e, i, x⟩] }
  else { s with L := s.L ++ [⟨e, i, x⟩] }
def takeV (s : Bs) (k : Key) : Bs := { s with L := s.L.filter fun x => !isK k x }
def takeL (s : Bs) (k : Key) : List (List UInt8) := (s.L.filter (isK k)).map It.b
def dropV (s : Bs) (k : Key) : Bs := { s with L := s.L.filter fun x => !lowK k x }
def dropN (s : Bs) (k : Key) : Nat := (s.L.filter (lowK k)).length
theorem Bs.ok.filter {s : Bs} (h : s.ok) (p : It → Bool) : Bs.ok { s with L := s.L.filter p } :=
  ⟨h.lo, h.hi, Nat.le_trans (List.length_filter_le _ _) h.len, fun x hx => h.arg x (List.mem_filter.1 hx).1⟩
theorem takeV_ok {s : Bs} (h : s.ok) (k : Key) : (takeV s k).ok := h.filter _
theorem dropV_ok {s : Bs} (h : s.ok) (k : Key) : (dropV s k).ok := h.filter _
theorem full_any {L : List It} (hne : L ≠ []) : L.any (isK (full L)) = true := by
  obtain ⟨x, hx, e⟩ := (full_max (full L) hne).2
  exact List.any_eq_true.2 ⟨x, hx, isK_iff.2 e.symm⟩
theorem putV_ok {s : Bs} (h : s.ok) (e i : Int) (x : List UInt8) : (putV s e i x).ok := by
  unfold putV
  cases ha : argB e i x
  · simpa using h
  · rw [if_neg (by simp)]
    split
    · exact h
    · have hone : ∀ M : List It, (∀ y ∈ M, y ∈ s.L) → M.length < s.most → Bs.ok { s with L := M ++ [⟨e, i, x⟩] } := fun M hM hl =>
        ⟨h.lo, h.hi, by simp; omega, fun y hy => by
          rcases List.mem_append.1 hy with hy | hy
          · exact h.arg y (hM y hy)
          · rw [List.mem_singleton] at hy; subst hy; exact ha⟩
      split
      · rename_i hfull
        split
        · exact ⟨h.lo, h.hi, h.len, h.arg⟩
        · have hne : s.L ≠ [] := by rintro e; rw [e] at hfull; have := h.lo; simp at hfull; omega
          obtain ⟨h1, _⟩ := split_one _ _ (full_any hne)
          have h2 := (split_len (isK (full s.L)) 1 s.L).1
          have h3 := hone (split (isK (full s.L)) 1 s.L).2 (fun y hy => (split_mem _ _ _ y).2 hy) (by omega)
          exact ⟨h3.lo, h3.hi, h3.len, h3.arg⟩
      · rename_i hfull
        exact hone s.L (fun _ hy => hy) (by have := h.len; omega)
end Go.Proofs.Yteehkekmaikeiaa
