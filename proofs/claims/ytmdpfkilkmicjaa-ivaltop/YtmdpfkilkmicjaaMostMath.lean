/-
  Where most of a list of intervals meet, over plain numbers: by the ends in order, and by trying each. No program here.
-/
import Derived.Test.YtmdpfkilkmicjaaIvalMath
namespace Go.Proofs.Ytmdpfkilkmicjaa

/-- In how many a number lies. -/
def cntN : List (Int × Int) → Int → Int
  | [], _ => 0
  | x :: l, n => (if holdsB x.1 x.2 n = true then 1 else 0) + cntN l n
/-- The ends of the right ones, each with by how many more hold from there on. -/
def endsL : List (Int × Int) → List (Int × Int)
  | [] => []
  | x :: l => if rightB x.1 x.2 = true then (x.1, 1) :: (x.2, -1) :: endsL l else endsL l
def sumM : List (Int × Int) → Int
  | [] => 0
  | e :: l => e.2 + sumM l
/-- The least Hi of those that hold n. -/
def hiL (n : Int) (L : List (Int × Int)) : Int := L.foldl (fun h x => if holdsB x.1 x.2 n = true then mnN h x.2 else h) 1099511627776

theorem cntN_append (l m : List (Int × Int)) (n : Int) : cntN (l ++ m) n = cntN l n + cntN m n := by
  induction l with
  | nil => simp [cntN]
  | cons x l ih => simp only [List.cons_append, cntN, ih]; omega
theorem cntN_nonneg (l : List (Int × Int)) (n : Int) : 0 ≤ cntN l n := by
  induction l with
  | nil => simp [cntN]
  | cons x l ih => simp only [cntN]; split <;> omega
theorem cntN_le (l : List (Int × Int)) (n : Int) : cntN l n ≤ l.length := by
  induction l with
  | nil => simp [cntN]
  | cons x l ih => simp only [cntN, List.length_cons]; split <;> omega
theorem cntN_pos {l : List (Int × Int)} {x : Int × Int} (hx : x ∈ l) (h : rightB x.1 x.2 = true) : 1 ≤ cntN l x.1 := by
  induction l with
  | nil => cases hx
  | cons y l ih =>
    simp only [cntN]
    rcases List.mem_cons.1 hx with rfl | hx
    · have h1 := rightB_true h
      have : holdsB x.1 x.2 x.1 = true := by rw [holdsB_eq h]; exact decide_eq_true ⟨by omega, by omega⟩
      rw [if_pos this]
      have := cntN_nonneg l x.1
      omega
    · have := ih hx
      split <;> omega
theorem endsL_append (l m : List (Int × Int)) : endsL (l ++ m) = endsL l ++ endsL m := by
  induction l with
  | nil => simp [endsL]
  | cons x l ih =>
    simp only [List.cons_append, endsL, ih]
    split <;> simp
theorem endsL_length (l : List (Int × Int)) : (endsL l).length ≤ 2 * l.length := by
  induction l with
  | nil => simp [endsL]
  | cons x l ih =>
    simp only [endsL]
    split
    · simp only [List.length_cons]; omega
    · simp only [List.length_cons]; omega
theorem endsL_mem {l : List (Int × Int)} {e : Int × Int} (h : e ∈ endsL l) : (e.2 = 1 ∧ ∃ x ∈ l, rightB x.1 x.2 = true ∧ x.1 = e.1) ∨ e.2 = -1 := by
  induction l with
  | nil => simp [endsL] at h
  | cons x l ih =>
    simp only [endsL] at h
    split at h
    · rename_i hr
      rcases List.mem_cons.1 h with rfl | h
      · exact .inl ⟨rfl, x, List.mem_cons_self, hr, rfl⟩
      · rcases List.mem_cons.1 h with rfl | h
        · exact .inr rfl
        · rcases ih h with ⟨h1, y, hy, h2⟩ | h1
          · exact .inl ⟨h1, y, List.mem_cons_of_mem _ hy, h2⟩
          · exact .inr h1
    · rcases ih h with ⟨h1, y, hy, h2⟩ | h1
      · exact .inl ⟨h1, y, List.mem_cons_of_mem _ hy, h2⟩
      · exact .inr h1
theorem sumM_append (l m : List (Int × Int)) : sumM (l ++ m) = sumM l + sumM m := by
  induction l with
  | nil => simp [sumM]
  | cons x l ih => simp only [List.cons_append, sumM, ih]; omega
theorem sumM_perm {l m : List (Int × Int)} (h : l.Perm m) : sumM l = sumM m := by
  induction h with
  | nil => rfl
  | cons x _ ih => simp only [sumM, ih]
  | swap x y l => simp only [sumM]; omega
  | trans _ _ ih1 ih2 => omega

/-- The ends up to v: those below it, and those that begin there. -/
def upTo (v : Int) (e : Int × Int) : Bool := decide (e.1 < v ∨ (e.1 = v ∧ e.2 = 1))
theorem sum_upTo (v : Int) (L : List (Int × Int)) : sumM ((endsL L).filter (upTo v)) = cntN L v := by
  induction L with
  | nil => simp [endsL, sumM, cntN]
  | cons x l ih =>
    simp only [endsL, cntN]
    split
    · rename_i hr
      have h1 := rightB_true hr
      rw [holdsB_eq hr]
      by_cases h2 : x.1 ≤ v
      · have e1 : upTo v (x.1, 1) = true := by unfold upTo; apply decide_eq_true; simp; omega
        by_cases h3 : v ≤ x.2
        · have e2 : upTo v (x.2, -1) = false := by unfold upTo; apply decide_eq_false; simp; omega
          rw [List.filter_cons_of_pos e1, List.filter_cons_of_neg (by simp [e2]), sumM, ih, if_pos (decide_eq_true ⟨h2, h3⟩)]
        · have e2 : upTo v (x.2, -1) = true := by unfold upTo; apply decide_eq_true; simp; omega
          rw [List.filter_cons_of_pos e1, List.filter_cons_of_pos e2, sumM, sumM, ih, if_neg (by simp; omega)]
          simp only []
          omega
      · have e1 : upTo v (x.1, 1) = false := by unfold upTo; apply decide_eq_false; simp; omega
        have e2 : upTo v (x.2, -1) = false := by unfold upTo; apply decide_eq_false; simp; omega
        rw [List.filter_cons_of_neg (by simp [e1]), List.filter_cons_of_neg (by simp [e2]), ih, if_neg (by simp; omega)]
        omega
    · rename_i hr
      rw [ih, if_neg (by rw [holdsB_of_not (Bool.eq_false_iff.2 hr)]; simp)]
      omega

/-- One end is not behind another. -/
def leE (e f : Int × Int) : Prop := e.1 < f.1 ∨ (e.1 = f.1 ∧ f.2 ≤ e.2)

/-- Of a list in order, those with a quality that those ahead have too are the first. -/
theorem filter_first {p : Int × Int → Bool} : ∀ (S : List (Int × Int)), S.Pairwise leE → (∀ e ∈ S, ∀ f ∈ S, leE e f → p f = true → p e = true) → ∃ T, S = S.filter p ++ T ∧ ∀ f ∈ T, p f = false
  | [], _, _ => ⟨[], rfl, by simp⟩
  | x :: S, hs, hp => by
    have hs' := List.pairwise_cons.1 hs
    by_cases hx : p x = true
    · obtain ⟨T, hT, hf⟩ := filter_first S hs'.2 (fun e he f hf => hp e (List.mem_cons_of_mem _ he) f (List.mem_cons_of_mem _ hf))
      refine ⟨T, ?_, hf⟩
      rw [List.filter_cons_of_pos hx, List.cons_append, ← hT]
    · have hn : ∀ f ∈ S, p f = false := by
        intro f hf
        cases h : p f
        · rfl
        · exact absurd (hp x List.mem_cons_self f (List.mem_cons_of_mem _ hf) (hs'.1 f hf) h) hx
      refine ⟨x :: S, ?_, ?_⟩
      · rw [List.filter_cons_of_neg hx, List.filter_eq_nil_iff.2 (fun f hf => by simp [hn f hf])]; rfl
      · intro f hf
        rcases List.mem_cons.1 hf with rfl | hf
        · exact Bool.eq_false_iff.2 hx
        · exact hn f hf

/-- What has been found when the ends P are over: how many hold, the most that have, where first. -/
def Full (P : List (Int × Int)) (h m a : Int) : Prop :=
  h = sumM P ∧ 0 ≤ m ∧ (∀ k, sumM (P.take k) ≤ m) ∧
    ((m = 0 ∧ a = 0) ∨ ∃ i e, P[i]? = some e ∧ e.1 = a ∧ sumM (P.take (i + 1)) = m ∧ sumM (P.take i) < m ∧ ∀ k, sumM (P.take k) = m → i < k)
theorem Full.nil : Full [] 0 0 0 := ⟨rfl, by omega, by simp [sumM], .inl ⟨rfl, rfl⟩⟩
theorem take_app {P : List (Int × Int)} {e : Int × Int} {k : Nat} (h : k ≤ P.length) : (P ++ [e]).take k = P.take k := List.take_append_of_le_length h
theorem take_all {P : List (Int × Int)} {e : Int × Int} {k : Nat} (h : P.length < k) : (P ++ [e]).take k = P ++ [e] := List.take_of_length_le (by simp; omega)
theorem Full.more {P : List (Int × Int)} {h m a : Int} (F : Full P h m a) {e : Int × Int} (g : m < h + e.2) : Full (P ++ [e]) (h + e.2) (h + e.2) e.1 := by
  obtain ⟨f1, f2, f3, f4⟩ := F
  have hs : sumM (P ++ [e]) = h + e.2 := by rw [sumM_append, f1]; simp [sumM]
  refine ⟨hs.symm, by omega, fun k => ?_, .inr ⟨P.length, e, by simp, rfl, ?_, ?_, fun k hk => ?_⟩⟩
  · rcases Nat.lt_or_ge P.length k with hk | hk
    · rw [take_all hk, hs]; omega
    · rw [take_app hk]; have := f3 k; omega
  · rw [take_all (by omega), hs]
  · rw [take_app (Nat.le_refl _), List.take_of_length_le (Nat.le_refl _), ← f1]
    have := f3 P.length
    rw [List.take_of_length_le (Nat.le_refl _), ← f1] at this
    omega
  · rcases Nat.lt_or_ge P.length k with hk2 | hk2
    · exact hk2
    · rw [take_app hk2] at hk; have := f3 k; omega
theorem Full.less {P : List (Int × Int)} {h m a : Int} (F : Full P h m a) {e : Int × Int} (g : ¬ m < h + e.2) : Full (P ++ [e]) (h + e.2) m a := by
  obtain ⟨f1, f2, f3, f4⟩ := F
  have hs : sumM (P ++ [e]) = h + e.2 := by rw [sumM_append, f1]; simp [sumM]
  refine ⟨hs.symm, f2, fun k => ?_, ?_⟩
  · rcases Nat.lt_or_ge P.length k with hk | hk
    · rw [take_all hk, hs]; omega
    · rw [take_app hk]; exact f3 k
  · rcases f4 with f4 | ⟨i, x, g1, g2, g3, g4, g5⟩
    · exact .inl f4
    · have hi : i < P.length := (List.getElem?_eq_some_iff.1 g1).1
      refine .inr ⟨i, x, by rw [List.getElem?_append_left hi]; exact g1, g2, by rw [take_app (by omega)]; exact g3, by rw [take_app (by omega)]; exact g4, fun k hk => ?_⟩
      rcases Nat.lt_or_ge P.length k with hk2 | hk2
      · omega
      · rw [take_app hk2] at hk; exact g5 k hk

theorem upTo_down {v : Int} {e f : Int × Int} (he : e.2 = 1 ∨ e.2 = -1) (h : leE e f) (hf : upTo v f = true) : upTo v e = true := by
  have h1 := of_decide_eq_true hf
  apply decide_eq_true
  unfold leE at h
  omega

/-- What the ends in order tell. -/
theorem full_most {L S : List (Int × Int)} {h m a : Int} (hp : S.Perm (endsL L)) (ho : S.Pairwise leE) (F : Full S h m a) :
    (∀ v, cntN L v ≤ m) ∧ ((m = 0 ∧ a = 0) ∨ (0 < m ∧ cntN L a = m ∧ (∃ x ∈ L, rightB x.1 x.2 = true ∧ x.1 = a) ∧ ∀ v, cntN L v = m → a ≤ v)) := by
  obtain ⟨f1, f2, f3, f4⟩ := F
  have hone : ∀ e ∈ S, e.2 = 1 ∨ e.2 = -1 := fun e he => by
    rcases endsL_mem (hp.mem_iff.1 he) with h | h
    · exact .inl h.1
    · exact .inr h
  have hcut : ∀ v, ∃ k T, S.take k = S.filter (upTo v) ∧ S = S.take k ++ T ∧ (∀ f ∈ T, upTo v f = false) ∧ sumM (S.take k) = cntN L v := by
    intro v
    obtain ⟨T, hT, hf⟩ := filter_first S ho (fun e he f _ hl hf => upTo_down (hone e he) hl hf) (p := upTo v)
    have hd : ∀ F : List (Int × Int), S = F ++ T → S.take F.length = F := fun F h => by rw [h]; exact List.take_left
    have ht := hd _ hT
    refine ⟨(S.filter (upTo v)).length, T, ht, by rw [ht]; exact hT, hf, ?_⟩
    rw [ht, sumM_perm (hp.filter _), sum_upTo]
  have hall : ∀ v, cntN L v ≤ m := fun v => by
    obtain ⟨k, T, _, _, _, hk⟩ := hcut v
    rw [← hk]; exact f3 k
  refine ⟨hall, ?_⟩
  rcases f4 with f4 | ⟨i, e, g1, g2, g3, g4, g5⟩
  · exact .inl f4
  right
  have hi : i < S.length := (List.getElem?_eq_some_iff.1 g1).1
  have heS : e ∈ S := List.mem_of_getElem? g1
  have hsnoc : S.take (i + 1) = S.take i ++ [e] := by
    rw [List.take_add_one, g1]; rfl
  have he2 : sumM (S.take (i + 1)) = sumM (S.take i) + e.2 := by rw [hsnoc, sumM_append]; simp [sumM]
  have he1 : e.2 = 1 := by rcases hone e heS with h | h <;> omega
  have hpos : 0 < m := by
    rcases Int.lt_or_eq_of_le f2 with h | h
    · exact h
    · have := g5 0 (by simp [sumM]; omega)
      omega
  have hin : ∃ x ∈ L, rightB x.1 x.2 = true ∧ x.1 = a := by
    rcases endsL_mem (hp.mem_iff.1 heS) with ⟨_, x, hx, hr, hx1⟩ | h
    · exact ⟨x, hx, hr, by omega⟩
    · omega
  refine ⟨hpos, ?_, hin, ?_⟩
  · obtain ⟨k, T, t1, t2, t3, t4⟩ := hcut a
    have hue : upTo a e = true := decide_eq_true (.inr ⟨g2, he1⟩)
    have hik : i < k := by
      rcases Nat.lt_or_ge i k with h | h
      · exact h
      · have hlen : (S.take k).length ≤ i := by simp; omega
        have : e ∈ T := by
          rw [t2, List.getElem?_append_right hlen] at g1
          exact List.mem_of_getElem? g1
        rw [t3 e this] at hue; cases hue
    obtain ⟨d, rfl⟩ : ∃ d, k = i + 1 + d := ⟨k - (i + 1), by omega⟩
    have hsp : S.take (i + 1 + d) = S.take (i + 1) ++ (S.drop (i + 1)).take d := List.take_add
    have hmid : ∀ f ∈ (S.drop (i + 1)).take d, f.2 = 1 := by
      intro f hf
      have hfu : upTo a f = true := by
        have : f ∈ S.take (i + 1 + d) := by rw [hsp]; exact List.mem_append_right _ hf
        rw [t1] at this
        exact (List.mem_filter.1 this).2
      have hle : leE e f := by
        have hS : S = S.take i ++ (e :: S.drop (i + 1)) := by
          rw [← List.singleton_append, ← List.append_assoc, ← hsnoc, List.take_append_drop]
        have h2 := ho
        rw [hS] at h2
        exact (List.pairwise_cons.1 (List.pairwise_append.1 h2).2.1).1 f (List.mem_of_mem_take hf)
      have h1 := of_decide_eq_true hfu
      unfold leE at hle
      omega
    have hge : ∀ l : List (Int × Int), (∀ f ∈ l, f.2 = 1) → 0 ≤ sumM l := by
      intro l
      induction l with
      | nil => simp [sumM]
      | cons x l ih =>
        intro h
        have h1 := h x List.mem_cons_self
        have h2 := ih (fun f hf => h f (List.mem_cons_of_mem _ hf))
        simp only [sumM]; omega
    have h5 := hge _ hmid
    rw [hsp, sumM_append, g3] at t4
    have := hall a
    omega
  · intro v hv
    obtain ⟨k, T, t1, t2, t3, t4⟩ := hcut v
    have hik := g5 k (by rw [t4, hv])
    have : e ∈ S.take k := List.mem_of_getElem? (i := i) (by rw [List.getElem?_take, if_pos hik]; exact g1)
    rw [t1] at this
    have h1 := of_decide_eq_true (List.mem_filter.1 this).2
    omega

/-- What the document's loop has found when the ones of P are over. -/
def Tried (L P : List (Int × Int)) (lo hi m : Int) : Prop :=
  (lo = 0 ∧ hi = 0 ∧ m = 0 ∧ ∀ x ∈ P, rightB x.1 x.2 = false) ∨
    (0 < m ∧ cntN L lo = m ∧ hi = hiL lo L ∧ (∃ x ∈ P, rightB x.1 x.2 = true ∧ x.1 = lo) ∧ ∀ x ∈ P, rightB x.1 x.2 = true → cntN L x.1 ≤ m ∧ (cntN L x.1 = m → lo ≤ x.1))
theorem Tried.nil (L : List (Int × Int)) : Tried L [] 0 0 0 := .inl ⟨rfl, rfl, rfl, by simp⟩
theorem Tried.wrong {L P : List (Int × Int)} {lo hi m : Int} (T : Tried L P lo hi m) {x : Int × Int} (h : rightB x.1 x.2 = false) : Tried L (P ++ [x]) lo hi m := by
  rcases T with ⟨h1, h2, h3, h4⟩ | ⟨h1, h2, h3, ⟨y, hy, hy2⟩, h5⟩
  · refine .inl ⟨h1, h2, h3, fun y hy => ?_⟩
    rcases List.mem_append.1 hy with hy | hy
    · exact h4 y hy
    · rw [List.mem_singleton.1 hy]; exact h
  · refine .inr ⟨h1, h2, h3, ⟨y, List.mem_append_left _ hy, hy2⟩, fun z hz hr => ?_⟩
    rcases List.mem_append.1 hz with hz | hz
    · exact h5 z hz hr
    · rw [List.mem_singleton.1 hz, h] at hr; cases hr
theorem Tried.keep {L P : List (Int × Int)} {lo hi m : Int} (T : Tried L P lo hi m) {x : Int × Int} (hx : x ∈ L) (h : rightB x.1 x.2 = true) (g : cntN L x.1 < m ∨ (cntN L x.1 = m ∧ lo ≤ x.1)) : Tried L (P ++ [x]) lo hi m := by
  have hp := cntN_pos hx h
  rcases T with ⟨h1, h2, h3, h4⟩ | ⟨h1, h2, h3, ⟨y, hy, hy2⟩, h5⟩
  · omega
  · refine .inr ⟨h1, h2, h3, ⟨y, List.mem_append_left _ hy, hy2⟩, fun z hz hr => ?_⟩
    rcases List.mem_append.1 hz with hz | hz
    · exact h5 z hz hr
    · rw [List.mem_singleton.1 hz]; omega
theorem Tried.take {L P : List (Int × Int)} {lo hi m : Int} (T : Tried L P lo hi m) {x : Int × Int} (hx : x ∈ L) (h : rightB x.1 x.2 = true) (g : ¬ (cntN L x.1 < m ∨ (cntN L x.1 = m ∧ lo ≤ x.1))) : Tried L (P ++ [x]) x.1 (hiL x.1 L) (cntN L x.1) := by
  have hp := cntN_pos hx h
  refine .inr ⟨by omega, rfl, rfl, ⟨x, by simp, h, rfl⟩, fun z hz hr => ?_⟩
  rcases List.mem_append.1 hz with hz | hz
  · rcases T with ⟨h1, h2, h3, h4⟩ | ⟨h1, h2, h3, _, h5⟩
    · rw [h4 z hz] at hr; cases hr
    · have := h5 z hz hr
      refine ⟨by omega, fun he => ?_⟩
      omega
  · rw [List.mem_singleton.1 hz]; omega

/-- What Most answers. -/
def MostIs (L : List (Int × Int)) (lo hi n : Int) : Prop :=
  (∀ v, cntN L v ≤ n) ∧ ((n = 0 ∧ lo = 0 ∧ hi = 0) ∨ (0 < n ∧ cntN L lo = n ∧ hi = hiL lo L ∧ (∃ x ∈ L, rightB x.1 x.2 = true ∧ x.1 = lo) ∧ ∀ v, cntN L v = n → lo ≤ v))
/-- Both find the same. -/
theorem most_same {L : List (Int × Int)} {lo hi n lo' hi' n' : Int} (h : MostIs L lo hi n) (T : Tried L L lo' hi' n') : lo = lo' ∧ hi = hi' ∧ n = n' := by
  obtain ⟨h0, h⟩ := h
  rcases T with ⟨t1, t2, t3, t4⟩ | ⟨t1, t2, t3, ⟨y, hy, hy1, hy2⟩, t5⟩
  · rcases h with ⟨h1, h2, h3⟩ | ⟨h1, h2, h3, ⟨x, hx, hx1, _⟩, h5⟩
    · omega
    · rw [t4 x hx] at hx1; cases hx1
  · have hp := cntN_pos hy hy1
    rcases h with ⟨h1, h2, h3⟩ | ⟨h1, h2, h3, ⟨x, hx, hx1, hx2⟩, h5⟩
    · have := h0 y.1; omega
    · have g1 := h0 lo'
      have g2 := t5 x hx hx1
      rw [hx2] at g2
      have e1 : n = n' := by omega
      have e2 : lo ≤ lo' := h5 lo' (by omega)
      have e3 : lo' ≤ lo := g2.2 (by omega)
      have e4 : lo = lo' := by omega
      exact ⟨e4, by rw [h3, t3, e4], e1⟩
/-- Is one of them right? -/
theorem most_some {L : List (Int × Int)} {lo hi n : Int} (h : MostIs L lo hi n) : L.any (fun x => rightB x.1 x.2) = decide (0 < n) := by
  obtain ⟨h0, h⟩ := h
  rcases h with ⟨h1, h2, h3⟩ | ⟨h1, h2, h3, ⟨x, hx, hx1, hx2⟩, h5⟩
  · rw [h1]
    simp only [Int.lt_irrefl, decide_false]
    rw [List.any_eq_false]
    intro x hx hr
    have := cntN_pos hx hr
    have := h0 x.1
    omega
  · rw [decide_eq_true h1, List.any_eq_true]
    exact ⟨x, hx, hx1⟩
end Go.Proofs.Ytmdpfkilkmicjaa
