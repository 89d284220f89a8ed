/-
  The contract of newest.
-/
import Derived.Test.YtgnllmcgebonpaaBankMax
namespace Go.Proofs.Ytgnllmcgebonpaa
open Go.ChangeShapes Go.WideShapes Go.ChangeAt Go.RowKit

theorem own_none {w : World} {B : Nat} {v : Value} (h : w.ownsRow B 72 2 v 0 []) : ∃ a cap, v = .slice a 0 cap := by
  rcases h.2 with ⟨rfl, _⟩ | ⟨g, cap, cur, rfl, _⟩
  · exact ⟨none, 0, rfl⟩
  · exact ⟨_, cap, rfl⟩
theorem own_one {w : World} {B : Nat} {v X Y : Value} (h : w.ownsRow B 72 2 v 1 [X, Y]) : ∃ gg cap, v = .slice (some ⟨gg, 0, none⟩) 1 cap ∧ 1 ≤ cap ∧ ItAt w gg 0 X Y := by
  rcases h.2 with ⟨rfl, h0⟩ | ⟨g, cap, cur, rfl, _, _, hc, _⟩
  · omega
  · refine ⟨g, cap, rfl, hc, ?_, ?_⟩
    · have := h.cells (g := g) rfl 0 X rfl; rwa [Addr.add_lit] at this
    · have := h.cells (g := g) rfl 1 Y rfl; rwa [Addr.add_lit] at this
theorem own_two {w : World} {B : Nat} {v X Y Z U : Value} (h : w.ownsRow B 72 2 v 2 [X, Y, Z, U]) : ∃ gg cap, v = .slice (some ⟨gg, 0, none⟩) 2 cap ∧ 2 ≤ cap ∧ ItAt w gg 0 X Y ∧ ItAt w gg 2 Z U := by
  rcases h.2 with ⟨rfl, h0⟩ | ⟨g, cap, cur, rfl, _, _, hc, _⟩
  · omega
  · refine ⟨g, cap, rfl, hc, ⟨?_, ?_⟩, ?_, ?_⟩
    · have := h.cells (g := g) rfl 0 X rfl; rwa [Addr.add_lit] at this
    · have := h.cells (g := g) rfl 1 Y rfl; rwa [Addr.add_lit] at this
    · have := h.cells (g := g) rfl 2 Z rfl; rwa [Addr.add_lit] at this
    · have := h.cells (g := g) rfl 3 U rfl; rwa [Addr.add_lit] at this

theorem RowAt.pair {w : World} {d cd : Nat} {l : List UInt8} (h : RowAt w d cd l) {g : Nat} {x y : Value} (hc : Cont w g x y) (u v : Value) : RowAt ((w.setCell ⟨g, 0, none⟩ u).setCell ⟨g, 1, none⟩ v) d cd l := by
  have hne : d ≠ g := by
    rintro rfl
    obtain ⟨cur, h1, _⟩ := h
    unfold Cont at hc
    rw [h1] at hc
    simp at hc
  exact h.keep (by rw [heap_setCell_other _ _ _ _ hne, heap_setCell_other _ _ _ _ hne])
/-- Which of two rows is the newest. -/
def newR (x y : List UInt8) : Option Nat := if (wholeB x && (!wholeB y || decide (numL y ≤ numL x))) = true then some 0 else if wholeB y = true then some 1 else none
def newI (s : PS) (A N : Nat) : Option Nat := newR (rowL s A N 0) (rowL s A N 1)
theorem newI_le {s : PS} {A N k : Nat} (h : newI s A N = some k) : k ≤ 1 := by
  unfold newI newR at h
  split at h
  · simp at h; omega
  · split at h
    · simp at h; omega
    · simp at h

/-- What newest answers. -/
def NewIs (w : World) (s : PS) (A N : Nat) (e : Ending) (w' : World) : Prop :=
  (newI s A N = none ∧ e = .returned (.tuple #[.agg #[.slice none 0 0, .int .i64 0], .bool false, .int .i64 0]) ∧ Below w.heap.size w w') ∨
  ∃ (k d c : Nat), newI s A N = some k ∧ e = .returned (.tuple #[.agg #[.slice (some ⟨d, 0, none⟩) (N + 8) c, .int .i64 (k : Int)], .bool true, .int .i64 0]) ∧ RowAt w' d c (rowL s A N k) ∧ Below w.heap.size w w'

/-- What a list of those holds. -/
theorem those_cases {x y : List UInt8} {L : List It} (h : L.map (·.2.2) = ([(x, 0), (y, 1)] : List (List UInt8 × Nat)).filter (fun q => wholeB q.1)) :
    (L = [] ∧ newR x y = none) ∨ (∃ d c, L = [(d, c, x, 0)] ∧ newR x y = some 0) ∨ (∃ d c, L = [(d, c, y, 1)] ∧ newR x y = some 1) ∨
    ∃ d1 c1 d2 c2, L = [(d1, c1, x, 0), (d2, c2, y, 1)] ∧ newR x y = if numL x < numL y then some 1 else some 0 := by
  unfold newR
  cases hx : wholeB x <;> cases hy : wholeB y
  · simp [hx, hy] at h; left; simp [h]
  · simp [hx, hy] at h
    right; right; left
    obtain ⟨d, c, h⟩ := h
    exact ⟨d, c, h, by simp⟩
  · simp [hx, hy] at h
    right; left
    obtain ⟨d, c, h⟩ := h
    exact ⟨d, c, h, by simp⟩
  · simp [hx, hy] at h
    right; right; right
    match L, h with
    | [(d1, c1, x', i'), (d2, c2, y', j')], h =>
      simp at h
      obtain ⟨⟨rfl, rfl⟩, rfl, rfl⟩ := h
      refine ⟨d1, c1, d2, c2, rfl, ?_⟩
      by_cases hlt : numL x' < numL y'
      · have : ¬ numL y' ≤ numL x' := by omega
        simp [hlt, this]
      · have : numL y' ≤ numL x' := by omega
        simp [hlt, this]

theorem newest_ok (w : World) (b g A N : Nat) (s : PS) (F : Nat → Prop) (hP : PF w g s F) (hB : BA w b g A N) (hd : s.dead = false) (hA : A + 2 * (N + 8) ≤ s.b.length) (hN : N ≤ 64) (hs4 : s.b.length ≤ 4096) :
    Calls Try.prog 34 #[.pointer (some ⟨b, 0, none⟩)] w fun e w' => NewIs w s A N e w' := by
  have hb : Below w.heap.size w (w.alloc (.cells #[.slice none 0 0, .int .i64 0] 72)) := (Below.refl _ _).alloc (Nat.le_refl _) _
  have hs := those_ok "carillon/bank.whole" 47 wholeB whole_run whole_call (fun W d cd m l h1 h2 h3 h4 => bwhole_ok W d cd m l h1 h2 h3 h4) _ b g A N s F (pf_kept.below hP hb) (hB.below hb) hd hA hN hs4
  have HC : Hid (Cont (w.alloc (.cells #[.slice none 0 0, .int .i64 0] 72)) w.heap.size (.slice none 0 0) (.int .i64 0)) := Cont.new w (.slice none 0 0) (.int .i64 0)
  have l0 := rowL_len s A N 0 (by omega) hA
  have l1 := rowL_len s A N 1 (by omega) hA
  obtain ⟨x, hx⟩ : ∃ x, x = rowL s A N 0 := ⟨_, rfl⟩
  obtain ⟨y, hy⟩ : ∃ y, y = rowL s A N 1 := ⟨_, rfl⟩
  have HX : Hid (x = rowL s A N 0 ∧ y = rowL s A N 1 ∧ x.length = N + 8 ∧ y.length = N + 8) := ⟨hx, hy, by rw [hx]; exact l0, by rw [hy]; exact l1⟩
  clear hP hB hd hA hs4 hN l0 l1
  go_enter Try.func34, Try.ntmps34
  go_wp2_with fail
  refine hs.mono ?_
  rintro e w1 ⟨v, L, rfl, hown, hrows, hmap, hb1⟩
  have HC2 : Hid (Cont w1 w.heap.size (.slice none 0 0) (.int .i64 0)) := HC.out.below hb1
  have hb2 := hb.trans (hb1.mono hb.size)
  clear hs HC hb1
  rw [twoL, ← hx, ← hy] at hmap
  have hnew : newI s A N = newR x y := by unfold newI; rw [← hx, ← hy]
  clear hx hy
  have key : (newI s A N = none ∧ ∃ a cap, v = .slice a 0 cap) ∨ ∃ (d c k gg n cap : Nat), v = .slice (some ⟨gg, 0, none⟩) n cap ∧ 1 ≤ n ∧ n ≤ 2 ∧ newI s A N = some k ∧ RowAt w1 d c (rowL s A N k) ∧
      Calls Try.prog 48 #[v, .func (.func 49) #[] #[]] w1 fun e w' => e = .returned (.agg #[.slice (some ⟨d, 0, none⟩) (N + 8) c, .int .i64 (k : Int)]) ∧ Below w1.heap.size w1 w' := by
    obtain ⟨hx, hy, lx, ly⟩ := HX.out
    rcases those_cases hmap with ⟨rfl, hn⟩ | ⟨d, c, rfl, hn⟩ | ⟨d, c, rfl, hn⟩ | ⟨d1, c1, d2, c2, rfl, hn⟩
    · exact .inl ⟨hnew.trans hn, own_none hown⟩
    · obtain ⟨gg, cap, rfl, hcap, hit⟩ := own_one hown
      have hr := hrows _ (List.mem_singleton.2 rfl)
      exact .inr ⟨d, c, 0, gg, 1, cap, rfl, by omega, by omega, hnew.trans hn, by rw [← hx]; exact hr, max1_ok w1 gg cap d (N + 8) c _ hit hcap⟩
    · obtain ⟨gg, cap, rfl, hcap, hit⟩ := own_one hown
      have hr := hrows _ (List.mem_singleton.2 rfl)
      exact .inr ⟨d, c, 1, gg, 1, cap, rfl, by omega, by omega, hnew.trans hn, by rw [← hy]; exact hr, max1_ok w1 gg cap d (N + 8) c _ hit hcap⟩
    · obtain ⟨gg, cap, rfl, hcap, hit, hit2⟩ := own_two hown
      have hr := hrows (d1, c1, x, 0) (by simp)
      have hr2 := hrows (d2, c2, y, 1) (by simp)
      have hm := max2_ok w1 gg cap (N + 8) d1 c1 d2 c2 _ _ x y hit hit2 hcap hr hr2 lx ly (by omega)
      by_cases hlt : numL x < numL y
      · rw [if_pos hlt] at hm hn
        exact .inr ⟨d2, c2, 1, gg, 2, cap, rfl, by omega, by omega, hnew.trans hn, by rw [← hy]; exact hr2, hm⟩
      · rw [if_neg hlt] at hm hn
        exact .inr ⟨d1, c1, 0, gg, 2, cap, rfl, by omega, by omega, hnew.trans hn, by rw [← hx]; exact hr, hm⟩
  clear hown hrows hmap hnew HX
  rcases key with ⟨hn, a, cap, rfl⟩ | ⟨d, c, k, gg, n, cap, rfl, hn1, hn2, hn, hr, hmx⟩
  · obtain ⟨x0, x1, x2, x3⟩ := HC2.out.facts
    have HN : Hid (newI s A N = none) := hn
    clear hn
    go_wp2
    refine bodyPost_ret (res_cont3 rfl rfl (HC2.out.set _ _)) rfl ?_
    exact .inl ⟨HN.out, rfl, below_pair hb2 (Nat.le_refl _) _ _⟩
  · have HN : Hid (newI s A N = some k) := hn
    have dn : ((n : Int) == 0) = false := by simp; omega
    have HR : Hid (RowAt w1 d c (rowL s A N k)) := hr
    clear hn hr
    go_wp2_with fail
    refine hmx.mono ?_
    rintro e w2 ⟨rfl, hb3⟩
    have HR2 : Hid (RowAt w2 d c (rowL s A N k)) := HR.out.below hb3
    have HC3 : Hid (Cont (w2.alloc (.cells #[.slice (some ⟨d, 0, none⟩) (N + 8) c, .int .i64 (k : Int)] 72)) w.heap.size (.slice none 0 0) (.int .i64 0)) := (HC2.out.below hb3).alloc _
    obtain ⟨x0, x1, x2, x3⟩ := HC3.out.facts
    have hb4 := hb2.trans (hb3.mono hb2.size)
    clear hmx HR hb3 HC2 hb2
    go_wp2
    refine bodyPost_ret (res_cont3 rfl rfl (HC3.out.set _ _)) rfl ?_
    exact .inr ⟨k, d, c, HN.out, rfl, (HR2.out.below ((Below.refl _ _).alloc (Nat.le_refl _) _)).pair HC3.out _ _, below_pair (hb4.alloc hb4.size _) (Nat.le_refl _) _ _⟩

theorem newest_none (w : World) (b g A N : Nat) (s : PS) (F : Nat → Prop) (hP : PF w g s F) (hB : BA w b g A N) (hd : s.dead = false) (hA : A + 2 * (N + 8) ≤ s.b.length) (hN : N ≤ 64) (hs4 : s.b.length ≤ 4096) (hn : newI s A N = none) :
    Calls Try.prog 34 #[.pointer (some ⟨b, 0, none⟩)] w fun e w' => e = .returned (.tuple #[.agg #[.slice none 0 0, .int .i64 0], .bool false, .int .i64 0]) ∧ Below w.heap.size w w' := by
  refine (newest_ok w b g A N s F hP hB hd hA hN hs4).mono ?_
  rintro e w' (⟨_, h⟩ | ⟨k, d, c, h, _⟩)
  · exact h
  · rw [hn] at h; cases h
theorem newest_some (w : World) (b g A N : Nat) (s : PS) (F : Nat → Prop) (hP : PF w g s F) (hB : BA w b g A N) (hd : s.dead = false) (hA : A + 2 * (N + 8) ≤ s.b.length) (hN : N ≤ 64) (hs4 : s.b.length ≤ 4096) (k : Nat) (hn : newI s A N = some k) :
    Calls Try.prog 34 #[.pointer (some ⟨b, 0, none⟩)] w fun e w' => ∃ d c, e = .returned (.tuple #[.agg #[.slice (some ⟨d, 0, none⟩) (N + 8) c, .int .i64 (k : Int)], .bool true, .int .i64 0]) ∧ RowAt w' d c (rowL s A N k) ∧ Below w.heap.size w w' := by
  refine (newest_ok w b g A N s F hP hB hd hA hN hs4).mono ?_
  rintro e w' (⟨h, _⟩ | ⟨k', d, c, h, h1⟩)
  · rw [hn] at h; cases h
  · rw [hn] at h
    cases h
    exact ⟨d, c, h1⟩
end Go.Proofs.Ytgnllmcgebonpaa
