/-
  A bank of the program's with bytes beside it that its flash does not lie in.
-/
import Derived.Test.YtjmbioedpghopaaBankG
namespace Go.Proofs.Ytjmbioedpghopaa
open Go.ChangeShapes Go.WideShapes Go.ChangeAt Go.RowKit

/-- A bank with its flash, and bytes beside them. -/
def Side (w0 w : World) (b g A N : Nat) (s : PS) (y : Option Addr) (cy : Nat) (X : List UInt8) : Prop :=
  ∃ F, BK w b g A N s F ∧ (∀ k, F k → w0.heap.size ≤ k) ∧ ¬ F b ∧ Below w0.heap.size w0 w ∧ Sees w y cy X ∧ ∀ bb off, y = some ⟨bb, off, none⟩ → X ≠ [] → ¬ F bb
theorem Side.solo {w0 w : World} {b g A N : Nat} {s : PS} {y : Option Addr} {cy : Nat} {X : List UInt8} (h : Side w0 w b g A N s y cy X) : Solo w0 w b g A N s := by
  obtain ⟨F, h1, h2, h3, h4, h5, h6⟩ := h; exact ⟨F, h1, h2, h3, h4⟩
theorem Side.sees {w0 w : World} {b g A N : Nat} {s : PS} {y : Option Addr} {cy : Nat} {X : List UInt8} (h : Side w0 w b g A N s y cy X) : Sees w y cy X := by
  obtain ⟨F, h1, h2, h3, h4, h5, h6⟩ := h; exact h5
theorem Side.next {w0 w w' : World} {b g A N : Nat} {s : PS} {y : Option Addr} {cy : Nat} {X : List UInt8} (h : Side w0 w b g A N s y cy X) (hb : Below w.heap.size w w') : Side w0 w' b g A N s y cy X := by
  obtain ⟨F, h1, h2, h3, h4, h5, h6⟩ := h
  exact ⟨F, h1.below hb, h2, h3, h4.trans (hb.mono h4.size), h5.below hb, h6⟩
theorem Side.of {w0 w w1 : World} {b g A N : Nat} {s : PS} {y : Option Addr} {cy : Nat} {X : List UInt8} (h : Solo w0 w b g A N s) (hb : Below w.heap.size w w1) (hx : Sees w1 y cy X) (hxn : ∀ bb off, y = some ⟨bb, off, none⟩ → X ≠ [] → w.heap.size ≤ bb) : Side w0 w1 b g A N s y cy X := by
  obtain ⟨F, h1, h2, h3, h4⟩ := h
  refine ⟨F, h1.below hb, h2, h3, h4.trans (hb.mono h4.size), hx, fun bb off he hne hF => ?_⟩
  have := hxn bb off he hne; have := pf_kept.lt h1.fl bb hF; omega
theorem Side.act {w0 w w' : World} {b g A N : Nat} {s s' : PS} {y : Option Addr} {cy : Nat} {X : List UInt8} {F : Nat → Prop} (h1 : BK w b g A N s F) (h2 : ∀ k, F k → w0.heap.size ≤ k) (h3 : ¬ F b) (h4 : Below w0.heap.size w0 w) (h5 : Sees w y cy X) (h6 : ∀ bb off, y = some ⟨bb, off, none⟩ → X ≠ [] → ¬ F bb)
    (hl : Left PF w F g s' w') (hs : s'.b.length = s.b.length) : Side w0 w' b g A N s' y cy X := by
  obtain ⟨F', k1, k2, k3⟩ := id hl
  have hbl := h1.bk.lt
  have hsz := h4.size
  refine ⟨F', ⟨k1, hl.ba h1.bk h3, by rw [hs]; exact h1.fits, h1.small, by rw [hs]; exact h1.len⟩, fun k hk => ?_, fun hk => ?_, hl.below h4 h2 hsz, hl.sees h5 h6, fun bb off he hne hk => ?_⟩
  · rcases k3 k hk with h | h
    · exact h2 k h
    · omega
  · rcases k3 b hk with h | h
    · exact h3 h
    · omega
  · rcases k3 bb hk with h | h
    · exact h6 bb off he hne h
    · have := sees_lt h5 bb off he hne; omega
/-- Save of the first bytes of what lies beside it. -/
theorem save_side {w0 w : World} {b g A N : Nat} {s : PS} {y : Option Addr} {cy : Nat} {X : List UInt8} (h : Side w0 w b g A N s y cy X) (hn : s.n ≤ 999990) (m : Nat) (hm : m ≤ X.length) (l : List UInt8) (hl : l = X.take m) (E : Nat) (hE : E = saveE s A N l) (S : PS) (hS : S = saveS s A N l) :
    Calls Try.prog 52 #[.pointer (some ⟨b, 0, none⟩), .slice y m cy] w fun e w' => e = .returned (.int .i64 (E : Int)) ∧ Side w0 w' b g A N S y cy X := by
  obtain ⟨F, h1, h2, h3, h4, h5, h6⟩ := h
  have hll : l.length = m := by rw [hl]; simp; omega
  have k := save_ok w b g A N s F h1 h3 hn y cy l (by rw [hl]; exact h5.take m) (fun bb off he hne => h6 bb off he (by rintro rfl; rw [hl] at hne; simp at hne)) E hE S hS
  rw [hll] at k
  refine k.mono ?_
  rintro e w' ⟨rfl, hl'⟩
  exact ⟨rfl, Side.act h1 h2 h3 h4 h5 h6 hl' (by rw [hS, save_len])⟩
theorem tear_side {w0 w : World} {b g A N : Nat} {s : PS} {y : Option Addr} {cy : Nat} {X : List UInt8} (h : Side w0 w b g A N s y cy X) (k n : Int) (hk : (Lit.int .i64 k).wf = true) (hn : (Lit.int .i64 n).wf = true) :
    Calls Try.prog 14 #[.pointer (some ⟨g, 0, none⟩), .int .i64 k, .int .i64 n] w fun e w' => (∃ z, e = .returned z) ∧ Side w0 w' b g A N (tearS s k n) y cy X := by
  obtain ⟨F, h1, h2, h3, h4, h5, h6⟩ := h
  refine (tear_ok w g s F h1.fl k n hk hn).mono ?_
  rintro e w' ⟨he, hl'⟩
  exact ⟨he, Side.act h1 h2 h3 h4 h5 h6 hl' (tear_len s k n)⟩
theorem wake_side {w0 w : World} {b g A N : Nat} {s : PS} {y : Option Addr} {cy : Nat} {X : List UInt8} (h : Side w0 w b g A N s y cy X) :
    Calls Try.prog 20 #[.pointer (some ⟨g, 0, none⟩)] w fun e w' => (∃ z, e = .returned z) ∧ Side w0 w' b g A N (wakeS s) y cy X := by
  obtain ⟨F, h1, h2, h3, h4, h5, h6⟩ := h
  refine (wake_ok w g s F h1.fl).mono ?_
  rintro e w' ⟨he, hl'⟩
  exact ⟨he, Side.act h1 h2 h3 h4 h5 h6 hl' rfl⟩
theorem tear_b (s : PS) (k n : Int) : (tearS s k n).b = s.b ∧ (tearS s k n).dead = s.dead := by unfold tearS; split <;> exact ⟨rfl, rfl⟩

/-- 'append(append([]byte{}, l...), six more)': what is run, and what comes of it. -/
theorem twice_run (w : World) (x : Option Addr) (cx : Nat) (l : List UInt8) (hx : Sees w x cx l) (hl : l.length ≤ 140737488351232) (c : UInt8) :
    ∃ v1 w1 d cd w2 X, Hid (X = l ++ [c, c, c, c, c, c]) ∧ (Builtin.append_ #[22, 22] 22 #[.slice (some ⟨w.heap.size, 0, none⟩) 0 0, .slice x l.length cx]).run Try.prog (w.alloc (.cells #[] 5)) = .ok v1 w1 ∧
      (Builtin.append_ #[22, 22] 22 #[v1, .slice (some ⟨w1.heap.size, 0, none⟩) 6 6]).run Try.prog (w1.alloc (.cells #[.int .u8 (c.toNat : Int), .int .u8 (c.toNat : Int), .int .u8 (c.toNat : Int), .int .u8 (c.toNat : Int), .int .u8 (c.toNat : Int), .int .u8 (c.toNat : Int)] 5)) = .ok (.slice (some ⟨d, 0, none⟩) X.length cd) w2 ∧
      Sees w2 (some ⟨d, 0, none⟩) cd X ∧ w.heap.size ≤ d ∧ 6 ≤ X.length ∧ X.length ≤ cd ∧ cd ≤ 9223372036854775807 ∧ Below w.heap.size w w2 := by
  have hb0 : Below w.heap.size w (w.alloc (.cells #[] 5)) := (Below.refl _ _).alloc (Nat.le_refl _) _
  obtain ⟨v1, w1, r1, o1, be1⟩ := append_own_any (w.alloc (.cells #[] 5)) w.heap.size _ [] (own_empty w) x cx l (hx.below hb0) (by simp; omega) (by simp)
  have hb1 : Below w.heap.size w w1 := be1 _ _ hb0 (Nat.le_refl _)
  have ha : Below w1.heap.size w1 (w1.alloc (.cells #[.int .u8 (c.toNat : Int), .int .u8 (c.toNat : Int), .int .u8 (c.toNat : Int), .int .u8 (c.toNat : Int), .int .u8 (c.toNat : Int), .int .u8 (c.toNat : Int)] 5)) := (Below.refl _ _).alloc (Nat.le_refl _) _
  rw [List.nil_append] at o1
  obtain ⟨v2, w2, r2, o2, be2⟩ := append_own_any _ w.heap.size v1 l (own_keepB o1 ha) (some ⟨w1.heap.size, 0, none⟩) 6 [c, c, c, c, c, c] (sees_lit w1 [c, c, c, c, c, c] 5 (0, 0) (by simp)) (by simp; omega) (by have := hb1.size; simp; omega)
  have hb2 : Below w.heap.size w w2 := be2 _ _ (hb1.trans (ha.mono hb1.size)) (Nat.le_refl _)
  obtain ⟨X, hX⟩ : ∃ X, X = l ++ [c, c, c, c, c, c] := ⟨_, rfl⟩
  rw [← hX] at o2
  have hXl : 6 ≤ X.length := by rw [hX]; simp
  rcases o2.2 with ⟨_, h0⟩ | ⟨d, cd, cur, rfl, hd, _, hc, hm, _⟩
  · omega
  · obtain ⟨a, ca, he, hs⟩ := Sees.of_own o2
    simp only [Value.slice.injEq] at he
    obtain ⟨rfl, _, rfl⟩ := he
    exact ⟨v1, w1, d, cd, w2, X, hX, r1, r2, hs, hd, hXl, hc, by unfold maxLen at hm; omega, hb2⟩
end Go.Proofs.Ytjmbioedpghopaa
