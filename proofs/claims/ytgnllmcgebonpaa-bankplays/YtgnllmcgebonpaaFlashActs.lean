/-
  The contracts of flash's Wake, Tear, next and Write.
-/
import Derived.Test.YtgnllmcgebonpaaFlashObj
namespace Go.Proofs.Ytgnllmcgebonpaa
open Go.ChangeShapes Go.WideShapes Go.ChangeAt Go.RowKit

/-- One field changed. -/
theorem PA.set {w : World} {g : Nat} {s : PS} {q cap : Nat} {cur : Array Value} (h : PA w g s q cap cur) (i : Nat) (v : Value) (s' : PS) (hb : s'.b = s.b) (hk : s'.k ≤ 9223372036854775807) (hm : s'.m ≤ 9223372036854775807)
    (hr : (#[.bool true, .slice (some ⟨q, 0, none⟩) s.b.length cap, .int .i64 (s.n : Int), .bool s.due, .int .i64 (s.k : Int), .int .i64 (s.m : Int), .bool s.dead] : Array Value).setIfInBounds i v =
      #[.bool true, .slice (some ⟨q, 0, none⟩) s.b.length cap, .int .i64 (s'.n : Int), .bool s'.due, .int .i64 (s'.k : Int), .int .i64 (s'.m : Int), .bool s'.dead]) :
    PA (w.setCell ⟨g, i, none⟩ v) g s' q cap cur :=
  ⟨by rw [heap_setCell_same _ _ _ _ _ _ h.row, hr, hb], by rw [heap_setCell_other _ _ _ _ (Ne.symm h.ne)]; exact h.bytes, by rw [hb]; exact h.fits, h.room, h.size, by rw [hb]; exact h.holds, by rw [hb]; exact h.small, hk, hm⟩

theorem apart_set {F : Nat → Prop} {w w' : World} {g : Nat} (h : Apart F w w') (hg : F g) (i : Nat) (v : Value) : Apart F w (w'.setCell ⟨g, i, none⟩ v) := h.setCell (.inl hg) i v

/-- What an act leaves, the blocks staying the same. -/
theorem PA.left {w w' : World} {g : Nat} {s s' : PS} {q cap cap' : Nat} {cur cur' : Array Value} {F : Nat → Prop} (_h : PA w g s q cap cur) (h' : PA w' g s' q cap' cur') (hF : F g) (hq : F q) (hl : ∀ k, F k → k < w.heap.size) (ha : Apart F w w') : Left PF w F g s' w' :=
  ⟨F, ⟨q, cap', cur', h', hF, hq, fun k hk => Nat.lt_of_lt_of_le (hl k hk) ha.size⟩, ha, fun _ hk => .inl hk⟩

/-- Awake, and no tear due. -/
def wakeS (s : PS) : PS := { s with due := false, k := 0, m := 0, dead := false }

theorem wake_ok (w : World) (g : Nat) (s : PS) (F : Nat → Prop) (h : PF w g s F) : Calls Try.prog 17 #[.pointer (some ⟨g, 0, none⟩)] w fun e w' => (∃ v, e = .returned v) ∧ Left PF w F g (wakeS s) w' := by
  obtain ⟨q, cap, cur, h, hF, hq, hl⟩ := h
  have HE : Hid (Left PF w F g (wakeS s) ((((w.setCell ⟨g, 6, none⟩ (.bool false)).setCell ⟨g, 3, none⟩ (.bool false)).setCell ⟨g, 4, none⟩ (.int .i64 0)).setCell ⟨g, 5, none⟩ (.int .i64 0))) := by
    have h1 := h.set 6 (.bool false) { s with dead := false } rfl h.kl h.ml rfl
    have h2 := h1.set 3 (.bool false) { s with dead := false, due := false } rfl h.kl h.ml rfl
    have h3 := h2.set 4 (.int .i64 0) { s with dead := false, due := false, k := 0 } rfl (by simp) h.ml rfl
    have h4 := h3.set 5 (.int .i64 0) (wakeS s) rfl (by simp [wakeS]) (by simp [wakeS]) rfl
    exact h.left h4 hF hq hl (apart_set (apart_set (apart_set (apart_set (Apart.refl _ _) hF _ _) hF _ _) hF _ _) hF _ _)
  have hs := stands_ok w g h.made
  have c3 := h.dues
  have c4 := h.ks
  have c5 := h.ms
  have c6 := h.deads
  have f3 := h.lax 3
  have f4 := h.lax 4
  have f5 := h.lax 5
  have f6 := h.lax 6
  clear h hl
  go_enter Try.func17, Try.ntmps17
  go_wp2_with fail
  refine hs.mono ?_
  rintro e w1 ⟨rfl, rfl⟩
  clear hs
  go_wp2
  go_end0
  exact ⟨⟨_, rfl⟩, HE.out⟩

/-- What is to be torn. -/
def tearS (s : PS) (k n : Int) : PS := if 0 ≤ k ∧ 0 ≤ n then { s with due := true, k := k.toNat, m := n.toNat } else { s with due := false, k := 0, m := 0 }

theorem tear_ok (w : World) (g : Nat) (s : PS) (F : Nat → Prop) (h : PF w g s F) (k n : Int) (hk : (Lit.int .i64 k).wf = true) (hn : (Lit.int .i64 n).wf = true) :
    Calls Try.prog 13 #[.pointer (some ⟨g, 0, none⟩), .int .i64 k, .int .i64 n] w fun e w' => (∃ v, e = .returned v) ∧ Left PF w F g (tearS s k n) w' := by
  obtain ⟨q, cap, cur, h, hF, hq, hl⟩ := h
  have hk := bounds_i64 hk
  have hn := bounds_i64 hn
  have h2 := h.set 3 (.bool false) { s with due := false } rfl h.kl h.ml rfl
  have h3 := h2.set 4 (.int .i64 0) { s with due := false, k := 0 } rfl (by simp) h.ml rfl
  have h4 := h3.set 5 (.int .i64 0) { s with due := false, k := 0, m := 0 } rfl (by simp) (by simp) rfl
  have ap4 : Apart F w (((w.setCell ⟨g, 3, none⟩ (.bool false)).setCell ⟨g, 4, none⟩ (.int .i64 0)).setCell ⟨g, 5, none⟩ (.int .i64 0)) := apart_set (apart_set (apart_set (Apart.refl _ _) hF _ _) hF _ _) hF _ _
  have HN : Hid (Left PF w F g { s with due := false, k := 0, m := 0 } (((w.setCell ⟨g, 3, none⟩ (.bool false)).setCell ⟨g, 4, none⟩ (.int .i64 0)).setCell ⟨g, 5, none⟩ (.int .i64 0))) := h.left h4 hF hq hl ap4
  have hs := stands_ok w g h.made
  have c3 := h.dues
  have c4 := h.ks
  have c5 := h.ms
  have f3 := h.lax 3
  have f4 := h.lax 4
  have f5 := h.lax 5
  by_cases h0 : 0 ≤ k ∧ 0 ≤ n
  · obtain ⟨h0, h1⟩ := h0
    have e1 : tearS s k n = { s with due := true, k := k.toNat, m := n.toNat } := by unfold tearS; rw [if_pos ⟨h0, h1⟩]
    rw [e1]
    have HE : Hid (Left PF w F g { s with due := true, k := k.toNat, m := n.toNat } ((((((w.setCell ⟨g, 3, none⟩ (.bool false)).setCell ⟨g, 4, none⟩ (.int .i64 0)).setCell ⟨g, 5, none⟩ (.int .i64 0)).setCell ⟨g, 3, none⟩ (.bool true)).setCell ⟨g, 4, none⟩ (.int .i64 k)).setCell ⟨g, 5, none⟩ (.int .i64 n))) := by
      have h5 := h4.set 3 (.bool true) { s with due := true, k := 0, m := 0 } rfl (by simp) (by simp) rfl
      have h6 := h5.set 4 (.int .i64 k) { s with due := true, k := k.toNat, m := 0 } rfl (by simp only []; omega) (by simp) (by simp only [Int.toNat_of_nonneg h0]; rfl)
      have h7 := h6.set 5 (.int .i64 n) { s with due := true, k := k.toNat, m := n.toNat } rfl (by simp only []; omega) (by simp only []; omega) (by simp only [Int.toNat_of_nonneg h1]; rfl)
      exact h.left h7 hF hq hl (apart_set (apart_set (apart_set ap4 hF _ _) hF _ _) hF _ _)
    have d0 : decide (0 ≤ k) = true := by simp [h0]
    have d1 : decide (0 ≤ n) = true := by simp [h1]
    clear h hl h2 h3 h4 ap4 HN e1
    go_enter Try.func13, Try.ntmps13
    go_wp2_with fail
    refine hs.mono ?_
    rintro e w1 ⟨rfl, rfl⟩
    clear hs
    go_wp2
    go_end0
    exact ⟨⟨_, rfl⟩, HE.out⟩
  · have e1 : tearS s k n = { s with due := false, k := 0, m := 0 } := by unfold tearS; rw [if_neg h0]
    rw [e1]
    clear h hl h2 h3 h4 ap4 e1
    by_cases h1 : 0 ≤ k
    · have d0 : decide (0 ≤ k) = true := by simp [h1]
      have d1 : decide (0 ≤ n) = false := by simp; omega
      clear h0
      go_enter Try.func13, Try.ntmps13
      go_wp2_with fail
      refine hs.mono ?_
      rintro e w1 ⟨rfl, rfl⟩
      clear hs
      go_wp2
      go_end0
      exact ⟨⟨_, rfl⟩, HN.out⟩
    · have d0 : decide (0 ≤ k) = false := by simp; omega
      clear h0
      go_enter Try.func13, Try.ntmps13
      go_wp2_with fail
      refine hs.mono ?_
      rintro e w1 ⟨rfl, rfl⟩
      clear hs
      go_wp2
      go_end0
      exact ⟨⟨_, rfl⟩, HN.out⟩

/-- Is the write that begins now torn; how many bytes of it come to stand; what is due behind it. -/
def tornB (s : PS) : Bool := s.due && decide (s.k = 0)
def cutN (s : PS) (l : Nat) : Nat := if tornB s then min l s.m else l
def nextS (s : PS) : PS := { s with k := if s.due then s.k - 1 else s.k }

theorem next_ok (w : World) (g : Nat) (s : PS) (q cap : Nat) (cur : Array Value) (h : PA w g s q cap cur) (l : Nat) (_hl : l ≤ 9223372036854775807) :
    Calls Try.prog 28 #[.pointer (some ⟨g, 3, none⟩), .int .i64 (l : Int)] w fun e w' => e = .returned (.tuple #[.int .i64 (cutN s l : Int), .bool (tornB s)]) ∧ PA w' g (nextS s) q cap cur ∧ Apart (fun i => i = g) w w' := by
  have c3 := h.dues
  have c4 := h.ks
  have c5 := h.ms
  have f4 := h.lax 4
  have hk := h.kl
  have hm := h.ml
  cases hd : s.due
  · have e1 : tornB s = false := by simp [tornB, hd]
    have e2 : cutN s l = l := by simp [cutN, e1]
    have e3 : nextS s = s := by obtain ⟨b, n, due, k, m, dead⟩ := s; cases hd; rfl
    rw [e1, e2, e3]
    rw [hd] at c3
    have HE : Hid (PA w g s q cap cur) := h
    clear h e1 e2 e3
    go_enter Try.func28, Try.ntmps28
    go_wp2
    go_ret2
    exact ⟨rfl, HE.out, Apart.refl _ _⟩
  · rw [hd] at c3
    by_cases h0 : s.k = 0
    · have e1 : tornB s = true := by simp [tornB, hd, h0]
      have e2 : cutN s l = min l s.m := by simp [cutN, e1]
      have e3 : nextS s = s := by obtain ⟨b, n, due, k, m, dead⟩ := s; cases hd; cases h0; rfl
      rw [e1, e2, e3]
      have HE : Hid (PA w g s q cap cur) := h
      rw [h0] at c4
      clear h e1 e2 e3
      go_enter Try.func28, Try.ntmps28
      go_wp2
      all_goals
        go_ret2
        refine ⟨?_, HE.out, Apart.refl _ _⟩
        first | rfl | (congr 4; simp; omega)
    · have e1 : tornB s = false := by simp [tornB, h0]
      have e2 : cutN s l = l := by simp [cutN, e1]
      rw [e1, e2]
      have HE : Hid (PA (w.setCell ⟨g, 4, none⟩ (.int .i64 ((s.k : Int) - 1))) g (nextS s) q cap cur) :=
        h.set 4 _ (nextS s) rfl (by simp [nextS, hd]; omega) h.ml (by
          have : (((nextS s).k : Nat) : Int) = (s.k : Int) - 1 := by simp [nextS, hd]; omega
          rw [this]; rfl)
      have d0 : decide (0 < s.k) = true := by simp; omega
      have d1 : 0 < s.k := by omega
      clear h e1 e2
      go_enter Try.func28, Try.ntmps28
      go_wp2
      go_ret2
      exact ⟨rfl, HE.out, apart_set (F := fun i => i = g) (Apart.refl _ _) rfl 4 _⟩
end Go.Proofs.Ytgnllmcgebonpaa
