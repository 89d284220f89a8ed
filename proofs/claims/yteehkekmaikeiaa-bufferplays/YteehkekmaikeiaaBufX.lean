/-
  One buffer, act by act, seen from the world in which it was made; awake.
-/
import Derived.Test.YteehkekmaikeiaaBufR
namespace Go.Proofs.Yteehkekmaikeiaa
open Go.ChangeShapes Go.WideShapes Go.ChangeAt Go.RowKit

theorem put_any (w : World) (g m : Nat) (v : Value) (s : Bs) (ss : List Sl) (n : Nat) (h : Pb w g m v s ss n) (hn : n ≤ 800000) (hlost : s.lost ≤ 1000000) (k1 k2 : Int) (xa : Option Addr) (xc : Nat) (x : List UInt8) (hx : Sees w xa xc x) :
    Calls Try.prog 10 #[.pointer (some ⟨g, 0, none⟩), .int .i64 k1, .int .i64 k2, .slice xa x.length xc] w fun e w' => e = .returned (.int .i64 (putE s k1 k2 x)) ∧ PLeft w g m v (putV s k1 k2 x) (n + 65) w' := by
  cases ha : argB k1 k2 x
  · refine (put_refused w g m h.at'.c3 k1 k2 xa xc x ha).mono ?_
    rintro e w' ⟨rfl, rfl⟩
    rw [putE, putV, if_pos ha, if_pos ha]
    exact ⟨rfl, PLeft.refl h (Below.refl _ _) (by omega)⟩
  · cases hh : heldB s.L x
    · exact put_goes w g m v s ss n h hn hlost k1 k2 xa xc x hx ha hh
    · refine (put_held w g m v s ss n h k1 k2 xa xc x hx ha hh).mono ?_
      rintro e w' ⟨rfl, hb⟩
      have e1 : putE s k1 k2 x = 4 := by simp [putE, ha, hh]
      have e2 : putV s k1 k2 x = s := by simp [putV, ha, hh]
      rw [e1, e2]
      exact ⟨rfl, PLeft.refl h hb (by omega)⟩

/-- A buffer of the program in memory that w0 has not; w0 is as it was. -/
def Solo (w0 w : World) (g : Nat) (s : Bs) (n : Nat) : Prop := ∃ m v ss, Pb w g m v s ss n ∧ Below w0.heap.size w0 w ∧ ∀ k, Own g m v k → w0.heap.size ≤ k
theorem Born.solo {w w' : World} {g : Nat} {s : Bs} (h : Born w g s w') : Solo w w' g s 0 := h
theorem Solo.bel {w0 w : World} {g : Nat} {s : Bs} {n : Nat} (h : Solo w0 w g s n) : Below w0.heap.size w0 w := by obtain ⟨_, _, _, _, h, _⟩ := h; exact h
theorem Solo.ok {w0 w : World} {g : Nat} {s : Bs} {n : Nat} (h : Solo w0 w g s n) : s.ok := by obtain ⟨_, _, _, h, _⟩ := h; exact h.ok
theorem Solo.below {w0 w w' : World} {g : Nat} {s : Bs} {n : Nat} (h : Solo w0 w g s n) (hb : Below w.heap.size w w') : Solo w0 w' g s n := by
  obtain ⟨m, v, ss, h1, h2, h3⟩ := h
  exact ⟨m, v, ss, h1.below hb, h2.trans (hb.mono h2.size), h3⟩
theorem Solo.mono {w0 w : World} {g : Nat} {s : Bs} {n n' : Nat} (h : Solo w0 w g s n) (hn : n ≤ n') : Solo w0 w g s n' := by
  obtain ⟨m, v, ss, h1, h2, h3⟩ := h
  exact ⟨m, v, ss, h1.mono hn, h2, h3⟩
theorem PLeft.solo {w0 w w' : World} {g m : Nat} {v : Value} {s' : Bs} {n' : Nat} (h : PLeft w g m v s' n' w') (hb : Below w0.heap.size w0 w) (ho : ∀ k, Own g m v k → w0.heap.size ≤ k) : Solo w0 w' g s' n' := by
  obtain ⟨v', ss', h1, h2, h3⟩ := h
  refine ⟨m, v', ss', h1, h2.below hb ho hb.size, fun k hk => ?_⟩
  rcases hk with rfl | rfl | hk
  · exact ho _ (.inl rfl)
  · exact ho _ (.inr (.inl rfl))
  · rcases h3 k hk with h | h
    · exact ho k (.inr (.inr h))
    · exact Nat.le_trans hb.size h
theorem put_solo {w0 w : World} {g : Nat} {s : Bs} {n : Nat} (h : Solo w0 w g s n) (hn : n ≤ 800000) (hlost : s.lost ≤ 1000000) (k1 k2 : Int) (xa : Option Addr) (xc : Nat) (x : List UInt8) (hx : Sees w xa xc x) :
    Calls Try.prog 10 #[.pointer (some ⟨g, 0, none⟩), .int .i64 k1, .int .i64 k2, .slice xa x.length xc] w fun e w' => e = .returned (.int .i64 (putE s k1 k2 x)) ∧ Solo w0 w' g (putV s k1 k2 x) (n + 65) := by
  obtain ⟨m, v, ss, h1, h2, h3⟩ := h
  refine (put_any w g m v s ss n h1 hn hlost k1 k2 xa xc x hx).mono ?_
  rintro e w' ⟨rfl, hl⟩
  exact ⟨rfl, hl.solo h2 h3⟩
theorem take_solo {w0 w : World} {g : Nat} {s : Bs} {n : Nat} (h : Solo w0 w g s n) (hn : n ≤ 800000) (k : Key) (hk : wfK k) :
    Calls Try.prog 13 #[.pointer (some ⟨g, 0, none⟩), .int .i64 k.1, .int .i64 k.2] w fun e w' => ∃ vo, e = .returned vo ∧ Solo w0 w' g (takeV s k) (n + 65) ∧ Told w' w.heap.size vo (takeL s k) := by
  obtain ⟨m, v, ss, h1, h2, h3⟩ := h
  refine (take_ok w g m v s ss n h1 (by omega) k hk).mono ?_
  rintro e w' ⟨vo, rfl, hl, ht⟩
  exact ⟨vo, rfl, (hl.solo h2 h3).mono (by omega), ht⟩
theorem len_solo {w0 w : World} {g : Nat} {s : Bs} {n : Nat} (h : Solo w0 w g s n) : Calls Try.prog 17 #[.pointer (some ⟨g, 0, none⟩)] w fun e w' => e = .returned (.int .i64 (s.L.length : Int)) ∧ w' = w := by
  obtain ⟨m, v, ss, h1, _, _⟩ := h
  exact len_ok w g m v s ss n h1
theorem count_solo {w0 w : World} {g : Nat} {s : Bs} {n : Nat} (h : Solo w0 w g s n) (k : Key) (hk : wfK k) : Calls Try.prog 19 #[.pointer (some ⟨g, 0, none⟩), .int .i64 k.1, .int .i64 k.2] w fun e w' => e = .returned (.int .i64 (cnt s.L k : Int)) ∧ w' = w := by
  obtain ⟨m, v, ss, h1, _, _⟩ := h
  exact count_ok w g m v s ss n h1 k hk

set_option maxHeartbeats 1600000 in
set_option maxRecDepth 20000 in
theorem awake_ok (w : World) : Calls Try.prog 9 #[] w fun e w' => e = .returned (.bool true) ∧ Below w.heap.size w w' := by
  have KN := new_ok w 2 (by omega) (by omega)
  go_enter Try.func9, Try.ntmps9
  go_wp2_with fail
  refine KN.mono ?_
  rintro e w1 ⟨g, rfl, hB⟩
  have hS := hB.solo
  obtain ⟨W, hW⟩ : ∃ W, W = w1.alloc (.cells #[.int .u8 1] 5) := ⟨_, rfl⟩
  have hb : Below w1.heap.size w1 W := by rw [hW]; exact (Below.refl _ _).alloc (Nat.le_refl _) _
  have hs : Sees W (some ⟨w1.heap.size, 0, none⟩) 1 [1] := by rw [hW]; exact sees_lit w1 [1] 5 (0, 0) (by simp)
  have KP : Hid (Calls Try.prog 10 #[.pointer (some ⟨g, 0, none⟩), .int .i64 1, .int .i64 1, .slice (some ⟨w1.heap.size, 0, none⟩) 1 1] W fun e w' => e = .returned (.int .i64 0) ∧ Calls Try.prog 17 #[.pointer (some ⟨g, 0, none⟩)] w' (fun e w'' => e = .returned (.int .i64 1) ∧ Below w.heap.size w w'')) := by
    refine (put_solo (hS.below hb) (by omega) (by simp) 1 1 _ _ [1] hs).mono ?_
    rintro e w' ⟨rfl, h2⟩
    refine ⟨by rw [show putE ⟨2, 0, []⟩ 1 1 [1] = 0 from by decide +kernel], (len_solo h2).mono ?_⟩
    rintro e w'' ⟨rfl, rfl⟩
    exact ⟨by rw [show ((putV ⟨2, 0, []⟩ 1 1 [1]).L.length : Int) = 1 from by decide +kernel], h2.bel⟩
  have HW : Hid (W = w1.alloc (.cells #[.int .u8 1] 5)) := hW
  clear hS hB hb hs hW KN
  go_wp2_with fail
  rw [← HW.out]
  refine KP.out.mono ?_
  rintro e w2 ⟨rfl, KL⟩
  have HL : Hid (Calls Try.prog 17 #[.pointer (some ⟨g, 0, none⟩)] w2 (fun e w'' => e = .returned (.int .i64 1) ∧ Below w.heap.size w w'')) := KL
  clear KL KP
  go_wp2_with fail
  refine HL.out.mono ?_
  rintro e w3 ⟨rfl, hb3⟩
  go_wp2
  go_ret
  exact ⟨rfl, hb3⟩
end Go.Proofs.Yteehkekmaikeiaa
