/-
  A buffer is made; Len, Lost, Count, Take, Drop.
-/
import Derived.Test.YteehkekmaikeiaaBufT
import Derived.Test.YteehkekmaikeiaaBufF
namespace Go.Proofs.Yteehkekmaikeiaa
open Go.ChangeShapes Go.WideShapes Go.ChangeAt Go.RowKit

theorem new_no (w : World) (x : Int) (hx : ¬ (1 ≤ x ∧ x ≤ 64)) : Calls Try.prog 7 #[.int .i64 x] w fun e w' => e = .returned (.tuple #[.pointer none, .int .i64 1]) ∧ w' = w := by
  go_enter Try.func7, Try.ntmps7
  by_cases h1 : x < 1
  · clear hx
    go_wp2
    go_ret2
    exact ⟨rfl, rfl⟩
  · have h2 : 64 < x := by omega
    clear hx
    go_wp2
    go_ret2
    exact ⟨rfl, rfl⟩
/-- What New leaves. -/
def Born (w : World) (g : Nat) (s : Bs) (w' : World) : Prop := ∃ m v ss, Pb w' g m v s ss 0 ∧ Below w.heap.size w w' ∧ ∀ k, Own g m v k → w.heap.size ≤ k
theorem new_ok (w : World) (x : Nat) (h1 : 1 ≤ x) (h2 : x ≤ 64) : Calls Try.prog 7 #[.int .i64 (x : Int)] w fun e w' => ∃ g, e = .returned (.tuple #[.pointer (some ⟨g, 0, none⟩), .int .i64 0]) ∧ Born w g ⟨x, 0, []⟩ w' := by
  have g1 : ¬ ((x : Int) < 1) := by omega
  have g2 : ¬ (64 < (x : Int)) := by omega
  obtain ⟨W, hW⟩ : ∃ W, W = (w.alloc (.map #[] 0)).alloc (.cells #[.int .i64 (x : Int), .int .i64 0, .slice none 0 0, .map (some w.heap.size)] 49) := ⟨_, rfl⟩
  have hb : Below w.heap.size w W := by rw [hW]; exact ((Below.refl _ _).alloc (Nat.le_refl _) _).alloc (by simp) _
  have r1 : PA W (w.heap.size + 1) x 0 (.slice none 0 0) w.heap.size := by
    have := heap_alloc_new (w.alloc (.map #[] 0)) (.cells #[.int .i64 (x : Int), .int .i64 0, .slice none 0 0, .map (some w.heap.size)] 49)
    rw [World.size_alloc] at this
    rw [hW]; exact this
  have r2 : MapAt W w.heap.size 0 (cnt []) := by
    rw [hW]
    exact ((MapAt.new w).keep (Below.heap_alloc _ _ _ (by simp))).congr fun k => rfl
  have HE : Hid (Born w (w.heap.size + 1) ⟨x, 0, []⟩ W) := by
    refine ⟨w.heap.size, .slice none 0 0, [], ⟨r1, r2, Row.nil _ _, rfl, (fun y hy => by cases hy), ⟨h1, h2, by simp, fun y hy => by cases hy⟩⟩, hb, fun k hk => ?_⟩
    rcases hk with rfl | rfl | hk
    · omega
    · omega
    · cases hk
  have HW : Hid (W = (w.alloc (.map #[] 0)).alloc (.cells #[.int .i64 (x : Int), .int .i64 0, .slice none 0 0, .map (some w.heap.size)] 49)) := hW
  have hmm := @run_makeMap Try.prog
  clear hb r1 r2 hW h1 h2
  go_enter Try.func7, Try.ntmps7
  go_wp2
  rw [← HW.out]
  go_ret2
  exact ⟨_, rfl, HE.out⟩

theorem len_ok (w : World) (g m : Nat) (v : Value) (s : Bs) (ss : List Sl) (n : Nat) (h : Pb w g m v s ss n) : Calls Try.prog 17 #[.pointer (some ⟨g, 0, none⟩)] w fun e w' => e = .returned (.int .i64 (s.L.length : Int)) ∧ w' = w := by
  have hs := made_ok w g m h.at'.c3
  have c2 := h.at'.c2
  obtain ⟨a, cap, rfl, _⟩ := h.row.shape
  have hl : ss.length = s.L.length := by have := congrArg List.length h.its; simpa using this
  rw [hl] at c2
  clear h hl
  go_enter Try.func17, Try.ntmps17
  go_wp2_with fail
  refine hs.mono ?_
  rintro e w ⟨rfl, rfl⟩
  go_wp2
  go_ret
  exact ⟨rfl, rfl⟩
theorem lost_ok (w : World) (g m : Nat) (v : Value) (s : Bs) (ss : List Sl) (n : Nat) (h : Pb w g m v s ss n) : Calls Try.prog 18 #[.pointer (some ⟨g, 0, none⟩)] w fun e w' => e = .returned (.int .i64 (s.lost : Int)) ∧ w' = w := by
  have hs := made_ok w g m h.at'.c3
  have c1 := h.at'.c1
  clear h
  go_enter Try.func18, Try.ntmps18
  go_wp2_with fail
  refine hs.mono ?_
  rintro e w ⟨rfl, rfl⟩
  go_wp2
  go_ret
  exact ⟨rfl, rfl⟩
theorem count_ok (w : World) (g m : Nat) (v : Value) (s : Bs) (ss : List Sl) (n : Nat) (h : Pb w g m v s ss n) (k : Key) (hk : wfK k) : Calls Try.prog 19 #[.pointer (some ⟨g, 0, none⟩), .int .i64 k.1, .int .i64 k.2] w fun e w' => e = .returned (.int .i64 (cnt s.L k : Int)) ∧ w' = w := by
  have hs := made_ok w g m h.at'.c3
  have c3 := h.at'.c3
  have l := h.map.look hk
  simp only [keyV] at l
  clear h
  go_enter Try.func19, Try.ntmps19
  go_wp2_with fail
  refine hs.mono ?_
  rintro e w ⟨rfl, rfl⟩
  go_wp2
  go_ret
  exact ⟨rfl, rfl⟩

/-- What an act leaves. -/
def PLeft (w : World) (g m : Nat) (v : Value) (s : Bs) (n : Nat) (w' : World) : Prop := ∃ v' ss', Pb w' g m v' s ss' n ∧ Apart (Own g m v) w w' ∧ ∀ k, v'.ownBlock = some k → v.ownBlock = some k ∨ w.heap.size ≤ k
/-- A list of bytes of its own. -/
def Told (w : World) (B : Nat) (vo : Value) (L : List (List UInt8)) : Prop := ∃ os, Row E22 w vo os ∧ SeenB w os ∧ os.map Prod.fst = L ∧ ∀ k, vo.ownBlock = some k → B ≤ k
theorem Taken.left {w : World} {g m : Nat} {v : Value} {s : Bs} {n : Nat} {p : It → Bool} {M : Nat} {vo : Value} {w' : World} (h : Taken w g m v s n p M vo w') : PLeft w g m v { s with L := (split p M s.L).2 } (n + 64) w' ∧ Told w' w.heap.size vo ((split p M s.L).1.map It.b) := by
  obtain ⟨v', ss', os, h1, h2, h3, h4, h5, h6, h7⟩ := h
  exact ⟨⟨v', ss', h1, h6, fun k hk => .inl (by rw [← h2]; exact hk)⟩, os, h3, h4, h5, h7⟩
theorem call25 (args : Array Value) (W : World) : (callFunc 25 args).run Try.prog W = .ok (.enter 25 args) W := by simp [callFunc, Try.func25, Try.f25]
theorem call28 (args : Array Value) (W : World) : (callFunc 28 args).run Try.prog W = .ok (.enter 28 args) W := by simp [callFunc, Try.func28, Try.f28]

set_option maxHeartbeats 1600000 in
theorem take_ok (w : World) (g m : Nat) (v : Value) (s : Bs) (ss : List Sl) (n : Nat) (h : Pb w g m v s ss n) (hn : n ≤ 900000) (k : Key) (hk : wfK k) :
    Calls Try.prog 13 #[.pointer (some ⟨g, 0, none⟩), .int .i64 k.1, .int .i64 k.2] w fun e w' => ∃ vo, e = .returned vo ∧ PLeft w g m v (takeV s k) (n + 64) w' ∧ Told w' w.heap.size vo (takeL s k) := by
  have hs := made_ok w g m h.at'.c3
  have c0 := h.at'.c0
  have hm64 := h.ok.hi
  have K : Hid (Calls Try.prog 24 #[.pointer (some ⟨g, 0, none⟩), .int .i64 (s.most : Int), .func (.func 25) #[.agg #[.int .i64 k.1, .int .i64 k.2]] #[]] w fun e w' => ∃ vo, e = .returned vo ∧ PLeft w g m v (takeV s k) (n + 64) w' ∧ Told w' w.heap.size vo (takeL s k)) := by
    refine (takeOut_ok w g m v s ss n h hn s.most (by omega) (isK k) (fun j => decide (j = k)) (fun _ => rfl) 25 (keyV k) call25 (fun W j hj => is_ok W k j hk hj)).mono ?_
    rintro e w' ⟨vo, rfl, hT⟩
    have := hT.left
    rw [split_all (isK k) s.most s.L h.ok.len] at this
    exact ⟨vo, rfl, this⟩
  have hmf : ∀ (fn : Fn) (first cap : Array Value) (w : World), (Instr.makeFunc fn first cap).run Try.prog w = .ok (.func fn first cap) w := fun _ _ _ _ => rfl
  clear h hk
  go_enter Try.func13, Try.ntmps13
  go_wp2_with fail
  refine hs.mono ?_
  rintro e w ⟨rfl, rfl⟩
  go_wp2_with fail
  refine K.out.mono ?_
  rintro e w' ⟨vo, rfl, h1, h2⟩
  have HE : Hid (PLeft w g m v (takeV s k) (n + 64) w' ∧ Told w' w.heap.size vo (takeL s k)) := ⟨h1, h2⟩
  obtain ⟨os, hr, _⟩ := h2
  obtain ⟨va, vc, rfl, _⟩ := hr.shape
  clear h1 hr K
  go_wp2
  go_ret
  exact ⟨_, rfl, HE.out⟩
set_option maxHeartbeats 1600000 in
theorem drop_ok (w : World) (g m : Nat) (v : Value) (s : Bs) (ss : List Sl) (n : Nat) (h : Pb w g m v s ss n) (hn : n ≤ 900000) (k : Key) :
    Calls Try.prog 15 #[.pointer (some ⟨g, 0, none⟩), .int .i64 k.1, .int .i64 k.2] w fun e w' => e = .returned (.int .i64 (dropN s k : Int)) ∧ PLeft w g m v (dropV s k) (n + 64) w' := by
  have hs := made_ok w g m h.at'.c3
  have c0 := h.at'.c0
  have hm64 := h.ok.hi
  have K : Hid (Calls Try.prog 24 #[.pointer (some ⟨g, 0, none⟩), .int .i64 (s.most : Int), .func (.func 28) #[.agg #[.int .i64 k.1, .int .i64 k.2]] #[]] w fun e w' => ∃ a c, e = .returned (.slice a (dropN s k) c) ∧ PLeft w g m v (dropV s k) (n + 64) w') := by
    refine (takeOut_ok w g m v s ss n h hn s.most (by omega) (lowK k) (fun j => decide (j.1 < k.1) || (decide (j.1 = k.1) && decide (j.2 ≤ k.2))) (fun _ => rfl) 28 (keyV k) call28 (fun W j _ => low_ok W k j)).mono ?_
    rintro e w' ⟨vo, rfl, hT⟩
    have h2 := hT.left
    rw [split_all (lowK k) s.most s.L h.ok.len] at h2
    obtain ⟨os, h3, _, h4, _⟩ := h2.2
    obtain ⟨va, vc, rfl, _⟩ := h3.shape
    have e : os.length = dropN s k := by have := congrArg List.length h4; simpa [dropN] using this
    rw [e]
    exact ⟨va, vc, rfl, h2.1⟩
  have hmf : ∀ (fn : Fn) (first cap : Array Value) (w : World), (Instr.makeFunc fn first cap).run Try.prog w = .ok (.func fn first cap) w := fun _ _ _ _ => rfl
  clear h
  go_enter Try.func15, Try.ntmps15
  go_wp2_with fail
  refine hs.mono ?_
  rintro e w ⟨rfl, rfl⟩
  go_wp2_with fail
  refine K.out.mono ?_
  rintro e w' ⟨a, c, rfl, h1⟩
  have HE : Hid (PLeft w g m v (dropV s k) (n + 64) w') := h1
  clear h1 K
  go_wp2
  go_ret
  exact ⟨rfl, HE.out⟩
end Go.Proofs.Yteehkekmaikeiaa
