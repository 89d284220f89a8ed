/-
  Two buffers side by side, the program's and the document's, act by act; a box of a cell beside them.
-/
import Derived.Test.YteehkekmaikeiaaRefF
namespace Go.Proofs.Yteehkekmaikeiaa
open Go.ChangeShapes Go.WideShapes Go.ChangeAt Go.RowKit

theorem rput_any (w : World) (r : Nat) (v : Value) (s : Bs) (ss : List Sl) (h : Rb w r v s ss) (hlost : s.lost ≤ 1000000) (k1 k2 : Int) (xa : Option Addr) (xc : Nat) (x : List UInt8) (hx : Sees w xa xc x) :
    Calls Try.prog 11 #[.pointer (some ⟨r, 0, none⟩), .int .i64 k1, .int .i64 k2, .slice xa x.length xc] w fun e w' => e = .returned (.int .i64 (putE s k1 k2 x)) ∧ RLeft w r v (putV s k1 k2 x) w' := by
  cases ha : argB k1 k2 x
  · refine (rput_refused w r k1 k2 xa xc x ha).mono ?_
    rintro e w' ⟨rfl, rfl⟩
    rw [show putE s k1 k2 x = 1 by simp [putE, ha], show putV s k1 k2 x = s by simp [putV, ha]]
    exact ⟨rfl, RLeft.refl h (Below.refl _ _)⟩
  · exact rput_goes w r v s ss h hlost k1 k2 xa xc x hx ha

/-- A box of a cell of the law's own. -/
def XBox (w : World) (B : Nat) (k : Key) : Prop := w.heap[B]? = some (.cells #[.int .i64 k.1, .int .i64 k.2] 33 (0, 0))
theorem XBox.lt {w : World} {B : Nat} {k : Key} (h : XBox w B k) : B < w.heap.size := (Array.getElem?_eq_some_iff.1 h).1
theorem XBox.c0 {w : World} {B : Nat} {k : Key} (h : XBox w B k) : w.cell? ⟨B, 0, none⟩ = some (.int .i64 k.1) := cell_of_row _ _ 0 _ _ _ h
theorem XBox.c1 {w : World} {B : Nat} {k : Key} (h : XBox w B k) : w.cell? ⟨B, 1, none⟩ = some (.int .i64 k.2) := cell_of_row _ _ 1 _ _ _ h
theorem XBox.below {w w' : World} {B : Nat} {k : Key} (h : XBox w B k) (hb : Below w.heap.size w w') : XBox w' B k := (hb.block B h.lt).trans h
theorem XBox.pb {w : World} {B : Nat} {k : Key} (h : XBox w B k) {g m : Nat} {v : Value} {s : Bs} {ss : List Sl} {n : Nat} (hp : Pb w g m v s ss n) : ¬ Own g m v B := by
  unfold XBox at h
  rintro (rfl | rfl | hO)
  · have h2 := hp.at'
    unfold PA at h2
    rw [h2] at h; simp at h
  · obtain ⟨es, cl, h2⟩ := hp.map.isMap
    rw [h2] at h; cases h
  · obtain ⟨cur, h2, _⟩ := hp.row.isRow hO
    rw [h2] at h; cases h
theorem XBox.rb {w : World} {B : Nat} {k : Key} (h : XBox w B k) {r : Nat} {v : Value} {s : Bs} {ss : List Sl} (hp : Rb w r v s ss) : ¬ ROwn r v B := by
  unfold XBox at h
  rintro (rfl | hO)
  · have h2 := hp.at'
    unfold RA at h2
    rw [h2] at h; simp at h
  · obtain ⟨cur, h2, _⟩ := hp.row.isRow hO
    rw [h2] at h; cases h

/-- Both buffers, new since w and apart from each other, and the box; all that was in w stays. -/
def Duo (w W : World) (g r : Nat) (s t : Bs) (n : Nat) (B : Nat) (k : Key) : Prop :=
  ∃ m v ss u tt, Pb W g m v s ss n ∧ Rb W r u t tt ∧ (∀ j, Own g m v j → ¬ ROwn r u j) ∧ (∀ j, Own g m v j → w.heap.size ≤ j) ∧ (∀ j, ROwn r u j → w.heap.size ≤ j) ∧ Below w.heap.size w W ∧ XBox W B k
theorem Duo.low {w W : World} {g r : Nat} {s t : Bs} {n B : Nat} {k : Key} (h : Duo w W g r s t n B k) : Below w.heap.size w W := by
  obtain ⟨_, _, _, _, _, _, _, _, _, _, h, _⟩ := h; exact h
theorem Duo.box {w W : World} {g r : Nat} {s t : Bs} {n B : Nat} {k : Key} (h : Duo w W g r s t n B k) : XBox W B k := by
  obtain ⟨_, _, _, _, _, _, _, _, _, _, _, h⟩ := h; exact h
theorem Duo.below {w W W' : World} {g r : Nat} {s t : Bs} {n B : Nat} {k : Key} (h : Duo w W g r s t n B k) (hb : Below W.heap.size W W') : Duo w W' g r s t n B k := by
  obtain ⟨m, v, ss, u, tt, h1, h2, h3, h4, h5, h6, h7⟩ := h
  exact ⟨m, v, ss, u, tt, h1.below hb, h2.below hb, h3, h4, h5, h6.trans (hb.mono h6.size), h7.below hb⟩
/-- Both buffers without a box. -/
def Duo0 (w W : World) (g r : Nat) (s t : Bs) (n : Nat) : Prop :=
  ∃ m v ss u tt, Pb W g m v s ss n ∧ Rb W r u t tt ∧ (∀ j, Own g m v j → ¬ ROwn r u j) ∧ (∀ j, Own g m v j → w.heap.size ≤ j) ∧ (∀ j, ROwn r u j → w.heap.size ≤ j) ∧ Below w.heap.size w W
theorem Duo.base {w W : World} {g r : Nat} {s t : Bs} {n B : Nat} {k : Key} (h : Duo w W g r s t n B k) : Duo0 w W g r s t n := by
  obtain ⟨m, v, ss, u, tt, h1, h2, h3, h4, h5, h6, _⟩ := h
  exact ⟨m, v, ss, u, tt, h1, h2, h3, h4, h5, h6⟩
theorem Duo0.low {w W : World} {g r : Nat} {s t : Bs} {n : Nat} (h : Duo0 w W g r s t n) : Below w.heap.size w W := by
  obtain ⟨_, _, _, _, _, _, _, _, _, _, h⟩ := h; exact h
theorem Duo0.drewN {w W : World} {g r : Nat} {s t : Bs} {n : Nat} (h : Duo0 w W g r s t n) (i : Nat) : Duo0 w (W.drewN i) g r s t n := by
  obtain ⟨m, v, ss, u, tt, h1, h2, h3, h4, h5, h6⟩ := h
  have hb : Below W.heap.size W (W.drewN i) := below_drewN (Below.refl _ _) i
  exact ⟨m, v, ss, u, tt, h1.below hb, h2.below hb, h3, h4, h5, below_drewN h6 i⟩
theorem Duo0.with {w W W' : World} {g r : Nat} {s t : Bs} {n C : Nat} {j : Key} (h : Duo0 w W g r s t n) (hb : Below W.heap.size W W') (hx : XBox W' C j) : Duo w W' g r s t n C j := by
  obtain ⟨m, v, ss, u, tt, h1, h2, h3, h4, h5, h6⟩ := h
  exact ⟨m, v, ss, u, tt, h1.below hb, h2.below hb, h3, h4, h5, h6.trans (hb.mono h6.size), hx⟩
theorem Born.duo {w W W' : World} {g : Nat} {s : Bs} (h : Born w g s W) (hb : Below W.heap.size W W') (hr : Rb W' W.heap.size (.slice none 0 0) s []) : Duo0 w W' g W.heap.size s s 0 := by
  obtain ⟨m, v, ss, h1, h2, h3⟩ := h
  refine ⟨m, v, ss, _, [], h1.below hb, hr, fun j hj hj2 => ?_, h3, fun j hj => ?_, h2.trans (hb.mono h2.size)⟩
  · have := h1.lt hj
    rcases hj2 with rfl | hj2
    · omega
    · cases hj2
  · rcases hj with rfl | hj
    · exact h2.size
    · cases hj
/-- Another box. -/
theorem Duo.rebox {w W W' : World} {g r : Nat} {s t : Bs} {n B C : Nat} {k j : Key} (h : Duo w W g r s t n B k) (hb : Below W.heap.size W W') (hx : XBox W' C j) : Duo w W' g r s t n C j := by
  obtain ⟨m, v, ss, u, tt, h1, h2, h3, h4, h5, h6, h7⟩ := h.below hb
  exact ⟨m, v, ss, u, tt, h1, h2, h3, h4, h5, h6, hx⟩
theorem Duo.mono {w W : World} {g r : Nat} {s t : Bs} {n n' B : Nat} {k : Key} (h : Duo w W g r s t n B k) (hn : n ≤ n') : Duo w W g r s t n' B k := by
  obtain ⟨m, v, ss, u, tt, h1, h2⟩ := h
  exact ⟨m, v, ss, u, tt, h1.mono hn, h2⟩
/-- An act of the program's. -/
theorem duo_act {w W W' : World} {g r m : Nat} {v u : Value} {s s' t : Bs} {ss tt : List Sl} {n n' B : Nat} {k : Key} (h1 : Pb W g m v s ss n) (h2 : Rb W r u t tt) (h3 : ∀ j, Own g m v j → ¬ ROwn r u j) (h4 : ∀ j, Own g m v j → w.heap.size ≤ j) (h5 : ∀ j, ROwn r u j → w.heap.size ≤ j) (h6 : Below w.heap.size w W) (h7 : XBox W B k)
    (hp : PLeft W g m v s' n' W') : Duo w W' g r s' t n' B k := by
  obtain ⟨v', ss', hg, ha, hs⟩ := hp
  have hO : ∀ j, Own g m v' j → Own g m v j ∨ W.heap.size ≤ j := fun j hj => by
    rcases hj with rfl | rfl | hj
    · exact .inl (.inl rfl)
    · exact .inl (.inr (.inl rfl))
    · rcases hs j hj with h | h
      · exact .inl (.inr (.inr h))
      · exact .inr h
  refine ⟨m, v', ss', u, tt, hg, h2.apart ha h3 (fun j hj => h1.plain hj), fun j hj hr => ?_, fun j hj => ?_, h5, ha.below h6 h4 h6.size, (ha.block B h7.lt (h7.pb h1)).trans h7⟩
  · rcases hO j hj with h | h
    · exact h3 j h hr
    · have := h2.lt hr; omega
  · rcases hO j hj with h | h
    · exact h4 j h
    · exact Nat.le_trans h6.size h
/-- An act of the document's. -/
theorem duo_ract {w W W' : World} {g r m : Nat} {v u : Value} {s t t' : Bs} {ss tt : List Sl} {n B : Nat} {k : Key} (h1 : Pb W g m v s ss n) (h2 : Rb W r u t tt) (h3 : ∀ j, Own g m v j → ¬ ROwn r u j) (h4 : ∀ j, Own g m v j → w.heap.size ≤ j) (h5 : ∀ j, ROwn r u j → w.heap.size ≤ j) (h6 : Below w.heap.size w W) (h7 : XBox W B k)
    (hp : RLeft W r u t' W') : Duo w W' g r s t' n B k := by
  obtain ⟨u', tt', hg, ha, hs⟩ := hp
  have hO : ∀ j, ROwn r u' j → ROwn r u j ∨ W.heap.size ≤ j := fun j hj => by
    rcases hj with rfl | hj
    · exact .inl (.inl rfl)
    · rcases hs j hj with h | h
      · exact .inl (.inr h)
      · exact .inr h
  have hr0 : ∀ j, j = r → ROwn r u j := fun j e => .inl e
  refine ⟨m, v, ss, u', tt', h1.apart ha (fun j hj ho => h3 j ho (hr0 j hj)) (fun j hj => h2.plain (hr0 j hj)), hg, fun j hj hr => ?_, h4, fun j hj => ?_, ha.below h6 (fun j hj => h5 j (hr0 j hj)) h6.size, (ha.block B h7.lt (fun e => h7.rb h2 (hr0 B e))).trans h7⟩
  · rcases hO j hr with h | h
    · exact h3 j hj h
    · have := h1.lt hj; omega
  · rcases hO j hj with h | h
    · exact h5 j h
    · exact Nat.le_trans h6.size h
theorem Duo.put {w W : World} {g r : Nat} {s t : Bs} {n B : Nat} {k : Key} (h : Duo w W g r s t n B k) (hn : n ≤ 800000) (hl : s.lost ≤ 1000000) (k1 k2 : Int) (xa : Option Addr) (xc : Nat) (x : List UInt8) (hx : Sees w xa xc x) :
    Calls Try.prog 10 #[.pointer (some ⟨g, 0, none⟩), .int .i64 k1, .int .i64 k2, .slice xa x.length xc] W fun e w' => e = .returned (.int .i64 (putE s k1 k2 x)) ∧ Duo w w' g r (putV s k1 k2 x) t (n + 65) B k := by
  obtain ⟨m, v, ss, u, tt, h1, h2, h3, h4, h5, h6, h7⟩ := h
  exact (put_any W g m v s ss n h1 hn hl k1 k2 xa xc x (hx.below h6)).mono fun _ _ ⟨he, hp⟩ => ⟨he, duo_act h1 h2 h3 h4 h5 h6 h7 hp⟩
theorem Duo.rput {w W : World} {g r : Nat} {s t : Bs} {n B : Nat} {k : Key} (h : Duo w W g r s t n B k) (hl : t.lost ≤ 1000000) (k1 k2 : Int) (xa : Option Addr) (xc : Nat) (x : List UInt8) (hx : Sees w xa xc x) :
    Calls Try.prog 11 #[.pointer (some ⟨r, 0, none⟩), .int .i64 k1, .int .i64 k2, .slice xa x.length xc] W fun e w' => e = .returned (.int .i64 (putE t k1 k2 x)) ∧ Duo w w' g r s (putV t k1 k2 x) n B k := by
  obtain ⟨m, v, ss, u, tt, h1, h2, h3, h4, h5, h6, h7⟩ := h
  exact (rput_any W r u t tt h2 hl k1 k2 xa xc x (hx.below h6)).mono fun _ _ ⟨he, hp⟩ => ⟨he, duo_ract h1 h2 h3 h4 h5 h6 h7 hp⟩
theorem Duo.drop {w W : World} {g r : Nat} {s t : Bs} {n B : Nat} {k : Key} (h : Duo w W g r s t n B k) (hn : n ≤ 800000) (j : Key) :
    Calls Try.prog 15 #[.pointer (some ⟨g, 0, none⟩), .int .i64 j.1, .int .i64 j.2] W fun e w' => e = .returned (.int .i64 (dropN s j : Int)) ∧ Duo w w' g r (dropV s j) t (n + 65) B k := by
  obtain ⟨m, v, ss, u, tt, h1, h2, h3, h4, h5, h6, h7⟩ := h
  exact (drop_ok W g m v s ss n h1 (by omega) j).mono fun _ _ ⟨he, hp⟩ => ⟨he, (duo_act h1 h2 h3 h4 h5 h6 h7 hp).mono (by omega)⟩
theorem Duo.rdrop {w W : World} {g r : Nat} {s t : Bs} {n B : Nat} {k : Key} (h : Duo w W g r s t n B k) (j : Key) :
    Calls Try.prog 16 #[.pointer (some ⟨r, 0, none⟩), .int .i64 j.1, .int .i64 j.2] W fun e w' => e = .returned (.int .i64 (dropN t j : Int)) ∧ Duo w w' g r s (dropV t j) n B k := by
  obtain ⟨m, v, ss, u, tt, h1, h2, h3, h4, h5, h6, h7⟩ := h
  exact (rdrop_ok W r u t tt h2 j).mono fun _ _ ⟨he, hp⟩ => ⟨he, duo_ract h1 h2 h3 h4 h5 h6 h7 hp⟩
/-- Both Takes. -/
theorem Duo.take {w W : World} {g r : Nat} {s t : Bs} {n B : Nat} {k : Key} (h : Duo w W g r s t n B k) (hn : n ≤ 800000) (j : Key) (hj : wfK j) :
    Calls Try.prog 13 #[.pointer (some ⟨g, 0, none⟩), .int .i64 j.1, .int .i64 j.2] W fun e w' => ∃ va vn vc, e = .returned (.slice va vn vc) ∧ Duo w w' g r (takeV s j) t (n + 65) B k ∧ Calls Try.prog 14 #[.pointer (some ⟨r, 0, none⟩), .int .i64 j.1, .int .i64 j.2] w' fun e w2 => ∃ ua un uc, e = .returned (.slice ua un uc) ∧ Duo w w2 g r (takeV s j) (takeV t j) (n + 65) B k ∧ Lst w2 (.slice va vn vc) (takeL s j) ∧ Lst w2 (.slice ua un uc) (takeL t j) := by
  obtain ⟨m, v, ss, u, tt, h1, h2, h3, h4, h5, h6, h7⟩ := h
  refine (take_ok W g m v s ss n h1 (by omega) j hj).mono ?_
  rintro e w' ⟨vo, rfl, hp, ho⟩
  have hD := (duo_act h1 h2 h3 h4 h5 h6 h7 hp).mono (show n + 64 ≤ n + 65 by omega)
  have hr := h2.at'.lt
  obtain ⟨os, o1, o2, o3, o4⟩ := ho
  obtain ⟨va, vc, rfl, -⟩ := o1.shape
  refine ⟨va, _, vc, rfl, hD, ?_⟩
  obtain ⟨m', v', ss', u', tt', q1, q2, q3, q4, q5, q6, q7⟩ := hD
  refine (rtake_ok w' r u' t tt' q2 j).mono ?_
  rintro e w2 ⟨vo2, rfl, hp2, ho2⟩
  have hD2 := duo_ract q1 q2 q3 q4 q5 q6 q7 hp2
  obtain ⟨_, _, _, ha2, _⟩ := hp2
  have hl2 := ho2.lst
  obtain ⟨ua, uc, rfl, -, -⟩ := hl2.shape
  exact ⟨ua, _, uc, rfl, hD2, ⟨os, o1.apart ha2 fun i hi e => by have := o4 i hi; omega, o2.apart ha2 fun i hi => q2.plain (.inl hi), o3⟩, hl2⟩
/-- What is told of both. -/
theorem Duo.tells {w W : World} {g r : Nat} {s : Bs} {n B : Nat} {k : Key} (h : Duo w W g r s s n B k) (j : Key) (hj : wfK j) :
    (∀ i, Calls Try.prog 17 #[.pointer (some ⟨g, 0, none⟩)] (W.drewN i) fun e w' => e = .returned (.int .i64 (s.L.length : Int)) ∧ w' = W.drewN i) ∧ (∀ i, Calls Try.prog 18 #[.pointer (some ⟨g, 0, none⟩)] (W.drewN i) fun e w' => e = .returned (.int .i64 (s.lost : Int)) ∧ w' = W.drewN i) ∧
    (∀ i, Calls Try.prog 19 #[.pointer (some ⟨g, 0, none⟩), .int .i64 j.1, .int .i64 j.2] (W.drewN i) fun e w' => e = .returned (.int .i64 (cnt s.L j : Int)) ∧ w' = W.drewN i) ∧ (∀ i, Calls Try.prog 20 #[.pointer (some ⟨r, 0, none⟩), .int .i64 j.1, .int .i64 j.2] (W.drewN i) fun e w' => e = .returned (.int .i64 (cnt s.L j : Int)) ∧ w' = W.drewN i) ∧
    (∃ a c, W.cell? ⟨r, 1, none⟩ = some (.slice a s.L.length c)) ∧ W.cell? ⟨r, 2, none⟩ = some (.int .i64 (s.lost : Int)) := by
  obtain ⟨m, v, ss, u, tt, h1, h2, h3, h4, h5, h6, h7⟩ := h
  have hb : ∀ i, Below W.heap.size W (W.drewN i) := fun i => below_drewN (Below.refl _ _) i
  refine ⟨fun i => len_ok _ g m v s ss n (h1.below (hb i)), fun i => lost_ok _ g m v s ss n (h1.below (hb i)), fun i => count_ok _ g m v s ss n (h1.below (hb i)) j hj, fun i => rcount_ok _ r u s tt (h2.below (hb i)) j, ?_, h2.at'.c2⟩
  obtain ⟨a, c, rfl, -⟩ := h2.row.shape
  have := h2.at'.c1
  rw [h2.len.1] at this
  exact ⟨a, c, this⟩
end Go.Proofs.Yteehkekmaikeiaa
