/-
  A frame by value, and in memory. The contracts of upTo, rightNumbers and rightLists.

  What a hand must say, whichever it is; the contracts of number.
-/
import Derived.Test.YtaihjnaggmmiiaaGreatDoorFrameMath
import Derived.Test.YtaihjnaggmmiiaaGreatDoorRows
import Derived.Test.YtaihjnaggmmiiaaGreatDoorGround
import Derived.Lib.SmallJoins
namespace Go.Proofs.YtaihjnaggmmiiaaGreatDoor
open Go.ChangeShapes Go.WideShapes Go.ChangeAt Go.RowKit

/-- Where a frame's lists lie. -/
structure At where
  ka : Option Addr
  kc : Nat
  ba : Option Addr
  bc : Nat
  ta : Option Addr
  tc : Nat
def At.zero : At := ⟨none, 0, none, 0, none, 0⟩
/-- The lists read as the frame's. -/
structure Seen (w : World) (F : Fr) (A : At) : Prop where
  key : Sees w A.ka A.kc F.key
  body : Sees w A.ba A.bc F.body
  tag : Sees w A.ta A.tc F.tag
theorem Seen.below {w w' : World} {F : Fr} {A : At} (h : Seen w F A) (hb : Below w.heap.size w w') : Seen w' F A := ⟨h.key.below hb, h.body.below hb, h.tag.below hb⟩
theorem Seen.zero (w : World) : Seen w Fr.zero At.zero := ⟨Sees.nil' w, Sees.nil' w, Sees.nil' w⟩
def frL (F : Fr) (A : At) : List Value :=
  [.int .i64 F.k, .int .i64 F.f, .int .i64 F.t, .int .i64 F.e, .int .i64 F.s, .int .i64 F.r, .int .u64 (F.n : Int), .int .i64 F.m, .int .i64 F.v, .int .i64 F.i,
    .slice A.ka F.key.length A.kc, .slice A.ba F.body.length A.bc, .slice A.ta F.tag.length A.tc]
def frC (F : Fr) (A : At) : Array Value := (frL F A).toArray
theorem frC_size (F : Fr) (A : At) : (frC F A).size = 13 := rfl
theorem frC_one (F : Fr) (A : At) : (frC F A).all (·.oneCell') = true := all_oneCell_toArray (by
  intro v hv
  simp only [frL, List.mem_cons, List.not_mem_nil, or_false] at hv
  rcases hv with rfl | rfl | rfl | rfl | rfl | rfl | rfl | rfl | rfl | rfl | rfl | rfl | rfl <;> rfl)

/-- A frame in block g. -/
def FrAt (w : World) (g : Nat) (F : Fr) (A : At) : Prop := w.heap[g]? = some (.cells (frC F A) 25 (0, 0))
theorem FrAt.cell {w : World} {g : Nat} {F : Fr} {A : At} (h : FrAt w g F A) (i : Nat) {u : Value} (hu : (frL F A)[i]? = some u) : w.cell? ⟨g, i, none⟩ = some u := by
  rw [cell_of_row w _ i _ _ _ h]; simpa [frC] using hu
theorem FrAt.c0 {w : World} {g : Nat} {F : Fr} {A : At} (h : FrAt w g F A) : w.cell? ⟨g, 0, none⟩ = some (.int .i64 F.k) := h.cell 0 rfl
theorem FrAt.c1 {w : World} {g : Nat} {F : Fr} {A : At} (h : FrAt w g F A) : w.cell? ⟨g, 1, none⟩ = some (.int .i64 F.f) := h.cell 1 rfl
theorem FrAt.c2 {w : World} {g : Nat} {F : Fr} {A : At} (h : FrAt w g F A) : w.cell? ⟨g, 2, none⟩ = some (.int .i64 F.t) := h.cell 2 rfl
theorem FrAt.c3 {w : World} {g : Nat} {F : Fr} {A : At} (h : FrAt w g F A) : w.cell? ⟨g, 3, none⟩ = some (.int .i64 F.e) := h.cell 3 rfl
theorem FrAt.c4 {w : World} {g : Nat} {F : Fr} {A : At} (h : FrAt w g F A) : w.cell? ⟨g, 4, none⟩ = some (.int .i64 F.s) := h.cell 4 rfl
theorem FrAt.c5 {w : World} {g : Nat} {F : Fr} {A : At} (h : FrAt w g F A) : w.cell? ⟨g, 5, none⟩ = some (.int .i64 F.r) := h.cell 5 rfl
theorem FrAt.c6 {w : World} {g : Nat} {F : Fr} {A : At} (h : FrAt w g F A) : w.cell? ⟨g, 6, none⟩ = some (.int .u64 (F.n : Int)) := h.cell 6 rfl
theorem FrAt.c7 {w : World} {g : Nat} {F : Fr} {A : At} (h : FrAt w g F A) : w.cell? ⟨g, 7, none⟩ = some (.int .i64 F.m) := h.cell 7 rfl
theorem FrAt.c8 {w : World} {g : Nat} {F : Fr} {A : At} (h : FrAt w g F A) : w.cell? ⟨g, 8, none⟩ = some (.int .i64 F.v) := h.cell 8 rfl
theorem FrAt.c9 {w : World} {g : Nat} {F : Fr} {A : At} (h : FrAt w g F A) : w.cell? ⟨g, 9, none⟩ = some (.int .i64 F.i) := h.cell 9 rfl
theorem FrAt.c10 {w : World} {g : Nat} {F : Fr} {A : At} (h : FrAt w g F A) : w.cell? ⟨g, 10, none⟩ = some (.slice A.ka F.key.length A.kc) := h.cell 10 rfl
theorem FrAt.c11 {w : World} {g : Nat} {F : Fr} {A : At} (h : FrAt w g F A) : w.cell? ⟨g, 11, none⟩ = some (.slice A.ba F.body.length A.bc) := h.cell 11 rfl
theorem FrAt.c12 {w : World} {g : Nat} {F : Fr} {A : At} (h : FrAt w g F A) : w.cell? ⟨g, 12, none⟩ = some (.slice A.ta F.tag.length A.tc) := h.cell 12 rfl
theorem FrAt.fz {w : World} {g : Nat} {F : Fr} {A : At} (h : FrAt w g F A) (i : Nat) : w.frozen? ⟨g, i, none⟩ = false := frozen_of_row _ _ i _ _ h
theorem FrAt.lt {w : World} {g : Nat} {F : Fr} {A : At} (h : FrAt w g F A) : g < w.heap.size := (Array.getElem?_eq_some_iff.1 h).1
theorem FrAt.keep {w w' : World} {g : Nat} {F : Fr} {A : At} (h : FrAt w g F A) (hb : w'.heap[g]? = w.heap[g]?) : FrAt w' g F A := hb.trans h
theorem FrAt.below {w w' : World} {g : Nat} {F : Fr} {A : At} (h : FrAt w g F A) (hb : Below w.heap.size w w') : FrAt w' g F A := h.keep (hb.block g h.lt)
theorem FrAt.new (w : World) (F : Fr) (A : At) : FrAt (w.alloc (.cells (frC F A) 25)) w.heap.size F A := heap_alloc_new _ _
theorem FrAt.alloc {w : World} {g : Nat} {F : Fr} {A : At} (h : FrAt w g F A) (o : Obj) : FrAt (w.alloc o) g F A := by
  show (w.heap.push o)[g]? = _
  rw [Array.getElem?_push, if_neg (Nat.ne_of_lt h.lt)]; exact h
/-- Loaded whole, stored whole, and as a result. -/
theorem FrAt.loads {w : World} {g : Nat} {F : Fr} {A : At} (h : FrAt w g F A) : (Instr.loadAt 25 (.pointer (some ⟨g, 0, none⟩))).run Tryz.prog w = .ok (.agg (frC F A)) w :=
  loadAt_row w g 25 25 _ (0, 0) _ h Tryz.underlying25 rfl (by rw [frC_size]; kernel_rfl)
theorem FrAt.stores {w : World} {g : Nat} {F : Fr} {A : At} (h : FrAt w g F A) (G : Fr) (B : At) : (Instr.storeAt 25 (.pointer (some ⟨g, 0, none⟩)) (.agg (frC G B))).run Tryz.prog w = .ok () (w.setRow g (frC G B)) :=
  storeAt_row w g 25 25 _ _ h (by rw [frC_size]; kernel_rfl) rfl (frC_one G B)
theorem FrAt.stored {w : World} {g : Nat} {F : Fr} {A : At} (h : FrAt w g F A) (G : Fr) (B : At) : FrAt (w.setRow g (frC G B)) g G B := setRow_heap _ _ _ _ 25 _ h
theorem res_fr {fn : Func} {p : Tmp} (h : fn.results = #[.cell p 25]) {tmps : Array Value} {w : World} {g : Nat} {F : Fr} {A : At} (hp : tmps.getD p undef = .pointer (some ⟨g, 0, none⟩)) (hg : FrAt w g F A) :
    (results fn tmps).run Tryz.prog w = .ok (.agg (frC F A)) w :=
  results_cell_row h tmps w g 25 _ (0, 0) _ hp hg Tryz.underlying25 rfl (by rw [frC_size]; kernel_rfl)
theorem res_fr_tmp {fn : Func} {p q : Tmp} (h : fn.results = #[.cell p 25, .tmp q]) {tmps : Array Value} {w : World} {g : Nat} {F : Fr} {A : At} (hp : tmps.getD p undef = .pointer (some ⟨g, 0, none⟩)) (hg : FrAt w g F A) :
    (results fn tmps).run Tryz.prog w = .ok (.tuple #[.agg (frC F A), tmps.getD q undef]) w :=
  results_cell_tmp h tmps w g 25 _ (0, 0) _ hp hg Tryz.underlying25 rfl (by rw [frC_size]; kernel_rfl)
/-- A field stored. -/
theorem FrAt.put {w : World} {g : Nat} {F G : Fr} {A B : At} (h : FrAt w g F A) (i : Nat) (u : Value) (hl : (frL F A).set i u = frL G B) : FrAt (w.setCell ⟨g, i, none⟩ u) g G B := by
  show (w.setCell ⟨g, i, none⟩ u).heap[g]? = _
  rw [heap_setCell_same _ _ _ _ _ _ h]
  congr 2
  show ((frL F A).toArray).setIfInBounds i u = (frL G B).toArray
  rw [List.setIfInBounds_toArray, hl]

set_option maxHeartbeats 800000 in
set_option maxRecDepth 20000 in
theorem upto_ok (w : World) (n m : Int) : Calls Tryz.prog 108 #[.int .i64 n, .int .i64 m] w fun e w' => e = .returned (.bool (inB n m)) ∧ w' = w := by
  by_cases h0 : 0 ≤ n
  · by_cases h1 : n ≤ m
    · have e : inB n m = true := by simp [inB]; omega
      rw [e]
      clear e
      go_enter Tryz.func108, Tryz.ntmps108
      go_wp2
      go_ret
      exact ⟨rfl, rfl⟩
    · have e : inB n m = false := by simp [inB]; omega
      rw [e]
      clear e
      go_enter Tryz.func108, Tryz.ntmps108
      go_wp2
      go_ret
      exact ⟨rfl, rfl⟩
  · have e : inB n m = false := by simp [inB]; omega
    rw [e]
    clear e
    go_enter Tryz.func108, Tryz.ntmps108
    go_wp2
    go_ret
    exact ⟨rfl, rfl⟩
set_option maxHeartbeats 800000 in
set_option maxRecDepth 20000 in
theorem upto64_ok (w : World) (n m : Int) : Calls Tryz.prog 109 #[.int .i64 n, .int .i64 m] w fun e w' => e = .returned (.bool (inB n m)) ∧ w' = w := by
  by_cases h0 : 0 ≤ n
  · by_cases h1 : n ≤ m
    · have e : inB n m = true := by simp [inB]; omega
      rw [e]
      clear e
      go_enter Tryz.func109, Tryz.ntmps109
      go_wp2
      go_ret
      exact ⟨rfl, rfl⟩
    · have e : inB n m = false := by simp [inB]; omega
      rw [e]
      clear e
      go_enter Tryz.func109, Tryz.ntmps109
      go_wp2
      go_ret
      exact ⟨rfl, rfl⟩
  · have e : inB n m = false := by simp [inB]; omega
    rw [e]
    clear e
    go_enter Tryz.func109, Tryz.ntmps109
    go_wp2
    go_ret
    exact ⟨rfl, rfl⟩
set_option maxHeartbeats 800000 in
set_option maxRecDepth 20000 in
theorem within_ok (w : World) (n m : Int) : Calls Tryz.prog 68 #[.int .i64 n, .int .i64 m] w fun e w' => e = .returned (.bool (inB n m)) ∧ w' = w := by
  by_cases h0 : 0 ≤ n
  · by_cases h1 : n ≤ m
    · have e : inB n m = true := by simp [inB]; omega
      rw [e]
      clear e
      go_enter Tryz.func68, Tryz.ntmps68
      go_wp2
      go_ret
      exact ⟨rfl, rfl⟩
    · have e : inB n m = false := by simp [inB]; omega
      rw [e]
      clear e
      go_enter Tryz.func68, Tryz.ntmps68
      go_wp2
      go_ret
      exact ⟨rfl, rfl⟩
  · have e : inB n m = false := by simp [inB]; omega
    rw [e]
    clear e
    go_enter Tryz.func68, Tryz.ntmps68
    go_wp2
    go_ret
    exact ⟨rfl, rfl⟩
set_option maxHeartbeats 1600000 in
set_option maxRecDepth 20000 in
theorem rnums_ok (w : World) (F : Fr) (A : At) : Calls Tryz.prog 83 #[.agg (frC F A)] w fun e w' => e = .returned (.bool (numsB F)) ∧ w' = w.alloc (.cells (frC F A) 25) := by
  have hN := FrAt.new w F A
  have k1 := hN.c1
  have k2 := hN.c2
  have k3 := hN.c3
  have k4 := hN.c4
  have k5 := hN.c5
  have k7 := hN.c7
  have k8 := hN.c8
  have k9 := hN.c9
  clear hN
  have u1 := upto_ok (w.alloc (.cells (frC F A) 25)) F.f 7
  have u2 := upto_ok (w.alloc (.cells (frC F A) 25)) F.t 7
  have u3 := upto_ok (w.alloc (.cells (frC F A) 25)) F.e 65535
  have u4 := upto_ok (w.alloc (.cells (frC F A) 25)) F.s 1048576
  have u5 := upto_ok (w.alloc (.cells (frC F A) 25)) F.r 1048576
  have u6 := upto64_ok (w.alloc (.cells (frC F A) 25)) F.m 1099511627776
  have u7 := upto_ok (w.alloc (.cells (frC F A) 25)) F.v 255
  have u8 := upto_ok (w.alloc (.cells (frC F A) 25)) F.i 256
  unfold numsB
  generalize inB F.f 7 = b1 at *
  generalize inB F.t 7 = b2 at *
  generalize inB F.e 65535 = b3 at *
  generalize inB F.s 1048576 = b4 at *
  generalize inB F.r 1048576 = b5 at *
  generalize inB F.m 1099511627776 = b6 at *
  generalize inB F.v 255 = b7 at *
  generalize inB F.i 256 = b8 at *
  go_enter Tryz.func83, Tryz.ntmps83
  go_wp2_with fail
  refine u1.mono ?_
  rintro e w1 ⟨rfl, rfl⟩
  clear u1
  cases b1
  · go_wp2
    go_ret
    exact ⟨rfl, rfl⟩
  go_wp2_with fail
  refine u2.mono ?_
  rintro e w1 ⟨rfl, rfl⟩
  clear u2
  cases b2
  · go_wp2
    go_ret
    exact ⟨rfl, rfl⟩
  go_wp2_with fail
  refine u3.mono ?_
  rintro e w1 ⟨rfl, rfl⟩
  clear u3
  cases b3
  · go_wp2
    go_ret
    exact ⟨rfl, rfl⟩
  go_wp2_with fail
  refine u4.mono ?_
  rintro e w1 ⟨rfl, rfl⟩
  clear u4
  cases b4
  · go_wp2
    go_ret
    exact ⟨rfl, rfl⟩
  go_wp2_with fail
  refine u5.mono ?_
  rintro e w1 ⟨rfl, rfl⟩
  clear u5
  cases b5
  · go_wp2
    go_ret
    exact ⟨rfl, rfl⟩
  go_wp2_with fail
  refine u6.mono ?_
  rintro e w1 ⟨rfl, rfl⟩
  clear u6
  cases b6
  · go_wp2
    go_ret
    exact ⟨rfl, rfl⟩
  go_wp2_with fail
  refine u7.mono ?_
  rintro e w1 ⟨rfl, rfl⟩
  clear u7
  cases b7
  · go_wp2
    go_ret
    exact ⟨rfl, rfl⟩
  go_wp2_with fail
  refine u8.mono ?_
  rintro e w1 ⟨rfl, rfl⟩
  clear u8
  go_wp2
  go_ret
  exact ⟨rfl, rfl⟩

/-- Key and Body are as long as they may be. -/
def listsB (F : Fr) : Bool := decide (F.key.length = if F.k = 2 then 0 else 16) && decide (F.body.length ≤ 16)
set_option maxHeartbeats 1600000 in
set_option maxRecDepth 20000 in
theorem rlists_ok (w : World) (F : Fr) (A : At) (hB : F.body.length ≤ 9223372036854775807) : Calls Tryz.prog 84 #[.agg (frC F A)] w fun e w' => e = .returned (.bool (listsB F)) ∧ w' = w.alloc (.cells (frC F A) 25) := by
  have hN := FrAt.new w F A
  have k0 := hN.c0
  have k10 := hN.c10
  have k11 := hN.c11
  clear hN
  obtain ⟨b, hb⟩ : ∃ b, b = listsB F := ⟨_, rfl⟩
  rw [← hb]
  unfold listsB at hb
  obtain ⟨K, eK⟩ : ∃ K, K = F.key.length := ⟨_, rfl⟩
  obtain ⟨B, eB⟩ : ∃ B, B = F.body.length := ⟨_, rfl⟩
  rw [← eK] at hb k10
  rw [← eB] at hb k11 hB
  clear eK eB
  by_cases h2 : F.k = 2
  · rw [if_pos h2] at hb
    have g2 : (F.k == 2) = true := by simp [h2]
    by_cases hk : K = 0
    · have gk : ((K : Int) == 0) = true := by simp [hk]
      by_cases h16 : B ≤ 16
      · have gB : decide ((B : Int) ≤ 16) = true := by simp; omega
        have e : b = true := by rw [hb]; simp [hk, h16]
        rw [e]
        clear hb h2 e
        go_enter Tryz.func84, Tryz.ntmps84
        go_wp2
        go_ret
        exact ⟨rfl, rfl⟩
      · have gB : decide ((B : Int) ≤ 16) = false := by simp; omega
        have e : b = false := by rw [hb]; simp [h16]
        rw [e]
        clear hb h2 e
        go_enter Tryz.func84, Tryz.ntmps84
        go_wp2
        go_ret
        exact ⟨rfl, rfl⟩
    · have gk : ((K : Int) == 0) = false := by simp [hk]
      have e : b = false := by rw [hb]; simp [hk]
      rw [e]
      clear hb h2 e
      go_enter Tryz.func84, Tryz.ntmps84
      go_wp2
      go_ret
      exact ⟨rfl, rfl⟩
  · rw [if_neg h2] at hb
    have g2 : (F.k == 2) = false := by simp [h2]
    by_cases hk : K = 16
    · have gk : ((K : Int) == 16) = true := by simp [hk]
      by_cases h16 : B ≤ 16
      · have gB : decide ((B : Int) ≤ 16) = true := by simp; omega
        have e : b = true := by rw [hb]; simp [hk, h16]
        rw [e]
        clear hb h2 e
        go_enter Tryz.func84, Tryz.ntmps84
        go_wp2
        go_ret
        exact ⟨rfl, rfl⟩
      · have gB : decide ((B : Int) ≤ 16) = false := by simp; omega
        have e : b = false := by rw [hb]; simp [h16]
        rw [e]
        clear hb h2 e
        go_enter Tryz.func84, Tryz.ntmps84
        go_wp2
        go_ret
        exact ⟨rfl, rfl⟩
    · have gk : ((K : Int) == 16) = false := by simp; omega
      have e : b = false := by rw [hb]; simp [hk]
      rw [e]
      clear hb h2 e
      go_enter Tryz.func84, Tryz.ntmps84
      go_wp2
      go_ret
      exact ⟨rfl, rfl⟩
end Go.Proofs.YtaihjnaggmmiiaaGreatDoor

namespace Go.Proofs.YtaihjnaggmmiiaaGreatDoor
open Go.ChangeShapes Go.WideShapes Go.ChangeAt Go.RowKit

/-- A list in none of the blocks of F. -/
def Clear (F : Nat → Prop) (x : Option Addr) (l : List UInt8) : Prop := ∀ b off, x = some ⟨b, off, none⟩ → l ≠ [] → ¬ F b

/-- What a hand does with numbers and lists: function i with the receiver r is its number, j its list; it holds the object b. -/
structure Hand {σ : Type} (i j : Nat) (r : Value) (M : World → Nat → σ → (Nat → Prop) → Prop) (b : Nat) (fn : σ → Nat → Nat → Nat) (sn : σ → Nat → Nat → σ) (fl : σ → List UInt8 → Nat → List UInt8) (sl : σ → List UInt8 → Nat → σ) : Prop where
  kept : Kept M
  ei : ∀ (args : Array Value) (w : World), (callFunc i args).run Tryz.prog w = .ok (.enter i args) w
  ej : ∀ (args : Array Value) (w : World), (callFunc j args).run Tryz.prog w = .ok (.enter j args) w
  lt : ∀ s n V, n < 9223372036854775808 → V ≤ 48 → fn s n V < 9223372036854775808
  lt5 : ∀ s n, n ≤ 16 → fn s n 5 ≤ 31
  lt64 : ∀ s n V, n < 18446744073709551616 → V ≤ 64 → fn s n V < 18446744073709551616
  num : ∀ (w : World) (s : σ) (F : Nat → Prop) (n V : Nat), M w b s F → n < 18446744073709551616 → V ≤ 64 →
    Calls Tryz.prog i #[r, .int .u64 (n : Int), .int .i64 (V : Int)] w fun e w' => e = .returned (.int .u64 ((fn s n V : Nat) : Int)) ∧ Left M w F b (sn s n V) w'
  list : ∀ (w : World) (s : σ) (F : Nat → Prop) (x : Option Addr) (cx : Nat) (l : List UInt8) (n : Nat), M w b s F → Sees w x cx l → Clear F x l → n ≤ 31 →
    Calls Tryz.prog j #[r, .slice x l.length cx, .int .i64 (n : Int)] w fun e w' => ∃ d cd q, Hid (q = fl s l n) ∧ e = .returned (.slice d q.length cd) ∧ Sees w' d cd q ∧ ∃ F', M w' b (sl s l n) F' ∧ Apart F w w' ∧ (∀ k, F' k → F k ∨ w.heap.size ≤ k) ∧ Clear F' d q
theorem Left.of_alloc {σ : Type} {M : World → Nat → σ → (Nat → Prop) → Prop} {w w' : World} {o : Obj} {F : Nat → Prop} {b : Nat} {s : σ} (h : Left M (w.alloc o) F b s w') : Left M w F b s w' := by
  obtain ⟨F', h1, h2, h3⟩ := h
  refine ⟨F', h1, ⟨h2.os, h2.tape, h2.output, Nat.le_trans (by simp) h2.size, fun k hk hn => ?_⟩, fun k hk => ?_⟩
  · rw [h2.block k (by simp; omega) hn]
    show (w.heap.push o)[k]? = _
    rw [Array.getElem?_push, if_neg (by omega)]
  · rcases h3 k hk with h | h
    · exact .inl h
    · right; have : (w.alloc o).heap.size = w.heap.size + 1 := by simp
      omega
theorem Kept.alloc {σ : Type} {M : World → Nat → σ → (Nat → Prop) → Prop} (h : Kept M) {w : World} {b : Nat} {s : σ} {F : Nat → Prop} (hm : M w b s F) (o : Obj) : M (w.alloc o) b s F :=
  h.below hm (Go.Joins.below_alloc1 _ _)

set_option maxHeartbeats 1600000 in
set_option maxRecDepth 20000 in
theorem numU_ok {σ : Type} {i j : Nat} {r : Value} {M : World → Nat → σ → (Nat → Prop) → Prop} {b : Nat} {fn : σ → Nat → Nat → Nat} {sn : σ → Nat → Nat → σ} {fl : σ → List UInt8 → Nat → List UInt8} {sl : σ → List UInt8 → Nat → σ} (H : Hand i j r M b fn sn fl sl)
    (w : World) (s : σ) (F : Nat → Prop) (n V : Nat) (hm : M w b s F) (hn : n < 18446744073709551616) (hV : V ≤ 64) :
    Calls Tryz.prog 112 #[.agg #[.func (.func i) #[r] #[], .func (.func j) #[r] #[]], .int .u64 (n : Int), .int .i64 (V : Int)] w fun e w' => e = .returned (.int .u64 ((fn s n V : Nat) : Int)) ∧ Left M w F b (sn s n V) w' := by
  have hc := H.num (w.alloc (.cells #[.func (.func i) #[r] #[], .func (.func j) #[r] #[]] 59)) s F n V (H.kept.alloc hm _) hn hV
  obtain ⟨X, hX⟩ : ∃ X, X = fn s n V := ⟨_, rfl⟩
  rw [← hX] at hc ⊢
  have hen := H.ei
  clear hX hm H
  go_enter Tryz.func112, Tryz.ntmps112
  go_wp2_with fail
  refine hc.mono ?_
  rintro e w1 ⟨rfl, hL⟩
  clear hc
  have HL : Hid (Left M (w.alloc (.cells #[.func (.func i) #[r] #[], .func (.func j) #[r] #[]] 59)) F b (sn s n V) w1) := hL
  clear hL
  go_wp2
  go_ret
  exact ⟨rfl, HL.out.of_alloc⟩
set_option maxHeartbeats 1600000 in
set_option maxRecDepth 20000 in
theorem numI_ok {σ : Type} {i j : Nat} {r : Value} {M : World → Nat → σ → (Nat → Prop) → Prop} {b : Nat} {fn : σ → Nat → Nat → Nat} {sn : σ → Nat → Nat → σ} {fl : σ → List UInt8 → Nat → List UInt8} {sl : σ → List UInt8 → Nat → σ} (H : Hand i j r M b fn sn fl sl)
    (w : World) (s : σ) (F : Nat → Prop) (n : Int) (V : Nat) (hm : M w b s F) (h0 : 0 ≤ n) (hn : n < 9223372036854775808) (hV : V ≤ 48) :
    Calls Tryz.prog 88 #[.agg #[.func (.func i) #[r] #[], .func (.func j) #[r] #[]], .int .i64 n, .int .i64 (V : Int)] w fun e w' => e = .returned (.int .i64 ((fn s n.toNat V : Nat) : Int)) ∧ Left M w F b (sn s n.toNat V) w' := by
  obtain ⟨m, rfl⟩ : ∃ m : Nat, n = m := ⟨n.toNat, by omega⟩
  rw [Int.toNat_natCast]
  have hc := H.num (w.alloc (.cells #[.func (.func i) #[r] #[], .func (.func j) #[r] #[]] 59)) s F m V (H.kept.alloc hm _) (by omega) (by omega)
  have hX2 := H.lt s m V (by omega) hV
  obtain ⟨X, hX⟩ : ∃ X, X = fn s m V := ⟨_, rfl⟩
  rw [← hX] at hc hX2 ⊢
  have hen := H.ei
  clear hX hm H
  go_enter Tryz.func88, Tryz.ntmps88
  go_wp2_with fail
  refine hc.mono ?_
  rintro e w1 ⟨rfl, hL⟩
  clear hc
  have HL : Hid (Left M (w.alloc (.cells #[.func (.func i) #[r] #[], .func (.func j) #[r] #[]] 59)) F b (sn s m V) w1) := hL
  clear hL
  go_wp2
  go_ret
  exact ⟨rfl, HL.out.of_alloc⟩
set_option maxHeartbeats 1600000 in
set_option maxRecDepth 20000 in
theorem num64_ok {σ : Type} {i j : Nat} {r : Value} {M : World → Nat → σ → (Nat → Prop) → Prop} {b : Nat} {fn : σ → Nat → Nat → Nat} {sn : σ → Nat → Nat → σ} {fl : σ → List UInt8 → Nat → List UInt8} {sl : σ → List UInt8 → Nat → σ} (H : Hand i j r M b fn sn fl sl)
    (w : World) (s : σ) (F : Nat → Prop) (n : Int) (V : Nat) (hm : M w b s F) (h0 : 0 ≤ n) (hn : n < 9223372036854775808) (hV : V ≤ 48) :
    Calls Tryz.prog 113 #[.agg #[.func (.func i) #[r] #[], .func (.func j) #[r] #[]], .int .i64 n, .int .i64 (V : Int)] w fun e w' => e = .returned (.int .i64 ((fn s n.toNat V : Nat) : Int)) ∧ Left M w F b (sn s n.toNat V) w' := by
  obtain ⟨m, rfl⟩ : ∃ m : Nat, n = m := ⟨n.toNat, by omega⟩
  rw [Int.toNat_natCast]
  have hc := H.num (w.alloc (.cells #[.func (.func i) #[r] #[], .func (.func j) #[r] #[]] 59)) s F m V (H.kept.alloc hm _) (by omega) (by omega)
  have hX2 := H.lt s m V (by omega) hV
  obtain ⟨X, hX⟩ : ∃ X, X = fn s m V := ⟨_, rfl⟩
  rw [← hX] at hc hX2 ⊢
  have hen := H.ei
  clear hX hm H
  go_enter Tryz.func113, Tryz.ntmps113
  go_wp2_with fail
  refine hc.mono ?_
  rintro e w1 ⟨rfl, hL⟩
  clear hc
  have HL : Hid (Left M (w.alloc (.cells #[.func (.func i) #[r] #[], .func (.func j) #[r] #[]] 59)) F b (sn s m V) w1) := hL
  clear hL
  go_wp2
  go_ret
  exact ⟨rfl, HL.out.of_alloc⟩

theorem two_new' (w : World) (F : Fr) (A : At) (G : Fr) (B : At) : FrAt ((w.alloc (.cells (frC F A) 25)).alloc (.cells (frC G B) 25)) w.heap.size F A ∧ FrAt ((w.alloc (.cells (frC F A) 25)).alloc (.cells (frC G B) 25)) (w.heap.size + 1) G B :=
  ⟨(FrAt.new w F A).alloc _, by simpa using FrAt.new (w.alloc (.cells (frC F A) 25)) G B⟩
/-- Numbers that a hand takes. -/
structure InR (F : Fr) : Prop where
  k : 0 ≤ F.k ∧ F.k < 9223372036854775808
  f : 0 ≤ F.f ∧ F.f < 9223372036854775808
  t : 0 ≤ F.t ∧ F.t < 9223372036854775808
  e : 0 ≤ F.e ∧ F.e < 9223372036854775808
  s : 0 ≤ F.s ∧ F.s < 9223372036854775808
  r : 0 ≤ F.r ∧ F.r < 9223372036854775808
  n : F.n < 18446744073709551616
  m : 0 ≤ F.m ∧ F.m < 9223372036854775808
  v : 0 ≤ F.v ∧ F.v < 9223372036854775808
  i : 0 ≤ F.i ∧ F.i < 9223372036854775808
  body : F.body.length ≤ 16

theorem frL_nou8 (F : Fr) (A : At) (k : Nat) (x : Int) : (frL F A)[k]? ≠ some (.int .u8 x) := by
  intro h
  have := List.mem_of_getElem? h
  simp [frL] at this
theorem FrAt.apart {w : World} {g : Nat} {F : Fr} {A : At} (h : FrAt w g F A) {x : Option Addr} {c : Nat} {l : List UInt8} (hs : Sees w x c l) : ∀ b off, x = some ⟨b, off, none⟩ → l ≠ [] → b ≠ g := by
  rintro b off rfl hne rfl
  obtain ⟨b', off', he, hc⟩ := hs.at' hne
  simp only [Option.some.injEq, Addr.mk.injEq] at he
  obtain ⟨rfl, rfl, _⟩ := he
  obtain ⟨z, hz⟩ : ∃ z, l[0]? = some z := ⟨l[0]'(List.length_pos_iff.2 hne), by simp⟩
  have h1 := hc 0 z hz
  rw [cell_of_row w _ (off + 0) _ _ _ h] at h1
  exact frL_nou8 F A _ _ (by simpa [frC] using h1)
theorem Sees.set {w : World} {x : Option Addr} {c : Nat} {l : List UInt8} (hs : Sees w x c l) {g q : Nat} (u : Value) (hn : ∀ b off, x = some ⟨b, off, none⟩ → l ≠ [] → b ≠ g) : Sees (w.setCell ⟨g, q, none⟩ u) x c l :=
  ⟨hs.fits, hs.room, hs.bare, fun hne => by
    obtain ⟨b, off, ha, hc⟩ := hs.at' hne
    refine ⟨b, off, ha, fun k y hy => ?_⟩
    rw [World.cell?_of_block (w := w) (by rw [heap_setCell_other _ _ _ _ (hn b off ha hne)]), hc k y hy]⟩
theorem Sees.lt {w : World} {x : Option Addr} {c : Nat} {l : List UInt8} (hs : Sees w x c l) : ∀ b off, x = some ⟨b, off, none⟩ → l ≠ [] → b < w.heap.size := by
  rintro b off rfl hne
  obtain ⟨b', off', he, hc⟩ := hs.at' hne
  simp only [Option.some.injEq, Addr.mk.injEq] at he
  obtain ⟨rfl, rfl, _⟩ := he
  obtain ⟨z, hz⟩ : ∃ z, l[0]? = some z := ⟨l[0]'(List.length_pos_iff.2 hne), by simp⟩
  exact World.block_lt_of_cell? w _ (hc 0 z hz)

/-- All three lists apart from the blocks of F. -/
structure Clears (F : Nat → Prop) (G : Fr) (A : At) : Prop where
  key : Clear F A.ka G.key
  body : Clear F A.ba G.body
  tag : Clear F A.ta G.tag

/-- A walk of a hand over a frame, half way: its boxes, the frame, the object, in the world W; it began at w. -/
structure Mid {σ : Type} (i j : Nat) (r : Value) (M : World → Nat → σ → (Nat → Prop) → Prop) (b : Nat) (w : World) (F0 F1 : Nat → Prop) (s : σ) (G : Fr) (A : At) (W : World) : Prop where
  hand : W.heap[w.heap.size]? = some (.cells #[.func (.func i) #[r] #[], .func (.func j) #[r] #[]] 59 (0, 0))
  fr : FrAt W (w.heap.size + 1) G A
  res : FrAt W (w.heap.size + 2) Fr.zero At.zero
  obj : M W b s F1
  sub : ∀ k, F1 k → F0 k ∨ w.heap.size + 3 ≤ k
  clear : Clears F1 G A
  seen : Seen W G A
  apart : Apart F0 w W
  lt : ∀ k, F0 k → k < w.heap.size
theorem Mid.cells {σ : Type} {i j : Nat} {r : Value} {M : World → Nat → σ → (Nat → Prop) → Prop} {b : Nat} {w : World} {F0 F1 : Nat → Prop} {s : σ} {G : Fr} {A : At} {W : World} (h : Mid i j r M b w F0 F1 s G A W) :
    W.cell? ⟨w.heap.size, 0, none⟩ = some (.func (.func i) #[r] #[]) ∧ W.cell? ⟨w.heap.size, 1, none⟩ = some (.func (.func j) #[r] #[]) := ⟨cell_of_row _ _ 0 _ _ _ h.hand, cell_of_row _ _ 1 _ _ _ h.hand⟩
theorem Mid.start {σ : Type} {i j : Nat} {r : Value} {M : World → Nat → σ → (Nat → Prop) → Prop} {b : Nat} {fn : σ → Nat → Nat → Nat} {sn : σ → Nat → Nat → σ} {fl : σ → List UInt8 → Nat → List UInt8} {sl : σ → List UInt8 → Nat → σ} (H : Hand i j r M b fn sn fl sl) (w : World) (s : σ) (F0 : Nat → Prop) (G : Fr) (A : At) (hm : M w b s F0) (hs : Seen w G A) (hc : Clears F0 G A) :
    Mid i j r M b w F0 F0 s G A (((w.alloc (.cells #[.func (.func i) #[r] #[], .func (.func j) #[r] #[]] 59)).alloc (.cells (frC G A) 25)).alloc (.cells (frC Fr.zero At.zero) 25)) := by
  obtain ⟨w1, hw1⟩ : ∃ w1, w1 = w.alloc (.cells #[.func (.func i) #[r] #[], .func (.func j) #[r] #[]] 59) := ⟨_, rfl⟩
  have z1 : w1.heap.size = w.heap.size + 1 := by rw [hw1]; simp
  have b1 : Below w.heap.size w w1 := by rw [hw1]; exact Go.Joins.below_alloc1 _ _
  have g1 : w1.heap[w.heap.size]? = some (.cells #[.func (.func i) #[r] #[], .func (.func j) #[r] #[]] 59 (0, 0)) := by rw [hw1]; exact heap_alloc_new _ _
  rw [← hw1]
  obtain ⟨h1, h2⟩ := two_new' w1 G A Fr.zero At.zero
  have b2 : Below w1.heap.size w1 ((w1.alloc (.cells (frC G A) 25)).alloc (.cells (frC Fr.zero At.zero) 25)) := Go.Joins.below_alloc2 _ _ _
  have b3 := b1.trans (b2.mono b1.size)
  rw [z1] at h1 h2
  exact ⟨by rw [b2.block _ (by omega)]; exact g1, h1, h2, H.kept.below hm b3, fun k hk => .inl hk, hc, hs.below b3, Apart.of_below b3, H.kept.lt hm⟩
theorem Mid.keeps {σ : Type} {i j : Nat} {r : Value} {M : World → Nat → σ → (Nat → Prop) → Prop} {b : Nat} {fn : σ → Nat → Nat → Nat} {sn : σ → Nat → Nat → σ} {fl : σ → List UInt8 → Nat → List UInt8} {sl : σ → List UInt8 → Nat → σ} (_ : Hand i j r M b fn sn fl sl) {w : World} {F0 F1 F2 : Nat → Prop} {s s' : σ} {G : Fr} {A : At} {W W1 : World} (h : Mid i j r M b w F0 F1 s G A W) (hm : M W1 b s' F2) (ha : Apart F1 W W1) (hf : ∀ k, F2 k → F1 k ∨ W.heap.size ≤ k) : Mid i j r M b w F0 F2 s' G A W1 := by
  have hlt := h.res.lt
  have no : ∀ k, w.heap.size ≤ k → k < w.heap.size + 3 → ¬ F1 k := fun k h1 h2 hk => by
    rcases h.sub k hk with h3 | h3
    · have := h.lt k h3; omega
    · omega
  have bl : ∀ k, w.heap.size ≤ k → k < w.heap.size + 3 → W1.heap[k]? = W.heap[k]? := fun k h1 h2 => ha.block k (by omega) (no k h1 h2)
  have cl : ∀ (x : Option Addr) (c : Nat) (l : List UInt8), Sees W x c l → Clear F1 x l → Clear F2 x l := fun x c l hs hc b off e hne hb => by
    rcases hf b hb with h3 | h3
    · exact hc b off e hne h3
    · have := hs.lt b off e hne; omega
  refine ⟨by rw [bl _ (by omega) (by omega)]; exact h.hand, h.fr.keep (bl _ (by omega) (by omega)), h.res.keep (bl _ (by omega) (by omega)), hm, fun k hk => ?_, ⟨cl _ _ _ h.seen.key h.clear.key, cl _ _ _ h.seen.body h.clear.body, cl _ _ _ h.seen.tag h.clear.tag⟩,
    ⟨ha.sees h.seen.key h.clear.key, ha.sees h.seen.body h.clear.body, ha.sees h.seen.tag h.clear.tag⟩, h.apart.trans ha fun k hk => ?_, h.lt⟩
  · rcases hf k hk with h3 | h3
    · exact h.sub k h3
    · right; omega
  · rcases h.sub k hk with h3 | h3
    · exact .inl h3
    · right; omega
/-- A call on the object. -/
theorem Mid.call {σ : Type} {i j : Nat} {r : Value} {M : World → Nat → σ → (Nat → Prop) → Prop} {b : Nat} {fn : σ → Nat → Nat → Nat} {sn : σ → Nat → Nat → σ} {fl : σ → List UInt8 → Nat → List UInt8} {sl : σ → List UInt8 → Nat → σ} (H : Hand i j r M b fn sn fl sl) {w : World} {F0 F1 : Nat → Prop} {s s' : σ} {G : Fr} {A : At} {W W1 : World} (h : Mid i j r M b w F0 F1 s G A W) (hL : Left M W F1 b s' W1) : ∃ F2, Mid i j r M b w F0 F2 s' G A W1 := by
  obtain ⟨F2, hm, ha, hf⟩ := hL
  exact ⟨F2, h.keeps H hm ha hf⟩
/-- A field stored. -/
theorem Mid.set {σ : Type} {i j : Nat} {r : Value} {M : World → Nat → σ → (Nat → Prop) → Prop} {b : Nat} {fn : σ → Nat → Nat → Nat} {sn : σ → Nat → Nat → σ} {fl : σ → List UInt8 → Nat → List UInt8} {sl : σ → List UInt8 → Nat → σ} (H : Hand i j r M b fn sn fl sl) {w : World} {F0 F1 : Nat → Prop} {s : σ} {G : Fr} {A : At} {W : World} (h : Mid i j r M b w F0 F1 s G A W) (q : Nat) (u : Value) (G' : Fr) (A' : At) (hl : (frL G A).set q u = frL G' A') (hs : Seen W G' A') (hc : Clears F1 G' A') :
    Mid i j r M b w F0 F1 s G' A' (W.setCell ⟨w.heap.size + 1, q, none⟩ u) := by
  have no : ¬ F1 (w.heap.size + 1) := fun hk => by
    rcases h.sub _ hk with h3 | h3
    · have := h.lt _ h3; omega
    · omega
  have ot : ∀ k, k ≠ w.heap.size + 1 → (W.setCell ⟨w.heap.size + 1, q, none⟩ u).heap[k]? = W.heap[k]? := fun k hk => heap_setCell_other _ _ _ _ hk
  exact ⟨by rw [ot _ (by omega)]; exact h.hand, h.fr.put q u hl, h.res.keep (ot _ (by omega)), H.kept.keep h.obj fun k hk => ot k (fun e => no (e ▸ hk)), h.sub, hc,
    ⟨hs.key.set u (h.fr.apart hs.key), hs.body.set u (h.fr.apart hs.body), hs.tag.set u (h.fr.apart hs.tag)⟩, h.apart.setCell (.inr (by omega)) q u, h.lt⟩
end Go.Proofs.YtaihjnaggmmiiaaGreatDoor
