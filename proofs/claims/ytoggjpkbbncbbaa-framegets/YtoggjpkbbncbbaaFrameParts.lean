/-
  A frame by value, and in memory. The contracts of upTo, rightNumbers and rightLists.
-/
import Derived.Test.YtoggjpkbbncbbaaFrameMath
import Derived.Test.YtoggjpkbbncbbaaRows
import Derived.Test.YtoggjpkbbncbbaaDraws
import Derived.Test.YtoggjpkbbncbbaaCells
import Derived.Lib.SmallJoins
namespace Go.Proofs.Ytoggjpkbbncbbaa
open Go.ChangeShapes Go.WideShapes Go.ChangeAt Go.RowKit

/-- Where a frame's lists lie. -/
structure At where
  ka : Option Addr
  kc : Nat
  ba : Option Addr
  bc : Nat
  ta : Option Addr
  tc : Nat
def At.zero : At := ⟨none, 0, none, 0, none, 0⟩
/-- The lists read as the frame's. -/
structure Seen (w : World) (F : Fr) (A : At) : Prop where
  key : Sees w A.ka A.kc F.key
  body : Sees w A.ba A.bc F.body
  tag : Sees w A.ta A.tc F.tag
theorem Seen.below {w w' : World} {F : Fr} {A : At} (h : Seen w F A) (hb : Below w.heap.size w w') : Seen w' F A := ⟨h.key.below hb, h.body.below hb, h.tag.below hb⟩
theorem Seen.zero (w : World) : Seen w Fr.zero At.zero := ⟨Sees.nil' w, Sees.nil' w, Sees.nil' w⟩
def frL (F : Fr) (A : At) : List Value :=
  [.int .i64 F.k, .int .i64 F.f, .int .i64 F.t, .int .i64 F.e, .int .i64 F.s, .int .i64 F.r, .int .u64 (F.n : Int), .int .i64 F.m, .int .i64 F.v, .int .i64 F.i,
    .slice A.ka F.key.length A.kc, .slice A.ba F.body.length A.bc, .slice A.ta F.tag.length A.tc]
def frC (F : Fr) (A : At) : Array Value := (frL F A).toArray
theorem frC_size (F : Fr) (A : At) : (frC F A).size = 13 := rfl
theorem frC_one (F : Fr) (A : At) : (frC F A).all (·.oneCell') = true := all_oneCell_toArray (by
  intro v hv
  simp only [frL, List.mem_cons, List.not_mem_nil, or_false] at hv
  rcases hv with rfl | rfl | rfl | rfl | rfl | rfl | rfl | rfl | rfl | rfl | rfl | rfl | rfl <;> rfl)

/-- A frame in block g. -/
def FrAt (w : World) (g : Nat) (F : Fr) (A : At) : Prop := w.heap[g]? = some (.cells (frC F A) 25 (0, 0))
theorem FrAt.cell {w : World} {g : Nat} {F : Fr} {A : At} (h : FrAt w g F A) (i : Nat) {u : Value} (hu : (frL F A)[i]? = some u) : w.cell? ⟨g, i, none⟩ = some u := by
  rw [cell_of_row w _ i _ _ _ h]; simpa [frC] using hu
theorem FrAt.c0 {w : World} {g : Nat} {F : Fr} {A : At} (h : FrAt w g F A) : w.cell? ⟨g, 0, none⟩ = some (.int .i64 F.k) := h.cell 0 rfl
theorem FrAt.c1 {w : World} {g : Nat} {F : Fr} {A : At} (h : FrAt w g F A) : w.cell? ⟨g, 1, none⟩ = some (.int .i64 F.f) := h.cell 1 rfl
theorem FrAt.c2 {w : World} {g : Nat} {F : Fr} {A : At} (h : FrAt w g F A) : w.cell? ⟨g, 2, none⟩ = some (.int .i64 F.t) := h.cell 2 rfl
theorem FrAt.c3 {w : World} {g : Nat} {F : Fr} {A : At} (h : FrAt w g F A) : w.cell? ⟨g, 3, none⟩ = some (.int .i64 F.e) := h.cell 3 rfl
theorem FrAt.c4 {w : World} {g : Nat} {F : Fr} {A : At} (h : FrAt w g F A) : w.cell? ⟨g, 4, none⟩ = some (.int .i64 F.s) := h.cell 4 rfl
theorem FrAt.c5 {w : World} {g : Nat} {F : Fr} {A : At} (h : FrAt w g F A) : w.cell? ⟨g, 5, none⟩ = some (.int .i64 F.r) := h.cell 5 rfl
theorem FrAt.c6 {w : World} {g : Nat} {F : Fr} {A : At} (h : FrAt w g F A) : w.cell? ⟨g, 6, none⟩ = some (.int .u64 (F.n : Int)) := h.cell 6 rfl
theorem FrAt.c7 {w : World} {g : Nat} {F : Fr} {A : At} (h : FrAt w g F A) : w.cell? ⟨g, 7, none⟩ = some (.int .i64 F.m) := h.cell 7 rfl
theorem FrAt.c8 {w : World} {g : Nat} {F : Fr} {A : At} (h : FrAt w g F A) : w.cell? ⟨g, 8, none⟩ = some (.int .i64 F.v) := h.cell 8 rfl
theorem FrAt.c9 {w : World} {g : Nat} {F : Fr} {A : At} (h : FrAt w g F A) : w.cell? ⟨g, 9, none⟩ = some (.int .i64 F.i) := h.cell 9 rfl
theorem FrAt.c10 {w : World} {g : Nat} {F : Fr} {A : At} (h : FrAt w g F A) : w.cell? ⟨g, 10, none⟩ = some (.slice A.ka F.key.length A.kc) := h.cell 10 rfl
theorem FrAt.c11 {w : World} {g : Nat} {F : Fr} {A : At} (h : FrAt w g F A) : w.cell? ⟨g, 11, none⟩ = some (.slice A.ba F.body.length A.bc) := h.cell 11 rfl
theorem FrAt.c12 {w : World} {g : Nat} {F : Fr} {A : At} (h : FrAt w g F A) : w.cell? ⟨g, 12, none⟩ = some (.slice A.ta F.tag.length A.tc) := h.cell 12 rfl
theorem FrAt.fz {w : World} {g : Nat} {F : Fr} {A : At} (h : FrAt w g F A) (i : Nat) : w.frozen? ⟨g, i, none⟩ = false := frozen_of_row _ _ i _ _ h
theorem FrAt.lt {w : World} {g : Nat} {F : Fr} {A : At} (h : FrAt w g F A) : g < w.heap.size := (Array.getElem?_eq_some_iff.1 h).1
theorem FrAt.keep {w w' : World} {g : Nat} {F : Fr} {A : At} (h : FrAt w g F A) (hb : w'.heap[g]? = w.heap[g]?) : FrAt w' g F A := hb.trans h
theorem FrAt.below {w w' : World} {g : Nat} {F : Fr} {A : At} (h : FrAt w g F A) (hb : Below w.heap.size w w') : FrAt w' g F A := h.keep (hb.block g h.lt)
theorem FrAt.new (w : World) (F : Fr) (A : At) : FrAt (w.alloc (.cells (frC F A) 25)) w.heap.size F A := heap_alloc_new _ _
theorem FrAt.alloc {w : World} {g : Nat} {F : Fr} {A : At} (h : FrAt w g F A) (o : Obj) : FrAt (w.alloc o) g F A := by
  show (w.heap.push o)[g]? = _
  rw [Array.getElem?_push, if_neg (Nat.ne_of_lt h.lt)]; exact h
/-- Loaded whole, stored whole, and as a result. -/
theorem FrAt.loads {w : World} {g : Nat} {F : Fr} {A : At} (h : FrAt w g F A) : (Instr.loadAt 25 (.pointer (some ⟨g, 0, none⟩))).run Try.prog w = .ok (.agg (frC F A)) w :=
  loadAt_row w g 25 25 _ (0, 0) _ h Try.underlying25 rfl (by rw [frC_size]; kernel_rfl)
theorem FrAt.stores {w : World} {g : Nat} {F : Fr} {A : At} (h : FrAt w g F A) (G : Fr) (B : At) : (Instr.storeAt 25 (.pointer (some ⟨g, 0, none⟩)) (.agg (frC G B))).run Try.prog w = .ok () (w.setRow g (frC G B)) :=
  storeAt_row w g 25 25 _ _ h (by rw [frC_size]; kernel_rfl) rfl (frC_one G B)
theorem FrAt.stored {w : World} {g : Nat} {F : Fr} {A : At} (h : FrAt w g F A) (G : Fr) (B : At) : FrAt (w.setRow g (frC G B)) g G B := setRow_heap _ _ _ _ 25 _ h
theorem res_fr {fn : Func} {p : Tmp} (h : fn.results = #[.cell p 25]) {tmps : Array Value} {w : World} {g : Nat} {F : Fr} {A : At} (hp : tmps.getD p undef = .pointer (some ⟨g, 0, none⟩)) (hg : FrAt w g F A) :
    (results fn tmps).run Try.prog w = .ok (.agg (frC F A)) w :=
  results_cell_row h tmps w g 25 _ (0, 0) _ hp hg Try.underlying25 rfl (by rw [frC_size]; kernel_rfl)
theorem res_fr_tmp {fn : Func} {p q : Tmp} (h : fn.results = #[.cell p 25, .tmp q]) {tmps : Array Value} {w : World} {g : Nat} {F : Fr} {A : At} (hp : tmps.getD p undef = .pointer (some ⟨g, 0, none⟩)) (hg : FrAt w g F A) :
    (results fn tmps).run Try.prog w = .ok (.tuple #[.agg (frC F A), tmps.getD q undef]) w :=
  results_cell_tmp h tmps w g 25 _ (0, 0) _ hp hg Try.underlying25 rfl (by rw [frC_size]; kernel_rfl)
/-- A field stored. -/
theorem FrAt.put {w : World} {g : Nat} {F G : Fr} {A B : At} (h : FrAt w g F A) (i : Nat) (u : Value) (hl : (frL F A).set i u = frL G B) : FrAt (w.setCell ⟨g, i, none⟩ u) g G B := by
  show (w.setCell ⟨g, i, none⟩ u).heap[g]? = _
  rw [heap_setCell_same _ _ _ _ _ _ h]
  congr 2
  show ((frL F A).toArray).setIfInBounds i u = (frL G B).toArray
  rw [List.setIfInBounds_toArray, hl]

set_option maxHeartbeats 800000 in
set_option maxRecDepth 20000 in
theorem upto_ok (w : World) (n m : Int) : Calls Try.prog 73 #[.int .i64 n, .int .i64 m] w fun e w' => e = .returned (.bool (inB n m)) ∧ w' = w := by
  by_cases h0 : 0 ≤ n
  · by_cases h1 : n ≤ m
    · have e : inB n m = true := by simp [inB]; omega
      rw [e]
      clear e
      go_enter Try.func73, Try.ntmps73
      go_wp2
      go_ret
      exact ⟨rfl, rfl⟩
    · have e : inB n m = false := by simp [inB]; omega
      rw [e]
      clear e
      go_enter Try.func73, Try.ntmps73
      go_wp2
      go_ret
      exact ⟨rfl, rfl⟩
  · have e : inB n m = false := by simp [inB]; omega
    rw [e]
    clear e
    go_enter Try.func73, Try.ntmps73
    go_wp2
    go_ret
    exact ⟨rfl, rfl⟩
set_option maxHeartbeats 800000 in
set_option maxRecDepth 20000 in
theorem upto64_ok (w : World) (n m : Int) : Calls Try.prog 74 #[.int .i64 n, .int .i64 m] w fun e w' => e = .returned (.bool (inB n m)) ∧ w' = w := by
  by_cases h0 : 0 ≤ n
  · by_cases h1 : n ≤ m
    · have e : inB n m = true := by simp [inB]; omega
      rw [e]
      clear e
      go_enter Try.func74, Try.ntmps74
      go_wp2
      go_ret
      exact ⟨rfl, rfl⟩
    · have e : inB n m = false := by simp [inB]; omega
      rw [e]
      clear e
      go_enter Try.func74, Try.ntmps74
      go_wp2
      go_ret
      exact ⟨rfl, rfl⟩
  · have e : inB n m = false := by simp [inB]; omega
    rw [e]
    clear e
    go_enter Try.func74, Try.ntmps74
    go_wp2
    go_ret
    exact ⟨rfl, rfl⟩
set_option maxHeartbeats 800000 in
set_option maxRecDepth 20000 in
theorem within_ok (w : World) (n m : Int) : Calls Try.prog 31 #[.int .i64 n, .int .i64 m] w fun e w' => e = .returned (.bool (inB n m)) ∧ w' = w := by
  by_cases h0 : 0 ≤ n
  · by_cases h1 : n ≤ m
    · have e : inB n m = true := by simp [inB]; omega
      rw [e]
      clear e
      go_enter Try.func31, Try.ntmps31
      go_wp2
      go_ret
      exact ⟨rfl, rfl⟩
    · have e : inB n m = false := by simp [inB]; omega
      rw [e]
      clear e
      go_enter Try.func31, Try.ntmps31
      go_wp2
      go_ret
      exact ⟨rfl, rfl⟩
  · have e : inB n m = false := by simp [inB]; omega
    rw [e]
    clear e
    go_enter Try.func31, Try.ntmps31
    go_wp2
    go_ret
    exact ⟨rfl, rfl⟩
set_option maxHeartbeats 1600000 in
set_option maxRecDepth 20000 in
theorem rnums_ok (w : World) (F : Fr) (A : At) : Calls Try.prog 50 #[.agg (frC F A)] w fun e w' => e = .returned (.bool (numsB F)) ∧ w' = w.alloc (.cells (frC F A) 25) := by
  have hN := FrAt.new w F A
  have k1 := hN.c1
  have k2 := hN.c2
  have k3 := hN.c3
  have k4 := hN.c4
  have k5 := hN.c5
  have k7 := hN.c7
  have k8 := hN.c8
  have k9 := hN.c9
  clear hN
  have u1 := upto_ok (w.alloc (.cells (frC F A) 25)) F.f 7
  have u2 := upto_ok (w.alloc (.cells (frC F A) 25)) F.t 7
  have u3 := upto_ok (w.alloc (.cells (frC F A) 25)) F.e 65535
  have u4 := upto_ok (w.alloc (.cells (frC F A) 25)) F.s 1048576
  have u5 := upto_ok (w.alloc (.cells (frC F A) 25)) F.r 1048576
  have u6 := upto64_ok (w.alloc (.cells (frC F A) 25)) F.m 1099511627776
  have u7 := upto_ok (w.alloc (.cells (frC F A) 25)) F.v 255
  have u8 := upto_ok (w.alloc (.cells (frC F A) 25)) F.i 256
  unfold numsB
  generalize inB F.f 7 = b1 at *
  generalize inB F.t 7 = b2 at *
  generalize inB F.e 65535 = b3 at *
  generalize inB F.s 1048576 = b4 at *
  generalize inB F.r 1048576 = b5 at *
  generalize inB F.m 1099511627776 = b6 at *
  generalize inB F.v 255 = b7 at *
  generalize inB F.i 256 = b8 at *
  go_enter Try.func50, Try.ntmps50
  go_wp2_with fail
  refine u1.mono ?_
  rintro e w1 ⟨rfl, rfl⟩
  clear u1
  cases b1
  · go_wp2
    go_ret
    exact ⟨rfl, rfl⟩
  go_wp2_with fail
  refine u2.mono ?_
  rintro e w1 ⟨rfl, rfl⟩
  clear u2
  cases b2
  · go_wp2
    go_ret
    exact ⟨rfl, rfl⟩
  go_wp2_with fail
  refine u3.mono ?_
  rintro e w1 ⟨rfl, rfl⟩
  clear u3
  cases b3
  · go_wp2
    go_ret
    exact ⟨rfl, rfl⟩
  go_wp2_with fail
  refine u4.mono ?_
  rintro e w1 ⟨rfl, rfl⟩
  clear u4
  cases b4
  · go_wp2
    go_ret
    exact ⟨rfl, rfl⟩
  go_wp2_with fail
  refine u5.mono ?_
  rintro e w1 ⟨rfl, rfl⟩
  clear u5
  cases b5
  · go_wp2
    go_ret
    exact ⟨rfl, rfl⟩
  go_wp2_with fail
  refine u6.mono ?_
  rintro e w1 ⟨rfl, rfl⟩
  clear u6
  cases b6
  · go_wp2
    go_ret
    exact ⟨rfl, rfl⟩
  go_wp2_with fail
  refine u7.mono ?_
  rintro e w1 ⟨rfl, rfl⟩
  clear u7
  cases b7
  · go_wp2
    go_ret
    exact ⟨rfl, rfl⟩
  go_wp2_with fail
  refine u8.mono ?_
  rintro e w1 ⟨rfl, rfl⟩
  clear u8
  go_wp2
  go_ret
  exact ⟨rfl, rfl⟩

/-- Key and Body are as long as they may be. -/
def listsB (F : Fr) : Bool := decide (F.key.length = if F.k = 2 then 0 else 16) && decide (F.body.length ≤ 16)
set_option maxHeartbeats 1600000 in
set_option maxRecDepth 20000 in
theorem rlists_ok (w : World) (F : Fr) (A : At) (hB : F.body.length ≤ 9223372036854775807) : Calls Try.prog 51 #[.agg (frC F A)] w fun e w' => e = .returned (.bool (listsB F)) ∧ w' = w.alloc (.cells (frC F A) 25) := by
  have hN := FrAt.new w F A
  have k0 := hN.c0
  have k10 := hN.c10
  have k11 := hN.c11
  clear hN
  obtain ⟨b, hb⟩ : ∃ b, b = listsB F := ⟨_, rfl⟩
  rw [← hb]
  unfold listsB at hb
  obtain ⟨K, eK⟩ : ∃ K, K = F.key.length := ⟨_, rfl⟩
  obtain ⟨B, eB⟩ : ∃ B, B = F.body.length := ⟨_, rfl⟩
  rw [← eK] at hb k10
  rw [← eB] at hb k11 hB
  clear eK eB
  by_cases h2 : F.k = 2
  · rw [if_pos h2] at hb
    have g2 : (F.k == 2) = true := by simp [h2]
    by_cases hk : K = 0
    · have gk : ((K : Int) == 0) = true := by simp [hk]
      by_cases h16 : B ≤ 16
      · have gB : decide ((B : Int) ≤ 16) = true := by simp; omega
        have e : b = true := by rw [hb]; simp [hk, h16]
        rw [e]
        clear hb h2 e
        go_enter Try.func51, Try.ntmps51
        go_wp2
        go_ret
        exact ⟨rfl, rfl⟩
      · have gB : decide ((B : Int) ≤ 16) = false := by simp; omega
        have e : b = false := by rw [hb]; simp [h16]
        rw [e]
        clear hb h2 e
        go_enter Try.func51, Try.ntmps51
        go_wp2
        go_ret
        exact ⟨rfl, rfl⟩
    · have gk : ((K : Int) == 0) = false := by simp [hk]
      have e : b = false := by rw [hb]; simp [hk]
      rw [e]
      clear hb h2 e
      go_enter Try.func51, Try.ntmps51
      go_wp2
      go_ret
      exact ⟨rfl, rfl⟩
  · rw [if_neg h2] at hb
    have g2 : (F.k == 2) = false := by simp [h2]
    by_cases hk : K = 16
    · have gk : ((K : Int) == 16) = true := by simp [hk]
      by_cases h16 : B ≤ 16
      · have gB : decide ((B : Int) ≤ 16) = true := by simp; omega
        have e : b = true := by rw [hb]; simp [hk, h16]
        rw [e]
        clear hb h2 e
        go_enter Try.func51, Try.ntmps51
        go_wp2
        go_ret
        exact ⟨rfl, rfl⟩
      · have gB : decide ((B : Int) ≤ 16) = false := by simp; omega
        have e : b = false := by rw [hb]; simp [h16]
        rw [e]
        clear hb h2 e
        go_enter Try.func51, Try.ntmps51
        go_wp2
        go_ret
        exact ⟨rfl, rfl⟩
    · have gk : ((K : Int) == 16) = false := by simp; omega
      have e : b = false := by rw [hb]; simp [hk]
      rw [e]
      clear hb h2 e
      go_enter Try.func51, Try.ntmps51
      go_wp2
      go_ret
      exact ⟨rfl, rfl⟩
end Go.Proofs.Ytoggjpkbbncbbaa
