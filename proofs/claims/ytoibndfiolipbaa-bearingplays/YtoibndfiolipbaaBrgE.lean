/-
  The contracts of told and of the closure that it answers.
-/
import Derived.Test.YtoibndfiolipbaaBrgD
import Derived.Test.YtoibndfiolipbaaRangeOwn
import Derived.Shelf.Abstract
import Derived.Shelf.RegionOpen
import Derived.OwnWalkIn
import Derived.TacticsInMore
import Derived.LoopNIn
import Derived.LoopIn
namespace Go.Proofs.Ytoibndfiolipbaa
open Go.ChangeShapes Go.WideShapes Go.ChangeAt Go.RowKit

theorem told_ok (w : World) (p : Value) (hp : p.oneCell' = true) (t : Int) :
    Calls Try.prog 41 #[p, .int .i64 t] w fun e w' => e = .returned (.func (.func 56) #[] #[.pointer (some ⟨w.heap.size, 0, none⟩), .pointer (some ⟨w.heap.size + 1, 0, none⟩)]) ∧
      w' = (w.alloc (.cells #[p] 28)).alloc (.cells #[.int .i64 t] 2) := by
  have hmf : ∀ (fn : Fn) (first cap : Array Value) (w : World), (Instr.makeFunc fn first cap).run Try.prog w = .ok (.func fn first cap) w := fun _ _ _ _ => rfl
  go_enter Try.func41, Try.ntmps41
  go_wp2
  go_ret
  exact ⟨rfl, rfl⟩

/-- Is node i told of, or the own one? -/
def tolB (v : Bt) (t i : Int) : Bool := (atA v i t).e == 0 || i == v.i
/-- All nodes are gone over. -/
def AtEnd (v : Bt) (s : Int) : Prop := s = v.c.n
end Go.Proofs.Ytoibndfiolipbaa

namespace Go.Proofs.Ytoibndfiolipbaa
open Go.ChangeShapes Go.WideShapes Go.ChangeAt Go.RowKit Go.Shelf
attribute [local go_sem] Oper.semAt_some

set_option maxRecDepth 100000 in
set_option maxHeartbeats 4000000 in
set_option maxRecDepth 20000 in
theorem tell_in (q l bT bN g m : Nat) (v : Bt) (n : Nat) (ok : v.ok) (t : Int)
    (I : Int → World → Prop) (kI : ∀ s W W', I s W → Below W.heap.size W W' → I s W')
    (bI : ∀ s W, I s W → W.cell? ⟨bT, 0, none⟩ = some (.pointer (some ⟨g, 0, none⟩)) ∧ W.cell? ⟨bN, 0, none⟩ = some (.int .i64 t) ∧ Bd W g m v n)
    (sI : ∀ s W, I s W → 0 ≤ s → s < v.c.n → tolB v t s = false → I (s + 1) W)
    (Bk Bx : World → Prop) (kB : ∀ W W', Bk W → Below W.heap.size W W' → Bk W')
    (hY : ∀ (s : Int) (x : Int × Int × Int) W, Bk W → (I s W ∧ s = x.1 ∧ 0 ≤ x.1 ∧ x.1 < v.c.n ∧ tolB v t x.1 = true ∧ x.2.1 = (atA v x.1 t).a ∧ x.2.2 = (atA v x.1 t).b) →
      YieldAt Fence.wide (q - 1) Try.prog l #[.int .i64 x.1, .agg #[.int .i64 x.2.1, .int .i64 x.2.2]] W fun e W' => (e = .returned (.bool true) ∧ Bk W' ∧ I (x.1 + 1) W') ∨ (e = .returned (.bool false) ∧ Bx W'))
    (W : World) (hW : Bk W) (hI : I 0 W) :
    CallsIn Fence.wide q Try.prog 56 #[.func (.yield l) #[] #[], .pointer (some ⟨bT, 0, none⟩), .pointer (some ⟨bN, 0, none⟩)] W fun e W' => (∃ v, e = .returned v) ∧ ((∃ s : Int, AtEnd v s ∧ Bk W' ∧ I s W') ∨ Bx W') := by
  have HY : Hid (∀ (s : Int) (x : Int × Int × Int) W, Bk W → (I s W ∧ s = x.1 ∧ 0 ≤ x.1 ∧ x.1 < v.c.n ∧ tolB v t x.1 = true ∧ x.2.1 = (atA v x.1 t).a ∧ x.2.2 = (atA v x.1 t).b) →
      YieldAt Fence.wide (q - 1) Try.prog l #[.int .i64 x.1, .agg #[.int .i64 x.2.1, .int .i64 x.2.2]] W fun e W' => (e = .returned (.bool true) ∧ Bk W' ∧ I (x.1 + 1) W') ∨ (e = .returned (.bool false) ∧ Bx W')) := hY
  have HI : Hid (∀ s W, I s W → W.cell? ⟨bT, 0, none⟩ = some (.pointer (some ⟨g, 0, none⟩)) ∧ W.cell? ⟨bN, 0, none⟩ = some (.int .i64 t) ∧ Bd W g m v n) := bI
  have HS : Hid (∀ s W, I s W → 0 ≤ s → s < v.c.n → tolB v t s = false → I (s + 1) W) := sI
  have hr := right_of ok.r
  have HK0 : Hid (0 ≤ v.c.n ∧ v.c.n ≤ 8) := ⟨by have := hr.n0; omega, hr.n1⟩
  have HOK : Hid v.ok := ok
  clear hY bI sI ok hr
  obtain ⟨q1, q2, hbd⟩ := HI.out 0 W hI
  have KM := made_ok W g m hbd.at'.known
  have c0 := hbd.at'.cfg.1
  clear hbd q2
  refine callsIn_of_wp Try.func56 rfl trivial ?_ rfl
  simp only [Try.ntmps56, List.size_toArray, List.length_cons, List.length_nil, Nat.reduceAdd, Nat.reduceSub, Array.replicate_succ, Array.replicate_zero, List.push_toArray, List.append_toArray, List.nil_append, List.cons_append]
  gi_wp2
  refine ⟨trivial, (fun h => by cases h), (callsIn_wide.2 KM).mono ?_⟩
  rintro e w1 ⟨rfl, rfl⟩
  clear KM
  gi_wp2
  clear c0 q1
  gi_loopw [15] (fun iv wr => ∃ j : Int, iv = .int .i64 j ∧ 0 ≤ j ∧ j ≤ v.c.n ∧ Bk wr ∧ I j wr) (fun iv _ => (v.c.n - intOf iv).toNat)
  case atStart => exact ⟨0, rfl, by omega, HK0.out.1, hW, hI⟩
  case round =>
    obtain ⟨j, rfl, hj0, hj1, hBk, hIk⟩ := hrel
    have HJ : Hid (0 ≤ j ∧ j ≤ v.c.n) := ⟨hj0, hj1⟩
    clear hW hI hj0 hj1
    by_cases hlt : j < v.c.n
    · have HL : Hid (j < v.c.n) := hlt
      obtain ⟨q1, q2, hbd⟩ := HI.out j wr hIk
      have c0 := hbd.at'.cfg.1
      have c10 := hbd.at'.node
      have K := at_ok wr g m v n hbd HOK.out j t
      have HX : Hid (tolB v t j = ((atA v j t).e == 0 || j == v.i)) := rfl
      have HY2 := HY.out j (j, (atA v j t).a, (atA v j t).b)
      dsimp only at HY2
      have HY3 : Hid (∀ W, Bk W → I j W → tolB v t j = true → YieldAt Fence.wide (q - 1) Try.prog l #[.int .i64 j, .agg #[.int .i64 (atA v j t).a, .int .i64 (atA v j t).b]] W fun e W' => (e = .returned (.bool true) ∧ Bk W' ∧ I (j + 1) W') ∨ (e = .returned (.bool false) ∧ Bx W')) :=
        fun W h1 h2 h3 => HY2 W h1 ⟨h2, rfl, HJ.out.1, HL.out, h3, rfl, rfl⟩
      clear HY2 HY hbd
      generalize atA v j t = X at *
      obtain ⟨x, y, z⟩ := X
      dsimp only at *
      have e1 : IntKind.i64.wrap (j + 1) = j + 1 := wrap_in (by have := HJ.out; omega) (by have := HJ.out; have := HK0.out; omega)
      have HE : Hid (0 ≤ j + 1 ∧ j + 1 ≤ v.c.n ∧ (v.c.n - (j + 1)).toNat < (v.c.n - j).toNat) := by
        have h1 := HJ.out; have h2 := HL.out
        exact ⟨by omega, by omega, by omega⟩
      gi_wp2
      refine ⟨trivial, (fun h => by cases h), (callsIn_wide.2 K).mono ?_⟩
      rintro e w2 ⟨rfl, hb2⟩
      have hB2 := kB _ _ hBk hb2
      have hI2 := kI _ _ _ hIk hb2
      obtain ⟨q1, q2, hbd⟩ := HI.out j w2 hI2
      have hb3 : Below w2.heap.size w2 (w2.alloc (.cells #[.int .i64 x, .int .i64 y] 39)) := Go.Joins.below_alloc1 _ _
      have hB3 := kB _ _ hB2 hb3
      have hI3 := kI _ _ _ hI2 hb3
      obtain ⟨q1, q2, hbd⟩ := HI.out j _ hI3
      have c10 := hbd.at'.node
      clear K hb2 hBk hIk hbd hB2 hI2 hb3
      by_cases hz : z = 0
      · have htl : tolB v t j = true := by rw [HX.out, hz]; rfl
        clear HX
        subst hz
        obtain ⟨fn, tmps, assign, body, hy, hR⟩ := HY3.out _ hB3 hI3 htl
        have HR : Hid (RoundIn Fence.wide (q - 1) Try.prog l fn tmps assign body (w2.alloc (.cells #[.int .i64 x, .int .i64 y] 39)) fun e W' => (e = .returned (.bool true) ∧ Bk W' ∧ I (j + 1) W') ∨ (e = .returned (.bool false) ∧ Bx W')) := hR
        clear hR HY3 htl hB3 hI3
        gi_wp2
        refine ⟨(fun h => by cases h), HR.out.mono ?_⟩
        clear hy HR
        rintro e W2 (⟨rfl, hB3, hI3⟩ | ⟨rfl, hX3⟩)
        · obtain ⟨j2, hj2⟩ : ∃ j2, j2 = j + 1 := ⟨_, rfl⟩
          rw [← hj2] at HE hI3
          have e2 : IntKind.i64.wrap (j + 1) = j2 := by rw [hj2]; exact e1
          clear e1 hj2
          gi_wp2
          go_roundw
          case rel => exact ⟨j2, rfl, HE.out.1, HE.out.2.1, hB3, hI3⟩
          case measure => exact HE.out.2.2
        · gi_wp2
          refine bodyPost_ret (results_none rfl _ _ _) rfl ?_
          exact ⟨⟨_, rfl⟩, .inr hX3⟩
      generalize v.i = i at *
      by_cases hji : j = i
      · have htl : tolB v t j = true := by rw [HX.out]; simp [hji]
        clear HX
        subst hji
        obtain ⟨fn, tmps, assign, body, hy, hR⟩ := HY3.out _ hB3 hI3 htl
        have HR : Hid (RoundIn Fence.wide (q - 1) Try.prog l fn tmps assign body (w2.alloc (.cells #[.int .i64 x, .int .i64 y] 39)) fun e W' => (e = .returned (.bool true) ∧ Bk W' ∧ I (j + 1) W') ∨ (e = .returned (.bool false) ∧ Bx W')) := hR
        clear hR HY3 htl hB3 hI3
        gi_wp2
        refine ⟨(fun h => by cases h), HR.out.mono ?_⟩
        clear hy HR
        rintro e W2 (⟨rfl, hB3, hI3⟩ | ⟨rfl, hX3⟩)
        · obtain ⟨j2, hj2⟩ : ∃ j2, j2 = j + 1 := ⟨_, rfl⟩
          rw [← hj2] at HE hI3
          have e2 : IntKind.i64.wrap (j + 1) = j2 := by rw [hj2]; exact e1
          clear e1 hj2
          gi_wp2
          go_roundw
          case rel => exact ⟨j2, rfl, HE.out.1, HE.out.2.1, hB3, hI3⟩
          case measure => exact HE.out.2.2
        · gi_wp2
          refine bodyPost_ret (results_none rfl _ _ _) rfl ?_
          exact ⟨⟨_, rfl⟩, .inr hX3⟩
      · have htl : tolB v t j = false := by rw [HX.out]; simp [hji, hz]
        have hI4 := HS.out j _ hI3 HJ.out.1 HL.out htl
        clear HX htl hI3 HY3
        obtain ⟨j2, hj2⟩ : ∃ j2, j2 = j + 1 := ⟨_, rfl⟩
        rw [← hj2] at HE hI4
        have e2 : IntKind.i64.wrap (j + 1) = j2 := by rw [hj2]; exact e1
        clear e1 hj2
        gi_wp2
        refine ⟨(fun _ h => by cases h), ?_⟩
        gi_wp2
        go_roundw
        case rel => exact ⟨j2, rfl, HE.out.1, HE.out.2.1, hB3, hI4⟩
        case measure => exact HE.out.2.2
    · have HQ : Hid (j = v.c.n) := by
        show j = v.c.n
        have := HJ.out
        omega
      have HB : Hid (Bk wr ∧ I j wr) := ⟨hBk, hIk⟩
      clear hBk hIk HY
      gi_wp2
      go_end0
      exact ⟨⟨_, rfl⟩, .inl ⟨j, HQ.out, HB.out⟩⟩
end Go.Proofs.Ytoibndfiolipbaa
