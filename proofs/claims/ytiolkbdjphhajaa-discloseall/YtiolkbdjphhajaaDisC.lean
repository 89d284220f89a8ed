/-
  The contracts of disclose.tellings and of the closure that it answers.
-/
import Derived.Test.YtiolkbdjphhajaaDisB
import Derived.Test.YtiolkbdjphhajaaRangeLaw
import Derived.Shelf.Abstract
import Derived.Shelf.RegionOpen
import Derived.OwnWalkIn
import Derived.TacticsInMore
import Derived.LoopNIn
import Derived.LoopIn
namespace Go.Proofs.Ytiolkbdjphhajaa
open Go.ChangeShapes Go.WideShapes Go.ChangeAt Go.RowKit

theorem tellings_ok (w : World) (c : Cf) (sl st : Int) :
    Calls Try.prog 30 #[.agg (cfC c), .int .i64 sl, .int .i64 st] w fun e w' => e = .returned (.func (.func 43) #[] #[.pointer (some ⟨w.heap.size, 0, none⟩), .pointer (some ⟨w.heap.size + 1, 0, none⟩), .pointer (some ⟨w.heap.size + 1 + 1, 0, none⟩)]) ∧
      w' = ((w.alloc (.cells (cfC c) 23)).alloc (.cells #[.int .i64 sl] 3)).alloc (.cells #[.int .i64 st] 3) := by
  have hmf : ∀ (fn : Fn) (first cap : Array Value) (w : World), (Instr.makeFunc fn first cap).run Try.prog w = .ok (.func fn first cap) w := fun _ _ _ _ => rfl
  go_enter Try.func30, Try.ntmps30
  go_wp2
  go_ret
  exact ⟨rfl, rfl⟩
end Go.Proofs.Ytiolkbdjphhajaa

namespace Go.Proofs.Ytiolkbdjphhajaa
open Go.ChangeShapes Go.WideShapes Go.ChangeAt Go.RowKit Go.Shelf
attribute [local go_sem] Oper.semAt_some

set_option maxRecDepth 100000 in
set_option maxHeartbeats 4000000 in
set_option maxRecDepth 20000 in
theorem tell_in (m l bC bS bT : Nat) (c : Cf) (sl st : Int) (hk0 : 0 ≤ c.k) (hk : c.k ≤ 256)
    (I : Int → World → Prop) (kI : ∀ s W W', I s W → Below W.heap.size W W' → I s W')
    (bI : ∀ s W, I s W → CfAt W bC c ∧ W.cell? ⟨bS, 0, none⟩ = some (.int .i64 sl) ∧ W.cell? ⟨bT, 0, none⟩ = some (.int .i64 st))
    (Bk Bx : World → Prop) (kB : ∀ W W', Bk W → Below W.heap.size W W' → Bk W')
    (hY : ∀ (s : Int) (x : Int × Int) W, Bk W → (I s W ∧ s = x.1 - 1 ∧ 1 ≤ x.1 ∧ x.1 ≤ c.k ∧ whB c sl st x.1 = true ∧ x.2 = whN c sl st x.1) → YieldAt Fence.wide (m - 1) Try.prog l #[.int .i64 x.1, .int .i64 x.2] W fun e W' => (e = .returned (.bool true) ∧ Bk W' ∧ I x.1 W') ∨ (e = .returned (.bool false) ∧ Bx W'))
    (W : World) (hW : Bk W) (hI : I 0 W) :
    CallsIn Fence.wide m Try.prog 43 #[.func (.yield l) #[] #[], .pointer (some ⟨bC, 0, none⟩), .pointer (some ⟨bS, 0, none⟩), .pointer (some ⟨bT, 0, none⟩)] W fun e W' => (∃ v, e = .returned v) ∧ ((∃ s : Int, (0 ≤ s ∧ s ≤ c.k ∧ (s = c.k ∨ whB c sl st (s + 1) = false)) ∧ Bk W' ∧ I s W') ∨ Bx W') := by
  have HY : Hid (∀ (s : Int) (x : Int × Int) W, Bk W → (I s W ∧ s = x.1 - 1 ∧ 1 ≤ x.1 ∧ x.1 ≤ c.k ∧ whB c sl st x.1 = true ∧ x.2 = whN c sl st x.1) → YieldAt Fence.wide (m - 1) Try.prog l #[.int .i64 x.1, .int .i64 x.2] W fun e W' => (e = .returned (.bool true) ∧ Bk W' ∧ I x.1 W') ∨ (e = .returned (.bool false) ∧ Bx W')) := hY
  have HI : Hid (∀ s W, I s W → CfAt W bC c ∧ W.cell? ⟨bS, 0, none⟩ = some (.int .i64 sl) ∧ W.cell? ⟨bT, 0, none⟩ = some (.int .i64 st)) := bI
  have HK0 : Hid (0 ≤ c.k) := hk0
  have HK : Hid (c.k ≤ 256) := hk
  clear hY bI hk0 hk
  refine callsIn_of_wp Try.func43 rfl trivial ?_ rfl
  simp only [Try.ntmps43, List.size_toArray, List.length_cons, List.length_nil, Nat.reduceAdd, Nat.reduceSub, Array.replicate_succ, Array.replicate_zero, List.push_toArray, List.append_toArray, List.nil_append, List.cons_append]
  gi_wp2
  gi_loopw [5] (fun iv wr => ∃ j : Int, iv = .int .i64 j ∧ 1 ≤ j ∧ j ≤ c.k + 1 ∧ Bk wr ∧ I (j - 1) wr) (fun iv _ => (c.k + 1 - intOf iv).toNat)
  case atStart => exact ⟨1, rfl, by omega, by have := HK0.out; omega, hW, hI⟩
  case round =>
    obtain ⟨j, rfl, hj0, hj1, hBk, hIk⟩ := hrel
    have hB : CfAt wr bC c := (HI.out _ wr hIk).1
    have k1 := iskey_ok wr c j
    obtain ⟨p0, p1, p2, p3, p4, p5, p6, p7, p8, p9⟩ := (⟨hB.c0, hB.c1, hB.c2, hB.c3, hB.c4, hB.c5, hB.c6, hB.c7, hB.c8, hB.c9⟩ : _ ∧ _ ∧ _ ∧ _ ∧ _ ∧ _ ∧ _ ∧ _ ∧ _ ∧ _)
    have HJ : Hid (1 ≤ j ∧ j ≤ c.k + 1) := ⟨hj0, hj1⟩
    clear hB hW hI hj0 hj1
    gi_wp2
    refine ⟨trivial, (fun h => by cases h), (callsIn_wide.2 k1).mono ?_⟩
    rintro e w1 ⟨rfl, hb1⟩
    have hB1 := kB _ _ hBk hb1
    have hI1 := kI _ _ _ hIk hb1
    clear k1 hb1 hBk hIk p0 p1 p2 p3 p4 p5 p6 p7 p8 p9
    cases hq : keyB c j
    · have HQ : Hid (j = c.k + 1) := by
        show j = c.k + 1
        have := HJ.out
        by_cases h : j ≤ c.k
        · simp [keyB, h, this.1] at hq
        · omega
      clear hq
      gi_wp2
      go_end0
      exact ⟨⟨_, rfl⟩, .inl ⟨j - 1, ⟨by have := HJ.out; omega, by have := HJ.out; omega, .inl (by have := HQ.out; omega)⟩, hB1, hI1⟩⟩
    · obtain ⟨hB, q1, q2⟩ := HI.out _ w1 hI1
      have k2 := when_ok w1 c sl st j
      unfold whV at k2
      obtain ⟨p0, p1, p2, p3, p4, p5, p6, p7, p8, p9⟩ := (⟨hB.c0, hB.c1, hB.c2, hB.c3, hB.c4, hB.c5, hB.c6, hB.c7, hB.c8, hB.c9⟩ : _ ∧ _ ∧ _ ∧ _ ∧ _ ∧ _ ∧ _ ∧ _ ∧ _ ∧ _)
      have HQ : Hid (j ≤ c.k) := (key_in hq).2
      clear hq hB
      cases hw : whB c sl st j
      · rw [hw, if_neg Bool.false_ne_true] at k2
        have HW : Hid (whB c sl st j = false) := hw
        clear hw
        gi_wp2
        refine ⟨trivial, (fun h => by cases h), (callsIn_wide.2 k2).mono ?_⟩
        rintro e w2 ⟨rfl, hb2⟩
        have hB2 := kB _ _ hB1 hb2
        have hI2 := kI _ _ _ hI1 hb2
        clear k2 hb2 hB1 hI1 p0 p1 p2 p3 p4 p5 p6 p7 p8 p9 q1 q2
        gi_wp2
        refine ⟨(fun _ h => by cases h), ?_⟩
        gi_wp2
        refine bodyPost_ret (results_none rfl _ _ _) rfl ?_
        exact ⟨⟨_, rfl⟩, .inl ⟨j - 1, ⟨by have := HJ.out; omega, by have := HJ.out; omega, .inr (by rw [Int.sub_add_cancel]; exact HW.out)⟩, hB2, hI2⟩⟩
      · rw [hw, if_pos rfl] at k2
        have HW : Hid (whB c sl st j = true) := hw
        clear hw
        gi_wp2
        refine ⟨trivial, (fun h => by cases h), (callsIn_wide.2 k2).mono ?_⟩
        rintro e w2 ⟨rfl, hb2⟩
        have hB2 := kB _ _ hB1 hb2
        have hI2 := kI _ _ _ hI1 hb2
        obtain ⟨fn, tmps, assign, body, hy, hR⟩ := HY.out (j - 1) (j, whN c sl st j) w2 hB2 ⟨hI2, rfl, HJ.out.1, HQ.out, HW.out, rfl⟩
        have HR : Hid (RoundIn Fence.wide (m - 1) Try.prog l fn tmps assign body w2 fun e W' => (e = .returned (.bool true) ∧ Bk W' ∧ I j W') ∨ (e = .returned (.bool false) ∧ Bx W')) := hR
        dsimp only at hy
        clear k2 hb2 hB1 hI1 p0 p1 p2 p3 p4 p5 p6 p7 p8 p9 q1 q2 hR hB2 hI2
        gi_wp2
        refine ⟨(fun h => by cases h), HR.out.mono ?_⟩
        clear hy HR
        rintro e W2 (⟨rfl, hB3, hI3⟩ | ⟨rfl, hX3⟩)
        · have e1 : IntKind.i64.wrap (j + 1) = j + 1 := wrap_in (by have := HJ.out; omega) (by have := HJ.out; have := HK.out; omega)
          have HE : Hid (1 ≤ j + 1 ∧ j + 1 ≤ c.k + 1 ∧ j + 1 - 1 = j ∧ (c.k + 1 - (j + 1)).toNat < (c.k + 1 - j).toNat) := by
            have h1 := HJ.out; have h2 := HQ.out
            exact ⟨by omega, by omega, by omega, by omega⟩
          obtain ⟨j2, hj2⟩ : ∃ j2, j2 = j + 1 := ⟨_, rfl⟩
          rw [← hj2] at HE
          have e2 : IntKind.i64.wrap (j + 1) = j2 := by rw [hj2]; exact e1
          clear e1 hj2
          gi_wp2
          go_roundw
          case rel => exact ⟨j2, rfl, HE.out.1, HE.out.2.1, hB3, by rw [HE.out.2.2.1]; exact hI3⟩
          case measure => exact HE.out.2.2.2
        · gi_wp2
          refine bodyPost_ret (results_none rfl _ _ _) rfl ?_
          exact ⟨⟨_, rfl⟩, .inr hX3⟩
end Go.Proofs.Ytiolkbdjphhajaa
