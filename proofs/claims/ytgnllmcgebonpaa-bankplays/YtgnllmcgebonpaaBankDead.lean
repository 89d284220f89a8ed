/-
  What those and newest tell of a dead flash.
-/
import Derived.Test.YtgnllmcgebonpaaBankThose
namespace Go.Proofs.Ytgnllmcgebonpaa
open Go.ChangeShapes Go.WideShapes Go.ChangeAt Go.RowKit

theorem read_dead (w : World) (g : Nat) (s : PS) (F : Nat → Prop) (h : PF w g s F) (hd : s.dead = true) (A : Nat) (hA : A ≤ 5000) (n : Int) :
    Calls Try.prog 30 #[.pointer (some ⟨g, 0, none⟩), .int .i64 (A : Int), .int .i64 n] w fun e w' => e = .returned (.tuple #[.slice none 0 0, .int .i64 5]) ∧ w' = w := by
  obtain ⟨q, cap, cur, h, hF, hq, hl⟩ := h
  have hck := check_ok w g s q cap cur h A n (wf_i64 _ (by omega) (by omega))
  have hc : checkE s A n = 5 := by unfold checkE; rw [hd, if_pos rfl]
  rw [hc, show ((5 : Nat) : Int) = 5 from rfl] at hck
  clear h hl hc hF hq hA
  go_enter Try.func30, Try.ntmps30
  go_wp2_with fail
  refine hck.mono ?_
  rintro e w1 ⟨rfl, rfl⟩
  clear hck
  go_wp2
  go_ret2
  exact ⟨rfl, rfl⟩

set_option maxHeartbeats 3200000 in
set_option maxRecDepth 20000 in
theorem those_dead (f : Value) (w : World) (b g A N : Nat) (s : PS) (F : Nat → Prop) (hP : PF w g s F) (hB : BA w b g A N) (hd : s.dead = true) (hA : A ≤ 4096) (hN : N ≤ 64) :
    Calls Try.prog 43 #[.pointer (some ⟨b, 0, none⟩), f] w fun e w' => e = .returned (.tuple #[.slice none 0 0, .int .i64 5]) ∧ Below w.heap.size w w' := by
  have HS : Hid (∀ W, Below w.heap.size w W → PF W g s F ∧ BA W b g A N) := fun W hb => ⟨pf_kept.below hP hb, hB.below hb⟩
  have hst := bstands_ok w b g A N hB
  have H0 : Hid (Kb w b g N w) := Kb.of hB
  have K1 : Hid (∀ W, Kb w b g N W → Calls Try.prog 51 #[.pointer (some ⟨b, 0, none⟩), .int .i64 0] W fun e w' => e = .returned (.int .i64 (A : Int)) ∧ Below W.heap.size W w') := fun W hb => place_ok W b g A N 0 A (HS.out W hb.2.2).2 hA hN (by omega) (by omega)
  have K2 : Hid (∀ W, Kb w b g N W → Calls Try.prog 30 #[.pointer (some ⟨g, 0, none⟩), .int .i64 (A : Int), .int .i64 ((N : Int) + 8)] W fun e w' => e = .returned (.tuple #[.slice none 0 0, .int .i64 5]) ∧ Below W.heap.size W w' ∧ Below w.heap.size w w') := fun W hb => by
    refine (read_dead W g s F (HS.out W hb.2.2).1 hd A (by omega) _).mono ?_
    rintro e w' ⟨rfl, rfl⟩
    exact ⟨rfl, Below.refl _ _, hb.2.2⟩
  have e1 : IntKind.i64.wrap ((N : Int) + 8) = (N : Int) + 8 := by rw [IntKind.wrap_i64]; omega
  obtain ⟨⟨cb0, cb2⟩, _⟩ := H0.out
  clear hP hB hd HS
  go_enter Try.func43, Try.ntmps43
  go_wp2_with fail
  refine hst.mono ?_
  rintro e w1 ⟨rfl, rfl⟩
  clear hst
  go_wp2
  go_loopw [6, 14] (fun t u wr => t = .slice none 0 0 ∧ u = .int .i64 0 ∧ wr = w1) (fun _ _ _ => 0)
  case atStart => exact ⟨rfl, rfl, rfl⟩
  case round =>
    obtain ⟨rfl, rfl, rfl⟩ := hrel
    go_wp2
    go_region_held3 (fun W => (W.cell? ⟨b, 0, none⟩ = some (.pointer (some ⟨g, 0, none⟩)) ∧ W.cell? ⟨b, 2, none⟩ = some (.int .i64 (N : Int))) ∧ b < wr.heap.size ∧ Below wr.heap.size wr W)
        (first | exact H0.out | assumption | exact H0.out.drew | exact Kb.drew (by assumption) | exact Kb.below (by assumption) (by assumption))
        (first | (go_at_call 51; refine (K1.out _ ?_).mono ?_; (focus (first | exact H0.out | assumption | exact H0.out.drew | exact Kb.drew (by assumption) | exact Kb.below (by assumption) (by assumption))); rintro e w9 ⟨rfl, hb9⟩)
               | (go_at_call 30; refine (K2.out _ ?_).mono ?_; (focus (first | exact H0.out | assumption | exact H0.out.drew | exact Kb.drew (by assumption) | exact Kb.below (by assumption) (by assumption))); rintro e w9 ⟨rfl, hb8, hbr⟩))
    go_wp2
    go_ret2
    exact ⟨rfl, hbr⟩
theorem newest_dead (w : World) (b g A N : Nat) (s : PS) (F : Nat → Prop) (hP : PF w g s F) (hB : BA w b g A N) (hd : s.dead = true) (hA : A ≤ 4096) (hN : N ≤ 64) :
    Calls Try.prog 34 #[.pointer (some ⟨b, 0, none⟩)] w fun e w' => e = .returned (.tuple #[.agg #[.slice none 0 0, .int .i64 0], .bool false, .int .i64 5]) ∧ Below w.heap.size w w' := by
  have hb : Below w.heap.size w (w.alloc (.cells #[.slice none 0 0, .int .i64 0] 72)) := (Below.refl _ _).alloc (Nat.le_refl _) _
  have hs := those_dead (.func (.methodOf 72 "carillon/bank.whole") #[] #[]) _ b g A N s F (pf_kept.below hP hb) (hB.below hb) hd hA hN
  have HC : Hid (Cont (w.alloc (.cells #[.slice none 0 0, .int .i64 0] 72)) w.heap.size (.slice none 0 0) (.int .i64 0)) := Cont.new w (.slice none 0 0) (.int .i64 0)
  clear hP hB hd
  go_enter Try.func34, Try.ntmps34
  go_wp2_with fail
  refine hs.mono ?_
  rintro e w1 ⟨rfl, hb1⟩
  have HC2 : Hid (Cont w1 w.heap.size (.slice none 0 0) (.int .i64 0)) := HC.out.below hb1
  obtain ⟨x0, x1, x2, x3⟩ := HC2.out.facts
  have hb2 := hb.trans (hb1.mono hb.size)
  clear hs HC hb1
  go_wp2
  refine bodyPost_ret (res_cont3 rfl rfl (HC2.out.set _ _)) rfl ?_
  exact ⟨rfl, below_pair hb2 (Nat.le_refl _) _ _⟩
end Go.Proofs.Ytgnllmcgebonpaa
