/-
  Receivers are made, the program's and the document's.
-/
import Derived.Test.YtmffplhaclnehaaGreatDoorTesA
import Derived.Test.YtmffplhaclnehaaGreatDoorSchedC
namespace Go.Proofs.YtmffplhaclnehaaGreatDoor
open Go.ChangeShapes Go.WideShapes Go.ChangeAt Go.RowKit
set_option maxRecDepth 20000
theorem tbuild (w : World) (c : Cf) (me : Int) (g : Nat) : (Instr.build 76 #[(0, .agg (cfC c)), (1, .int .i64 me), (2, .agg #[.int .i64 (-1), .int .i64 0, .int .i64 (-1), .slice none 0 0]), (3, .int .i64 (-1)), (4, .pointer (some ⟨g, 0, none⟩))]).run Tryz.prog w = .ok (.agg (pcL (newR c me) none 0 g).toArray) w := run_build w 76 _ _ (by kernel_rfl)
theorem abuild (w : World) : (Instr.build 73 #[(0, .int .i64 (-1)), (2, .int .i64 (-1))]).run Tryz.prog w = .ok (.agg #[.int .i64 (-1), .int .i64 0, .int .i64 (-1), .slice none 0 0]) w := run_build w 73 _ _ (by kernel_rfl)
def TBorn (w : World) (R : Nat) (c : Cf) (me : Int) (w' : World) : Prop := ∃ F, PM w' R (newR c me, 0) F ∧ (∀ k, F k → w.heap.size ≤ k) ∧ Below w.heap.size w w'
def DBorn (w : World) (R : Nat) (c : Cf) (me : Int) (w' : World) : Prop := ∃ F, DM w' R (newR c me) F ∧ (∀ k, F k → w.heap.size ≤ k) ∧ Below w.heap.size w w'
set_option maxHeartbeats 1600000 in
theorem tnew_no (w : World) (c : Cf) (me : Int) (h : ¬ (okB c = true ∧ 0 ≤ me ∧ me < c.n)) : Calls Tryz.prog 8 #[.agg (cfC c), .int .i64 me] w fun e w' => e = .returned (.tuple #[.pointer none, .int .i64 1]) ∧ Below w.heap.size w w' := by
  have HL : Hid ((Instr.loadAt 23 (.pointer (some ⟨w.heap.size, 0, none⟩))).run Tryz.prog (w.alloc (.cells (cfC c) 23)) = .ok (.agg (cfC c)) (w.alloc (.cells (cfC c) 23))) := (CfAt.new w c).loads
  have K1 := scheck_ok (w.alloc (.cells (cfC c) 23)) c
  have H0 : Hid (Below w.heap.size w (w.alloc (.cells (cfC c) 23))) := (Below.refl _ _).alloc (Nat.le_refl _) _
  have c0 : (w.alloc (.cells (cfC c) 23)).cell? ⟨w.heap.size, 0, none⟩ = some (.int .i64 c.n) := (CfAt.new w c).c0
  have C0 : Hid (CfAt (w.alloc (.cells (cfC c) 23)) w.heap.size c) := CfAt.new w c
  go_enter Tryz.func8, Tryz.ntmps8
  go_upto_region 1 with fail
  generalize hW : w.alloc (Obj.cells (cfC c) 23) = W at *
  go_wp2_with (first | (refine wpList_gload_run rfl 23 _ rfl _ _ rfl HL.out ?_) | fail)
  refine K1.mono ?_
  rintro e w1 ⟨rfl, hb1⟩
  have H1 : Hid (Below w.heap.size w w1) := H0.out.trans (hb1.mono H0.out.size)
  have c1 := (C0.out.below hb1).c0
  clear K1 hb1 c0 C0 HL H0
  by_cases h1 : okB c = true
  · rw [if_pos h1]
    by_cases h2 : me < 0
    · clear h
      go_wp2
      go_ret2
      exact ⟨rfl, H1.out⟩
    · have h3 : c.n ≤ me := Int.not_lt.1 fun hh => h ⟨h1, by omega, hh⟩
      clear h
      go_wp2
      go_ret2
      exact ⟨rfl, H1.out⟩
  · rw [if_neg h1]
    clear h h1
    go_wp2
    go_ret2
    exact ⟨rfl, H1.out⟩
set_option maxHeartbeats 1600000 in
theorem tnew_ok (w : World) (c : Cf) (me : Int) (hz : 3 ≤ w.heap.size) (h : okB c = true) (h0 : 0 ≤ me) (h1 : me < c.n) : Calls Tryz.prog 8 #[.agg (cfC c), .int .i64 me] w fun e w' => ∃ R, e = .returned (.tuple #[.pointer (some ⟨R, 0, none⟩), .int .i64 0]) ∧ TBorn w R c me w' := by
  have HL : Hid ((Instr.loadAt 23 (.pointer (some ⟨w.heap.size, 0, none⟩))).run Tryz.prog (w.alloc (.cells (cfC c) 23)) = .ok (.agg (cfC c)) (w.alloc (.cells (cfC c) 23))) := (CfAt.new w c).loads
  have K1 := scheck_ok (w.alloc (.cells (cfC c) 23)) c
  rw [if_pos h] at K1
  have H0 : Hid (Below w.heap.size w (w.alloc (.cells (cfC c) 23))) := (Below.refl _ _).alloc (Nat.le_refl _) _
  have C0 : Hid (CfAt (w.alloc (.cells (cfC c) 23)) w.heap.size c) := CfAt.new w c
  have HOK : Hid (3 ≤ w.heap.size ∧ okB c = true ∧ 0 ≤ me ∧ me < c.n) := ⟨hz, h, h0, h1⟩
  have g0 : ¬ (me < 0) := by omega
  have g1 : ¬ (c.n ≤ me) := by omega
  obtain ⟨p, hp⟩ : ∃ p : Nat, c.p = (p : Int) := ⟨c.p.toNat, by have := okB_keys h; omega⟩
  have hp1 : 1 ≤ p ∧ p ≤ 64 := by have := okB_keys h; omega
  clear hz h h0 h1
  go_enter Tryz.func8, Tryz.ntmps8
  go_upto_region 1 with fail
  generalize hW : w.alloc (Obj.cells (cfC c) 23) = W at *
  go_wp2_with (first | (refine wpList_gload_run rfl 23 _ rfl _ _ rfl HL.out ?_) | fail)
  refine K1.mono ?_
  rintro e w1 ⟨rfl, hb1⟩
  have H1 : Hid (Below w.heap.size w w1) := H0.out.trans (hb1.mono H0.out.size)
  have C1 : Hid (CfAt w1 w.heap.size c) := C0.out.below hb1
  have c1 := C1.out.c0
  have c9 := C1.out.c9
  rw [hp] at c9
  have K2 := new_ok w1 p hp1.1 hp1.2
  clear K1 hb1 C0 HL H0 hW
  go_wp2_with fail
  refine K2.mono ?_
  rintro e w2 ⟨g, rfl, hBo⟩
  obtain ⟨mm, vv, ss, hPb, hb2, hown⟩ := hBo
  have H2 : Hid (Below w.heap.size w w2) := H1.out.trans (hb2.mono H1.out.size)
  have HL2 : Hid ((Instr.loadAt 23 (.pointer (some ⟨w.heap.size, 0, none⟩))).run Tryz.prog w2 = .ok (.agg (cfC c)) w2) := (C1.out.below hb2).loads
  obtain ⟨W3, hW3⟩ : ∃ W3, W3 = w2.alloc (.cells (pcL (newR c me) none 0 g).toArray 76) := ⟨_, rfl⟩
  have hb3 : Below w2.heap.size w2 W3 := by rw [hW3]; exact (Below.refl _ _).alloc (Nat.le_refl _) _
  have hat : PAt W3 w2.heap.size (newR c me) none 0 g := by rw [hW3]; exact heap_alloc_new _ _
  have hs0 : (⟨p, 0, []⟩ : Bs) = (newR c me).b := by unfold newR; rw [hp]; rfl
  have HE : Hid (TBorn w w2.heap.size c me W3) := by
    have hw1 := H1.out.size
    have hw2 := H2.out.size
    have hz := HOK.out.1
    have hlo : ∀ k, POwn w2.heap.size g mm vv k → w.heap.size ≤ k := fun k hk => by
      rcases hk with rfl | hk
      · exact hw2
      · have := hown k hk; omega
    rw [hs0] at hPb
    exact ⟨_, ⟨g, mm, vv, none, 0, ss, ⟨hat, Sees.nil' _, hPb.below hb3⟩, new_is_ok HOK.out.2.1 HOK.out.2.2.1 HOK.out.2.2.2, fun k hk => by have := hlo k hk; omega, rfl⟩, hlo, H2.out.trans (hb3.mono H2.out.size)⟩
  have HW3 : Hid (W3 = w2.alloc (.cells (pcL (newR c me) none 0 g).toArray 76)) := hW3
  have hab := abuild
  have htb := tbuild
  clear K2 hPb hb2 hown hat hs0 hb3 hW3 c1 c9 hp1
  go_wp2_with (first | (refine wpList_gload_run rfl 23 _ rfl _ _ rfl HL2.out ?_) | (refine wpList_build_run rfl 73 _ rfl _ _ rfl (abuild _) ?_) | (refine wpList_build_run rfl 76 _ rfl _ _ rfl (tbuild _ _ _ _) ?_) | fail)
  rw [← HW3.out]
  go_ret2
  exact ⟨_, rfl, HE.out⟩
end Go.Proofs.YtmffplhaclnehaaGreatDoor
