/-
  The document's chain of a speaker: New, Mac, Told, Over.
-/
import Derived.Test.YtgncdnejmobjbaaGreatDoorRenD
namespace Go.Proofs.YtgncdnejmobjbaaGreatDoor
open Go.ChangeShapes Go.WideShapes Go.ChangeAt Go.RowKit
set_option maxRecDepth 20000

theorem nbuild (w : World) (c : Cf) (a : Option Addr) (ca : Nat) (own : List UInt8) (sl : Int) : (Instr.build 52 #[(0, .agg (cfC c)), (1, .slice a own.length ca), (2, .int .i64 sl), (3, .int .i64 (-1)), (4, .int .i64 (-1))]).run Tryz.prog w = .ok (.agg (dnL (rnNew c own sl) a ca (.slice none 0 0)).toArray) w := run_build w 52 _ _ (by kernel_rfl)

set_option maxHeartbeats 1600000 in
theorem dnew_no (w : World) (c : Cf) (a : Option Addr) (ca : Nat) (own : List UInt8) (sl : Int) (h : rnB c own sl = false) : Calls Tryz.prog 6 #[.agg (cfC c), .slice a own.length ca, .int .i64 sl] w fun e w' => e = .returned (.tuple #[.pointer none, .int .i64 1]) ∧ Below w.heap.size w w' := by
  have HL : Hid ((Instr.loadAt 23 (.pointer (some ⟨w.heap.size, 0, none⟩))).run Tryz.prog (w.alloc (.cells (cfC c) 23)) = .ok (.agg (cfC c)) (w.alloc (.cells (cfC c) 23))) := (CfAt.new w c).loads
  have K1 := srcheck_ok (w.alloc (.cells (cfC c) 23)) c
  have H0 : Hid (Below w.heap.size w (w.alloc (.cells (cfC c) 23))) := (Below.refl _ _).alloc (Nat.le_refl _) _
  have c0 : (w.alloc (.cells (cfC c) 23)).cell? ⟨w.heap.size, 0, none⟩ = some (.int .i64 c.n) := (CfAt.new w c).c0
  have C0 : Hid (CfAt (w.alloc (.cells (cfC c) 23)) w.heap.size c) := CfAt.new w c
  have h' : ¬ (okB c = true ∧ own.length = 16 ∧ 0 ≤ sl ∧ sl < c.n) := fun hh => by rw [rnB_iff.2 hh] at h; cases h
  obtain ⟨n, hn⟩ : ∃ n, n = own.length := ⟨_, rfl⟩
  rw [← hn] at h' ⊢
  clear h hn
  go_enter Tryz.func6, Tryz.ntmps6
  go_upto_region 1 with fail
  generalize hW : w.alloc (Obj.cells (cfC c) 23) = W at *
  go_wp2_with (first | (refine wpList_gload_run rfl 23 _ rfl _ _ rfl HL.out ?_) | fail)
  refine K1.mono ?_
  rintro e w1 ⟨rfl, hb1⟩
  have H1 : Hid (Below w.heap.size w w1) := H0.out.trans (hb1.mono H0.out.size)
  have c1 := (C0.out.below hb1).c0
  clear K1 hb1 c0 C0 HL H0
  by_cases h1 : okB c = true
  · rw [if_pos h1]
    by_cases h2 : n = 16
    · subst h2
      by_cases h3 : sl < 0
      · clear h'
        go_wp2
        go_ret2
        exact ⟨rfl, H1.out⟩
      · have h4 : c.n ≤ sl := Int.not_lt.1 fun hh => h' ⟨h1, rfl, by omega, hh⟩
        clear h'
        go_wp2
        go_ret2
        exact ⟨rfl, H1.out⟩
    · have h3 : ¬ (n : Int) = 16 := by omega
      clear h'
      go_wp2
      go_ret2
      exact ⟨rfl, H1.out⟩
  · rw [if_neg h1]
    clear h' h1
    go_wp2
    go_ret2
    exact ⟨rfl, H1.out⟩

set_option maxHeartbeats 1600000 in
theorem dnew_ok (w : World) (c : Cf) (a : Option Addr) (ca : Nat) (own : List UInt8) (sl : Int) (ha : Sees w a ca own) (h : rnB c own sl = true) : Calls Tryz.prog 6 #[.agg (cfC c), .slice a own.length ca, .int .i64 sl] w fun e w' => ∃ R, e = .returned (.tuple #[.pointer (some ⟨R, 0, none⟩), .int .i64 0]) ∧ w.heap.size ≤ R ∧ DNAll w' R (rnNew c own sl) a ca none 0 ∧ Below w.heap.size w w' := by
  obtain ⟨r1, r2, r3, r4⟩ := rnB_iff.1 h
  have HL : Hid ((Instr.loadAt 23 (.pointer (some ⟨w.heap.size, 0, none⟩))).run Tryz.prog (w.alloc (.cells (cfC c) 23)) = .ok (.agg (cfC c)) (w.alloc (.cells (cfC c) 23))) := (CfAt.new w c).loads
  have K1 := srcheck_ok (w.alloc (.cells (cfC c) 23)) c
  rw [if_pos r1] at K1
  have H0 : Hid (Below w.heap.size w (w.alloc (.cells (cfC c) 23))) := (Below.refl _ _).alloc (Nat.le_refl _) _
  have C0 : Hid (CfAt (w.alloc (.cells (cfC c) 23)) w.heap.size c) := CfAt.new w c
  have HB : Hid (∀ V, (Instr.build 52 #[(0, .agg (cfC c)), (1, .slice a 16 ca), (2, .int .i64 sl), (3, .int .i64 (-1)), (4, .int .i64 (-1))]).run Tryz.prog V = .ok (.agg (dnL (rnNew c own sl) a ca (.slice none 0 0)).toArray) V) := fun V => by rw [← r2]; exact nbuild V c a ca own sl
  have HS : Hid (Sees w a ca own) := ha
  have g0 : ¬ (sl < 0) := by omega
  have g1 : ¬ (c.n ≤ sl) := by omega
  rw [r2]
  clear ha h r1 r2 r3 r4
  go_enter Tryz.func6, Tryz.ntmps6
  go_upto_region 1 with fail
  generalize hW : w.alloc (Obj.cells (cfC c) 23) = W at *
  go_wp2_with (first | (refine wpList_gload_run rfl 23 _ rfl _ _ rfl HL.out ?_) | fail)
  refine K1.mono ?_
  rintro e w1 ⟨rfl, hb1⟩
  have H1 : Hid (Below w.heap.size w w1) := H0.out.trans (hb1.mono H0.out.size)
  have C1 : Hid (CfAt w1 w.heap.size c) := C0.out.below hb1
  have c1 := C1.out.c0
  have HL2 : Hid ((Instr.loadAt 23 (.pointer (some ⟨w.heap.size, 0, none⟩))).run Tryz.prog w1 = .ok (.agg (cfC c)) w1) := C1.out.loads
  obtain ⟨W3, hW3⟩ : ∃ W3, W3 = w1.alloc (.cells (dnL (rnNew c own sl) a ca (.slice none 0 0)).toArray 52) := ⟨_, rfl⟩
  have hb3 : Below w1.heap.size w1 W3 := by rw [hW3]; exact (Below.refl _ _).alloc (Nat.le_refl _) _
  have hat : DNAt W3 w1.heap.size (rnNew c own sl) a ca (.slice none 0 0) := by rw [hW3]; exact heap_alloc_new _ _
  have HE : Hid (w.heap.size ≤ w1.heap.size ∧ DNAll W3 w1.heap.size (rnNew c own sl) a ca none 0 ∧ Below w.heap.size w W3) :=
    ⟨H1.out.size, ⟨hat, HS.out.below (H1.out.trans (hb3.mono H1.out.size)), fun h0 => absurd h0 (by show ¬ (0 : Int) ≤ -1; omega)⟩, H1.out.trans (hb3.mono H1.out.size)⟩
  have HW3 : Hid (W3 = w1.alloc (.cells (dnL (rnNew c own sl) a ca (.slice none 0 0)).toArray 52)) := hW3
  clear K1 hb1 C0 HL H0 hW hat hb3 hW3
  go_wp2_with (first | (refine wpList_gload_run rfl 23 _ rfl _ _ rfl HL2.out ?_) | (refine wpList_build_run rfl 52 _ rfl _ _ rfl (HB.out _) ?_) | fail)
  rw [← HW3.out]
  go_ret2
  exact ⟨_, rfl, HE.out⟩
end Go.Proofs.YtgncdnejmobjbaaGreatDoor
