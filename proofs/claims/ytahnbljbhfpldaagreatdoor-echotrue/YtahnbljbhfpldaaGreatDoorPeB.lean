/-
  The program's small tests of a node: made, another one, a time.
-/
import Derived.Test.YtahnbljbhfpldaaGreatDoorPeA
namespace Go.Proofs.YtahnbljbhfpldaaGreatDoor
open Go.ChangeShapes Go.WideShapes Go.ChangeAt Go.RowKit
set_option maxRecDepth 20000
theorem pemade_ok (w : World) (R : Nat) (s : Ec) (ma : Option Addr) (mc : Nat) (h : PEAt w R s ma mc) (hm : s.ms.length = 16) : Calls Tryz.prog 31 #[.pointer (some ⟨R, 0, none⟩)] w fun e w' => e = .returned (.bool true) ∧ w' = w := by
  have c10 := h.cell 10 rfl
  rw [hm] at c10
  clear h hm
  go_enter Tryz.func31, Tryz.ntmps31
  go_wp2
  go_ret
  exact ⟨by simp, rfl⟩
theorem petime_ok (w : World) (t : Int) : Calls Tryz.prog 33 #[.int .i64 t] w fun e w' => e = .returned (.bool (timeB t)) ∧ w' = w := by
  by_cases h0 : 0 ≤ t
  · by_cases h1 : t ≤ 1099511627776
    · have hv : timeB t = true := timeB_iff.2 ⟨h0, h1⟩
      rw [hv]
      clear hv
      go_enter Tryz.func33, Tryz.ntmps33
      go_wp2
      go_ret
      exact ⟨by simp, rfl⟩
    · have hv : timeB t = false := by rw [Bool.eq_false_iff]; intro hh; exact h1 (timeB_iff.1 hh).2
      rw [hv]
      clear hv
      go_enter Tryz.func33, Tryz.ntmps33
      go_wp2
      go_ret
      exact ⟨by simp, rfl⟩
  · have hv : timeB t = false := by rw [Bool.eq_false_iff]; intro hh; exact h0 (timeB_iff.1 hh).1
    rw [hv]
    clear hv
    go_enter Tryz.func33, Tryz.ntmps33
    go_wp2
    go_ret
    exact ⟨by simp, rfl⟩
def Ec.othB (s : Ec) (jj : Int) : Bool := decide (0 ≤ jj ∧ jj < s.c.n ∧ jj ≠ s.i)
theorem Ec.othB_iff {s : Ec} {jj : Int} : s.othB jj = true ↔ 0 ≤ jj ∧ jj < s.c.n ∧ jj ≠ s.i := by simp [Ec.othB]
theorem Ec.othB_no {s : Ec} {jj : Int} (h : ¬ (0 ≤ jj ∧ jj < s.c.n ∧ jj ≠ s.i)) : s.othB jj = false := decide_eq_false h
theorem peother_ok (w : World) (R : Nat) (s : Ec) (ma : Option Addr) (mc : Nat) (h : PEAt w R s ma mc) (jj : Int) : Calls Tryz.prog 32 #[.pointer (some ⟨R, 0, none⟩), .int .i64 jj] w fun e w' => e = .returned (.bool (s.othB jj)) ∧ w' = w := by
  have c0 := h.cell 0 rfl
  have c11 := h.cell 11 rfl
  clear h
  by_cases h0 : 0 ≤ jj
  · by_cases h1 : jj < s.c.n
    · by_cases h2 : jj = s.i
      · rw [Ec.othB_no (fun hh => hh.2.2 h2)]
        have hq : (jj != s.i) = false := by simp [h2]
        clear h2
        go_enter Tryz.func32, Tryz.ntmps32
        go_wp2
        go_ret
        exact ⟨by simp, rfl⟩
      · rw [Ec.othB_iff.2 ⟨h0, h1, h2⟩]
        have hq : (jj != s.i) = true := by simp [h2]
        clear h2
        go_enter Tryz.func32, Tryz.ntmps32
        go_wp2
        go_ret
        exact ⟨by simp, rfl⟩
    · rw [Ec.othB_no (fun hh => h1 hh.2.1)]
      go_enter Tryz.func32, Tryz.ntmps32
      go_wp2
      go_ret
      exact ⟨by simp, rfl⟩
  · rw [Ec.othB_no (fun hh => h0 hh.1)]
    go_enter Tryz.func32, Tryz.ntmps32
    go_wp2
    go_ret
    exact ⟨by simp, rfl⟩
end Go.Proofs.YtahnbljbhfpldaaGreatDoor
