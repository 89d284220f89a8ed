/-
  The program's chain of a speaker: a nil one, one that no call made; New, Epoch, Start, begun.
-/
import Derived.Test.YtgncdnejmobjbaaGreatDoorRenP
namespace Go.Proofs.YtgncdnejmobjbaaGreatDoor
open Go.ChangeShapes Go.WideShapes Go.ChangeAt Go.RowKit
set_option maxRecDepth 20000

theorem bclone_any (w : World) (x : Option Addr) (cx : Nat) (cs : List UInt8) (hx : Sees w x cx cs) (hb : cs.length ≤ 140737488355328) :
    Calls Tryz.prog 21 #[.slice x cs.length cx] w fun e w' => ∃ d cd, e = .returned (.slice d cs.length cd) ∧ Sees w' d cd cs ∧ Below w.heap.size w w' := by
  cases x with
  | none =>
    have h0 := hx.bare rfl
    have h1 := hx.fits
    have : cs = [] := List.eq_nil_of_length_eq_zero (by omega)
    subst this
    subst h0
    have hq := Lib.run_eql_slice_nil (P := Tryz.prog) w 24 5 none 0 0 0 0 Tryz.underlying24
    clear hx
    simp only [List.length_nil]
    go_enter Tryz.func21, Tryz.ntmps21
    go_wp2
    go_ret
    exact ⟨none, 0, rfl, Sees.nil' _, Below.refl _ _⟩
  | some ad =>
    have hb0 : Below w.heap.size w (w.alloc (.cells #[] 5)) := (Below.refl _ _).alloc (Nat.le_refl _) _
    obtain ⟨v', w', hrun, ho, hbl⟩ := append_own_any (w.alloc (.cells #[] 5)) w.heap.size _ [] (own_empty w) (some ad) cx cs (hx.below hb0) (by simpa using hb) (by simp)
    have HR : Hid ((Builtin.append_ #[24, 24] 24 #[.slice (some ⟨w.heap.size, 0, none⟩) 0 0, .slice (some ad) cs.length cx]).run Tryz.prog (w.alloc (.cells #[] 5)) = .ok v' w') := hrun
    obtain ⟨d, cd, rfl, hs⟩ := Sees.of_own ho
    have HE : Hid (Sees w' d cd cs ∧ Below w.heap.size w w') := ⟨hs, hbl _ _ hb0 (Nat.le_refl _)⟩
    have hq := Lib.run_eql_slice_nil (P := Tryz.prog) w 24 5 (some ad) cs.length cx 0 0 Tryz.underlying24
    clear hrun hx ho hbl hs
    go_enter Tryz.func21, Tryz.ntmps21
    go_wp2_with (at_builtin; refine wpList_append_run rfl _ _ 24 rfl _ _ _ rfl rfl HR.out ?_)
    go_ret
    exact ⟨d, cd, by simp, HE.out⟩

/-- A nil one, or one that no call made. -/
def NoN (w : World) (p : Value) : Prop := p = .pointer none ∨ ∃ g, p = .pointer (some ⟨g, 0, none⟩) ∧ w.cell? ⟨g, 10, none⟩ = some (.slice none 0 0)
theorem NoN.below {w w' : World} {p : Value} (h : NoN w p) (hb : Below w.heap.size w w') : NoN w' p := by
  rcases h with h | ⟨g, h, hc⟩
  · exact .inl h
  · exact .inr ⟨g, h, by rw [hb.cell (World.block_lt_of_cell? w _ hc)]; exact hc⟩
theorem nmade_no (w : World) (p : Value) (h : NoN w p) : Calls Tryz.prog 23 #[p] w fun e w' => e = .returned (.bool false) ∧ w' = w := by
  rcases h with rfl | ⟨g, rfl, hc⟩
  · go_enter Tryz.func23, Tryz.ntmps23
    go_wp2
    go_ret
    exact ⟨rfl, rfl⟩
  · go_enter Tryz.func23, Tryz.ntmps23
    go_wp2
    go_ret
    exact ⟨rfl, rfl⟩
theorem nmade_yes (w : World) (g : Nat) (oa : Option Addr) (oc : Nat) (hc : w.cell? ⟨g, 10, none⟩ = some (.slice oa 16 oc)) : Calls Tryz.prog 23 #[.pointer (some ⟨g, 0, none⟩)] w fun e w' => e = .returned (.bool true) ∧ w' = w := by
  go_enter Tryz.func23, Tryz.ntmps23
  go_wp2
  go_ret
  exact ⟨rfl, rfl⟩
theorem nbegun_no (w : World) (p : Value) (h : NoN w p) : Calls Tryz.prog 29 #[p] w fun e w' => e = .returned (.int .i64 7) ∧ w' = w := by
  have hs := nmade_no w p h
  clear h
  go_enter Tryz.func29, Tryz.ntmps29
  go_wp2_with fail
  refine hs.mono ?_
  rintro e w1 ⟨rfl, rfl⟩
  go_wp2
  go_ret
  exact ⟨rfl, rfl⟩
theorem nbegun_at (w : World) (g : Nat) (oa : Option Addr) (oc : Nat) (ep : Int) (hc : w.cell? ⟨g, 10, none⟩ = some (.slice oa 16 oc)) (he : w.cell? ⟨g, 12, none⟩ = some (.int .i64 ep)) : Calls Tryz.prog 29 #[.pointer (some ⟨g, 0, none⟩)] w fun e w' => e = .returned (.int .i64 (if ep = -1 then 5 else 0)) ∧ w' = w := by
  have hs := nmade_yes w g oa oc hc
  clear hc
  by_cases h1 : ep = -1
  · rw [if_pos h1]
    go_enter Tryz.func29, Tryz.ntmps29
    go_wp2_with fail
    refine hs.mono ?_
    rintro e w1 ⟨rfl, rfl⟩
    go_wp2
    go_ret
    exact ⟨rfl, rfl⟩
  · rw [if_neg h1]
    go_enter Tryz.func29, Tryz.ntmps29
    go_wp2_with fail
    refine hs.mono ?_
    rintro e w1 ⟨rfl, rfl⟩
    go_wp2
    go_ret
    exact ⟨rfl, rfl⟩
theorem nepoch_no (w : World) (p : Value) (h : NoN w p) : Calls Tryz.prog 17 #[p] w fun e w' => e = .returned (.int .i64 (-1)) ∧ w' = w := by
  have hs := nmade_no w p h
  clear h
  go_enter Tryz.func17, Tryz.ntmps17
  go_wp2_with fail
  refine hs.mono ?_
  rintro e w1 ⟨rfl, rfl⟩
  go_wp2
  go_ret
  exact ⟨rfl, rfl⟩
theorem nepoch_at (w : World) (g : Nat) (oa : Option Addr) (oc : Nat) (ep : Int) (hc : w.cell? ⟨g, 10, none⟩ = some (.slice oa 16 oc)) (he : w.cell? ⟨g, 12, none⟩ = some (.int .i64 ep)) : Calls Tryz.prog 17 #[.pointer (some ⟨g, 0, none⟩)] w fun e w' => e = .returned (.int .i64 ep) ∧ w' = w := by
  have hs := nmade_yes w g oa oc hc
  clear hc
  go_enter Tryz.func17, Tryz.ntmps17
  go_wp2_with fail
  refine hs.mono ?_
  rintro e w1 ⟨rfl, rfl⟩
  go_wp2
  go_ret
  exact ⟨rfl, rfl⟩
theorem nstart_no (w : World) (p : Value) (h : NoN w p) : Calls Tryz.prog 18 #[p] w fun e w' => e = .returned (.int .i64 (-1)) ∧ w' = w := by
  have hs := nmade_no w p h
  clear h
  go_enter Tryz.func18, Tryz.ntmps18
  go_wp2_with fail
  refine hs.mono ?_
  rintro e w1 ⟨rfl, rfl⟩
  go_wp2
  go_ret
  exact ⟨rfl, rfl⟩
theorem nstart_at (w : World) (g : Nat) (oa : Option Addr) (oc : Nat) (st : Int) (hc : w.cell? ⟨g, 10, none⟩ = some (.slice oa 16 oc)) (he : w.cell? ⟨g, 13, none⟩ = some (.int .i64 st)) : Calls Tryz.prog 18 #[.pointer (some ⟨g, 0, none⟩)] w fun e w' => e = .returned (.int .i64 st) ∧ w' = w := by
  have hs := nmade_yes w g oa oc hc
  clear hc
  go_enter Tryz.func18, Tryz.ntmps18
  go_wp2_with fail
  refine hs.mono ?_
  rintro e w1 ⟨rfl, rfl⟩
  go_wp2
  go_ret
  exact ⟨rfl, rfl⟩

theorem pnbuild (w : World) (c : Cf) (a : Option Addr) (ca : Nat) (own : List UInt8) (sl : Int) : (Instr.build 61 #[(0, .agg (cfC c)), (1, .slice a own.length ca), (2, .int .i64 sl), (3, .int .i64 (-1)), (4, .int .i64 (-1))]).run Tryz.prog w = .ok (.agg (pnL (rnNew c own sl) a ca (.slice none 0 0) (.int .i64 0) (.int .i64 0) (.slice none 0 0) (.slice none 0 0)).toArray) w := run_build w 61 _ _ (by kernel_rfl)

set_option maxHeartbeats 1600000 in
theorem pnew_no (w : World) (c : Cf) (a : Option Addr) (ca : Nat) (own : List UInt8) (sl : Int) (h : rnB c own sl = false) : Calls Tryz.prog 5 #[.agg (cfC c), .slice a own.length ca, .int .i64 sl] w fun e w' => e = .returned (.tuple #[.pointer none, .int .i64 1]) ∧ Below w.heap.size w w' := by
  have HL : Hid ((Instr.loadAt 23 (.pointer (some ⟨w.heap.size, 0, none⟩))).run Tryz.prog (w.alloc (.cells (cfC c) 23)) = .ok (.agg (cfC c)) (w.alloc (.cells (cfC c) 23))) := (CfAt.new w c).loads
  have K1 := scheck_ok (w.alloc (.cells (cfC c) 23)) c
  have H0 : Hid (Below w.heap.size w (w.alloc (.cells (cfC c) 23))) := (Below.refl _ _).alloc (Nat.le_refl _) _
  have c0 : (w.alloc (.cells (cfC c) 23)).cell? ⟨w.heap.size, 0, none⟩ = some (.int .i64 c.n) := (CfAt.new w c).c0
  have C0 : Hid (CfAt (w.alloc (.cells (cfC c) 23)) w.heap.size c) := CfAt.new w c
  have h' : ¬ (okB c = true ∧ own.length = 16 ∧ 0 ≤ sl ∧ sl < c.n) := fun hh => by rw [rnB_iff.2 hh] at h; cases h
  obtain ⟨n, hn⟩ : ∃ n, n = own.length := ⟨_, rfl⟩
  rw [← hn] at h' ⊢
  clear h hn
  go_enter Tryz.func5, Tryz.ntmps5
  go_upto_region 1 with fail
  generalize hW : w.alloc (Obj.cells (cfC c) 23) = W at *
  go_wp2_with (first | (refine wpList_gload_run rfl 23 _ rfl _ _ rfl HL.out ?_) | fail)
  refine K1.mono ?_
  rintro e w1 ⟨rfl, hb1⟩
  have H1 : Hid (Below w.heap.size w w1) := H0.out.trans (hb1.mono H0.out.size)
  have c1 := (C0.out.below hb1).c0
  clear K1 hb1 c0 C0 HL H0
  by_cases h1 : okB c = true
  · rw [if_pos h1]
    by_cases h2 : n = 16
    · subst h2
      by_cases h3 : sl < 0
      · clear h'
        go_wp2
        go_ret2
        exact ⟨rfl, H1.out⟩
      · have h4 : c.n ≤ sl := Int.not_lt.1 fun hh => h' ⟨h1, rfl, by omega, hh⟩
        clear h'
        go_wp2
        go_ret2
        exact ⟨rfl, H1.out⟩
    · have h3 : ¬ (n : Int) = 16 := by omega
      clear h'
      go_wp2
      go_ret2
      exact ⟨rfl, H1.out⟩
  · rw [if_neg h1]
    clear h' h1
    go_wp2
    go_ret2
    exact ⟨rfl, H1.out⟩
end Go.Proofs.YtgncdnejmobjbaaGreatDoor
