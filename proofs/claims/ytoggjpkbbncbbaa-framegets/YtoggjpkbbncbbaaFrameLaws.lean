/-
  Put, Core and Check, of the program and of the document, at any frame; awake.
-/
import Derived.Test.YtoggjpkbbncbbaaFramePutP
import Derived.Test.YtoggjpkbbncbbaaFrameRPut
namespace Go.Proofs.Ytoggjpkbbncbbaa
open Go.ChangeShapes Go.WideShapes Go.ChangeAt Go.RowKit

/-- A conversion's run, as an operation. -/
theorem exec_conv {P : Program} {o : Oper} {a : Act} {w : World} (s d : TypeId) (x : Operand) (ho : o.op = .convert s d x) (v r : Value) (hx : a.eval x = v) (hrun : (Go.convert s d v).run P w = .ok r w) : (execOp a.eval o).run P w = .ok (.value r) w := by
  unfold execOp
  simp only [ho, hx, Sem.run_bind, hrun, Result.andThen_ok, Sem.run_pure]
def putR (F : Fr) : List UInt8 := if rightB F = true then putL F else []
def putE (F : Fr) : Int := if rightB F = true then 0 else 1
def coreR' (F : Fr) : List UInt8 := if coreB F = true then coreL F else []
def coreE (F : Fr) : Int := if coreB F = true then 0 else 1
/-- Bytes and a number. -/
def Tells (w w' : World) (e : Ending) (l : List UInt8) (n : Int) : Prop := ∃ d cd, e = .returned (.tuple #[.slice d l.length cd, .int .i64 n]) ∧ Sees w' d cd l ∧ Below w.heap.size w w'

theorem put_any (w : World) (F : Fr) (A : At) (hF : Seen w F A) (hn : F.n < 18446744073709551616) : Calls Try.prog 8 #[.agg (frC F A)] w fun e w' => Tells w w' e (putR F) (putE F) := by
  unfold putR putE
  by_cases h : rightB F = true
  · rw [if_pos h, if_pos h]
    refine (put_yes w F A hF hn h).mono ?_
    rintro e w' ⟨d, cd, r, hr, rfl, hs, hb, _⟩
    have hr' := hr.out
    subst hr'
    exact ⟨d, cd, rfl, hs, hb⟩
  · rw [if_neg h, if_neg h]
    refine (put_no w F A hF (by simpa using h)).mono ?_
    rintro e w' ⟨rfl, hb⟩
    exact ⟨none, 0, rfl, Sees.nil' _, hb⟩
theorem rput_any' (w : World) (F : Fr) (A : At) (hF : Seen w F A) (hn : F.n < 18446744073709551616) : Calls Try.prog 9 #[.agg (frC F A)] w fun e w' => Tells w w' e (putR F) (putE F) := by
  unfold putR putE
  by_cases h : rightB F = true
  · rw [if_pos h, if_pos h]
    refine (rput_yes w F A hF hn h).mono ?_
    rintro e w' ⟨d, cd, r, hr, rfl, hs, hb⟩
    have hr' := hr.out
    subst hr'
    exact ⟨d, cd, rfl, hs, hb⟩
  · rw [if_neg h, if_neg h]
    refine (rput_no w F A hF (by simpa using h)).mono ?_
    rintro e w' ⟨rfl, hb⟩
    exact ⟨none, 0, rfl, Sees.nil' _, hb⟩
theorem core_any (w : World) (F : Fr) (A : At) (hF : Seen w F A) (hn : F.n < 18446744073709551616) : Calls Try.prog 10 #[.agg (frC F A)] w fun e w' => Tells w w' e (coreR' F) (coreE F) := by
  unfold coreR' coreE
  by_cases h : coreB F = true
  · rw [if_pos h, if_pos h]
    refine (core_yes w F A hF hn h).mono ?_
    rintro e w' ⟨d, cd, r, hr, rfl, hs, hb⟩
    have hr' := hr.out
    subst hr'
    exact ⟨d, cd, rfl, hs, hb⟩
  · rw [if_neg h, if_neg h]
    refine (core_no w F A hF (by simpa using h)).mono ?_
    rintro e w' ⟨rfl, hb⟩
    exact ⟨none, 0, rfl, Sees.nil' _, hb⟩
theorem rcore_any' (w : World) (F : Fr) (A : At) (hF : Seen w F A) (hn : F.n < 18446744073709551616) : Calls Try.prog 11 #[.agg (frC F A)] w fun e w' => Tells w w' e (coreR' F) (coreE F) := by
  unfold coreR' coreE
  refine (rcore_any w F A hF hn).mono ?_
  rintro e w' ⟨h1, h2⟩
  by_cases h : coreB F = true
  · rw [if_pos h, if_pos h]
    obtain ⟨d, cd, r, hr, rfl, hs, hb⟩ := h1 h
    have hr' := hr.out
    subst hr'
    exact ⟨d, cd, rfl, hs, hb⟩
  · rw [if_neg h, if_neg h]
    obtain ⟨rfl, hb⟩ := h2 (by simpa using h)
    exact ⟨none, 0, rfl, Sees.nil' _, hb⟩

/-- The frame that awake puts. -/
def wakeF : Fr := { Fr.zero with k := 2, f := 1, t := 2, n := 3, tag := List.replicate 8 0 }
theorem wake_right : rightB wakeF = true := by decide
theorem wake_len : (putL wakeF).length = 21 := by
  have h : (putL wakeF).length = (packL (coreBits wakeF ++ bitsOf wakeF.tag)).length + 3 := (fix_take _).1
  rw [h, packL_length, List.length_append, bitsOf_length]
  rfl
theorem wake_build (w : World) (x : Nat) : (Instr.build 25 #[(0, .int .i64 2), (1, .int .i64 1), (2, .int .i64 2), (6, .int .u64 3), (12, .slice (some ⟨x, 0, none⟩) 8 8)]).run Try.prog w = .ok (.agg (frC wakeF { At.zero with ta := some ⟨x, 0, none⟩, tc := 8 })) w :=
  run_build w 25 _ _ (by kernel_rfl)
set_option maxHeartbeats 1600000 in
set_option maxRecDepth 20000 in
theorem awake_ok (w : World) : Calls Try.prog 14 #[] w fun e w' => e = .returned (.bool true) ∧ Below w.heap.size w w' := by
  obtain ⟨i5, hi, hz0, hz1, hz2⟩ := info_parts Try.info5
  go_enter Try.func14, Try.ntmps14
  go_wp2_with (first | (at_make; refine wpList_make_full _ rfl _ _ 23 rfl w.heap.size 5 i5 (.int .u8 0) 1 Try.underlying23 hi hz0 hz1 .i64 .i64 _ _ 8 rfl rfl rfl rfl ?b2 ?b3 ?b4 ?_))
  case b2 => rw [hz2]; decide
  case b3 => decide
  case b4 => exact Nat.le_refl _
  intro W1 hown hgr
  have hb1 : Below w.heap.size w W1 := (Below.refl _ _).grown hgr (Nat.le_refl _) (by simp)
  have hown2 : W1.ownsRow w.heap.size 5 1 (.slice (some ⟨w.heap.size, 0, none⟩) 8 8) 8 ((List.replicate 8 (0 : UInt8)).map cellOf) := by
    rw [← made_bytes]; simpa using hown
  have hsee : Sees W1 (some ⟨w.heap.size, 0, none⟩) 8 (List.replicate 8 (0 : UInt8)) := by
    obtain ⟨a, cap, he, h⟩ := Sees.of_own hown2
    cases he
    exact h
  have hB := wake_build W1 w.heap.size
  obtain ⟨A2, hA2⟩ : ∃ A2 : At, A2 = { At.zero with ta := some ⟨w.heap.size, 0, none⟩, tc := 8 } := ⟨_, rfl⟩
  have hseen : Seen W1 wakeF A2 := by rw [hA2]; exact ⟨Sees.nil' _, Sees.nil' _, hsee⟩
  rw [← hA2] at hB
  have HB : Hid ((Instr.build 25 #[(0, .int .i64 2), (1, .int .i64 1), (2, .int .i64 2), (6, .int .u64 3), (12, .slice (some ⟨w.heap.size, 0, none⟩) 8 8)]).run Try.prog W1 = .ok (.agg (frC wakeF A2)) W1) := hB
  have hp := put_any W1 wakeF A2 hseen (by decide)
  have e1 : putE wakeF = 0 := if_pos wake_right
  have e2 : (putR wakeF).length = 21 := by unfold putR; rw [if_pos wake_right]; exact wake_len
  rw [e1] at hp
  obtain ⟨R, hR⟩ : ∃ R, R = putR wakeF := ⟨_, rfl⟩
  rw [← hR] at hp e2
  have HB1 : Hid (Below w.heap.size w W1) := hb1
  clear hown hgr hown2 hsee hB hA2 hseen e1 hR hi hz0 hz1 hz2 hb1
  go_wp2_with (first | (refine wpList_build_run rfl 25 _ rfl [(0, .int .i64 2), (1, .int .i64 1), (2, .int .i64 2), (6, .int .u64 3), (12, .slice (some ⟨w.heap.size, 0, none⟩) 8 8)] _ rfl HB.out ?_) | fail)
  refine hp.mono ?_
  rintro e w2 ⟨d, cd, rfl, _, hb2⟩
  rw [e2]
  have HE : Hid (Below w.heap.size w w2) := HB1.out.trans (hb2.mono HB1.out.size)
  clear hp hb2 HB HB1 e2
  go_wp2
  go_ret
  exact ⟨rfl, HE.out⟩
end Go.Proofs.Ytoggjpkbbncbbaa
