/-
  The contracts of the program's parts: whether a number is far, one of a list, a copy of a list.
-/
import Derived.Test.YtfifcfdlmpgohaaFtmC
import Derived.Lib.SliceRun
namespace Go.Proofs.Ytfifcfdlmpgohaa
open Go.ChangeShapes Go.WideShapes Go.ChangeAt Go.RowKit
set_option maxRecDepth 20000

theorem isfar_ok (w : World) (n : Int) : Calls Try.prog 21 #[.int .i64 n] w fun e w' => e = .returned (.bool (!isT n)) ∧ Below w.heap.size w w' := by
  by_cases h1 : n < -1099511627776
  · have h : isT n = false := by simp only [isT, MT, decide_eq_false_iff_not]; omega
    rw [h]
    clear h
    go_enter Try.func21, Try.ntmps21
    go_wp2
    go_ret
    exact ⟨rfl, Below.refl _ _⟩
  · by_cases h2 : 1099511627776 < n
    · have h : isT n = false := by simp only [isT, MT, decide_eq_false_iff_not]; omega
      rw [h]
      clear h
      go_enter Try.func21, Try.ntmps21
      go_wp2
      go_ret
      exact ⟨rfl, Below.refl _ _⟩
    · have h : isT n = true := by simp only [isT, MT, decide_eq_true_eq]; omega
      rw [h]
      clear h
      go_enter Try.func21, Try.ntmps21
      go_wp2
      go_ret
      exact ⟨rfl, Below.refl _ _⟩

theorem all_bad {l : List Int} {j : Nat} {x : Int} (h : l[j]? = some x) (hx : isT x = false) : l.all isT = false := by
  cases hh : l.all isT
  · rfl
  · rw [List.all_eq_true] at hh
    rw [hh x (List.mem_of_getElem? h)] at hx; cases hx

set_option maxHeartbeats 1600000 in
theorem index_ok (w : World) (a : Option Addr) (c : Nat) (l : List Int) (hl : l.length ≤ 900) (hs : LsO w a l) :
    Calls Try.prog 26 #[.slice a l.length c, .func (.func 21) #[] #[]] w fun e w' => ∃ z : Int, e = .returned (.int .i64 z) ∧ decide (0 ≤ z) = !(l.all isT) ∧ Below w.heap.size w w' := by
  have HL : Hid (LsO w a l ∧ l.length ≤ 900) := ⟨hs, hl⟩
  clear hs
  go_enter Try.func26, Try.ntmps26
  go_wp2
  go_loopw [8] (fun u wr => ∃ j : Nat, u = .int .i64 (j : Int) ∧ j ≤ l.length ∧ (l.take j).all isT = true ∧ Below w.heap.size w wr) (fun u _ => l.length - (intOf u).toNat)
  case atStart => exact ⟨0, rfl, Nat.zero_le _, rfl, Below.refl _ _⟩
  case round =>
    obtain ⟨j, rfl, hj, hal, hb⟩ := hrel
    have gj : (0 : Int) ≤ (j : Int) := Int.natCast_nonneg _
    by_cases hlt : (j : Int) < (l.length : Int)
    · obtain ⟨x, hx⟩ : ∃ x, l[j]? = some x := ⟨_, List.getElem?_eq_getElem (by omega)⟩
      obtain ⟨b, o, rfl, cx⟩ := HL.out.1.below hb j x hx
      have e9 : IntKind.i64.wrap ((j : Int) + 1) = ((j + 1 : Nat) : Int) := by rw [wrap_in (by omega) (by omega)]; omega
      have K : Hid (Calls Try.prog 21 #[.int .i64 x] wr fun e w' => e = .returned (.bool (!isT x)) ∧ Below wr.heap.size wr w') := isfar_ok wr x
      have HJ : Hid (j < l.length ∧ l[j]? = some x ∧ (l.take j).all isT = true ∧ Below w.heap.size w wr) := ⟨by omega, hx, hal, hb⟩
      clear hx hj hal hb
      cases hq : isT x
      · rw [hq] at K
        have HF : Hid (decide ((0 : Int) ≤ (j : Int)) = !(l.all isT)) := by
          show decide ((0 : Int) ≤ (j : Int)) = _
          rw [all_bad HJ.out.2.1 hq]; simp
        clear hq
        go_wp2_with fail
        refine K.out.mono ?_
        rintro e w2 ⟨rfl, hb2⟩
        have HB2 : Hid (Below w.heap.size w w2) := HJ.out.2.2.2.trans (hb2.mono HJ.out.2.2.2.size)
        clear K cx hb2
        go_wp2
        go_ret
        exact ⟨_, rfl, HF.out, HB2.out⟩
      · rw [hq] at K
        have HF : Hid ((l.take (j + 1)).all isT = true) := all_snoc HJ.out.2.1 HJ.out.2.2.1 hq
        clear hq
        go_wp2_with fail
        refine K.out.mono ?_
        rintro e w2 ⟨rfl, hb2⟩
        have HB2 : Hid (Below w.heap.size w w2) := HJ.out.2.2.2.trans (hb2.mono HJ.out.2.2.2.size)
        clear K cx hb2
        go_wp2
        go_roundw
        case rel => exact ⟨j + 1, rfl, HJ.out.1, HF.out, HB2.out⟩
        case measure => have := HJ.out.1; simp [intOf]; omega
    · have HF : Hid (decide ((0 : Int) ≤ (-1 : Int)) = !(l.all isT)) := by
        show decide ((0 : Int) ≤ (-1 : Int)) = _
        have : j = l.length := by omega
        rw [this, List.take_length] at hal
        rw [hal]; rfl
      have HB2 : Hid (Below w.heap.size w wr) := hb
      clear hb hal hj
      go_wp2
      go_ret
      exact ⟨_, rfl, HF.out, HB2.out⟩

theorem contains_ok (w : World) (a : Option Addr) (c : Nat) (l : List Int) (hl : l.length ≤ 900) (hs : LsO w a l) :
    Calls Try.prog 20 #[.slice a l.length c, .func (.func 21) #[] #[]] w fun e w' => e = .returned (.bool (!(l.all isT))) ∧ Below w.heap.size w w' := by
  have K := index_ok w a c l hl hs
  clear hs
  go_enter Try.func20, Try.ntmps20
  go_wp2_with fail
  refine K.mono ?_
  rintro e w' ⟨z, rfl, hz, hb⟩
  have HZ : Hid (decide (0 ≤ z) = !(l.all isT)) := hz
  clear hz
  go_wp2
  go_ret
  exact ⟨by rw [← HZ.out]; rfl, hb⟩

/-- What a call answers that hands back a list of its own. -/
def OwnP (w : World) (L : List Int → Prop) (e : Ending) (w' : World) : Prop := ∃ (q : Option Addr) (k : Nat) (M : List Int), L M ∧ e = .returned (.slice q M.length k) ∧ Row EL w' (.slice q M.length k) M ∧ (∀ p, (Value.slice q M.length k).ownBlock = some p → w.heap.size ≤ p) ∧ Below w.heap.size w w'

theorem clone_ok (w : World) (a : Option Addr) (c : Nat) (l : List Int) (hl : l.length ≤ 900) (hs : LsO w a l) :
    Calls Try.prog 27 #[.slice a l.length c] w (OwnP w (fun M => M = l)) := by
  cases a with
  | none =>
    have h0 : l = [] := by
      cases l with
      | nil => rfl
      | cons x r => obtain ⟨b, o, e, _⟩ := hs 0 x rfl; cases e
    subst h0
    have hq := Lib.run_eql_slice_nil (P := Try.prog) w 22 2 none 0 c 0 0 Try.underlying22
    clear hs hl
    simp only [List.length_nil]
    go_enter Try.func27, Try.ntmps27
    go_wp2
    go_ret
    exact ⟨none, 0, [], rfl, rfl, Row.nil _ _, (fun p hp => by cases hp), Below.refl _ _⟩
  | some ad =>
    have hb0 := Go.Joins.below_alloc1 w (.cells #[] 2)
    obtain ⟨q, k, V, run1, r1, b1, o1, _⟩ := row_tailL (w := w) (Row.empty w) (ts := l) (by simp; omega) hb0 (fun p hp => by cases hp; exact Nat.le_refl _) (some ad) c (hs.below hb0)
    rw [List.nil_append] at run1 r1 o1
    have HR : Hid ((Builtin.append_ #[22, 22] 22 #[.slice (some ⟨w.heap.size, 0, none⟩) 0 0, .slice (some ad) l.length c]).run Try.prog (w.alloc (.cells #[] 2)) = .ok (.slice q l.length k) V) := run1
    have HE : Hid (Row EL V (.slice q l.length k) l ∧ (∀ p, (Value.slice q l.length k).ownBlock = some p → w.heap.size ≤ p) ∧ Below w.heap.size w V) := ⟨r1, o1, b1⟩
    have hq := Lib.run_eql_slice_nil (P := Try.prog) w 22 2 (some ad) l.length c 0 0 Try.underlying22
    clear run1 hs r1 o1 b1 hb0
    go_enter Try.func27, Try.ntmps27
    go_wp2_with (first | (refine wpList_mk_run rfl 22 0 _ rfl [] _ rfl (mk_empty _) ?_) | (at_builtin; refine wpList_append_run rfl _ _ 22 rfl _ _ _ rfl rfl HR.out ?_) | fail)
    go_ret
    exact ⟨q, k, l, rfl, rfl, HE.out⟩
end Go.Proofs.Ytfifcfdlmpgohaa
