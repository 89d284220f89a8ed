/-
  The contract of Write, all cases in one.
-/
import Derived.Test.YtkpaldkmikjpiaaDoorWrite
namespace Go.Proofs.YtkpaldkmikjpiaaDoor
open Go.ChangeShapes Go.WideShapes Go.ChangeAt Go.RowKit

set_option maxHeartbeats 1600000 in
set_option maxRecDepth 20000 in
theorem write_zero {R : List Value} {ty : TypeId} (w : World) (b : Nat) (bs : List UInt8) (h : Dig R ty w b bs) (x : Option Addr) (cx : Nat) (hx : Sees w x cx []) :
    Calls Tryd.prog 46 #[.pointer (some ⟨b, 0, none⟩), .slice x 0 cx] w fun e w' => e = .returned (.int .i64 0) ∧ Dig R ty w' b bs ∧ But b w w' := by
  obtain ⟨a, ho, hs⟩ := h.obj
  have hlen := h.len
  have h1 := ho.made
  have h2 := ho.size
  have h10 := ho.left
  have hrc := hx.room
  unfold maxLen at hrc
  obtain ⟨L, hL⟩ : ∃ L, L = leftOf bs := ⟨_, rfl⟩
  have hLl : L.length < 64 := by rw [hL, leftOf_length]; omega
  rw [← hL] at ho hs h10
  have HO : Hid (ObjAt R ty w b bs.length (stOf bs) (.slice a L.length L.length)) := ho
  have HL : Hid (L = leftOf bs) := hL
  have hd : decide ((1048576 : Int) - (bs.length : Int) < (0 : Int)) = false := by simp; omega
  have hmin : (0 : Int) < (64 : Int) - (L.length : Int) := by omega
  have hrun : (Builtin.append_ #[22, 22] 22 #[.slice a L.length L.length, .slice x 0 cx]).run Tryd.prog w.drew = .ok (.slice a L.length L.length) w.drew := by
    obtain ⟨i5, hi, hz0, hz1, hz2⟩ := info_parts Tryd.info5
    exact run_append_nothing (P := Tryd.prog) w.drew 22 22 22 5 i5 Tryd.underlying22 hi a L.length L.length (Nat.le_refl _) (.slice x 0 cx) (by rw [hz1]; exact (hx.drewN 1).src)
  have HR : Hid ((Builtin.append_ #[22, 22] 22 #[.slice a L.length L.length, .slice x 0 cx]).run Tryd.prog w.drew = .ok (.slice a L.length L.length) w.drew) := hrun
  have c1 := ho.size
  have f10 := ho.frozen 10
  have f1 := ho.frozen 1
  have ht : ((L.length : Int) == 64) = false := by simp; omega
  have hfl := hs.room
  unfold maxLen at hfl
  have hbare := hx.bare
  clear ho hL h hrun
  have hO : ObjAt R ty ((w.drew.setCell ⟨b, 10, none⟩ (.slice a L.length L.length)).setCell ⟨b, 1, none⟩ (.int .i64 (bs.length : Int))) b bs.length (stOf bs) (.slice a L.length L.length) :=
    ((HO.out.drewN 1).setLeft (.slice a L.length L.length)).setSize bs.length
  have hB : But b w ((w.drew.setCell ⟨b, 10, none⟩ (.slice a L.length L.length)).setCell ⟨b, 1, none⟩ (.int .i64 (bs.length : Int))) :=
    (((But.refl b w).drewN 1).setCell 10 _).setCell 1 _
  have hS := hs.but HO.out (by intro x; simp) hB
  have hD : Dig R ty ((w.drew.setCell ⟨b, 10, none⟩ (.slice a L.length L.length)).setCell ⟨b, 1, none⟩ (.int .i64 (bs.length : Int))) b bs :=
    ⟨hlen, a, by rw [← HL.out]; exact hO, by rw [← HL.out]; exact hS⟩
  clear hO hS hs
  cases x with
  | none =>
    obtain rfl := hbare rfl
    clear hx
    go_enter Tryd.func46, Tryd.ntmps46
    go_wp2_with fail
    refine (stands_yes w b h1).mono ?_
    rintro e w0 ⟨rfl, hw0⟩
    rw [hw0]
    clear hw0 w0
    go_wp2
    go_region_held3 (fun w' => w'.cell? ⟨b, 10, none⟩ = some (.slice a L.length L.length))
      (first | go_keep)
      (refine step_append_run rfl _ _ 22 rfl _ _ _ rfl rfl HR.out ?_)
    go_wp2
    go_ret
    exact ⟨rfl, hD, hB⟩
  | some ad =>
    by_cases hq : cx = 0
    · subst hq
      go_enter Tryd.func46, Tryd.ntmps46
      go_wp2_with fail
      refine (stands_yes w b h1).mono ?_
      rintro e w0 ⟨rfl, hw0⟩
      rw [hw0]
      clear hw0 w0
      go_wp2
      go_region_held3 (fun w' => w'.cell? ⟨b, 10, none⟩ = some (.slice a L.length L.length))
        (first | go_keep)
        (refine step_append_run rfl _ _ 22 rfl _ _ _ rfl rfl HR.out ?_)
      go_wp2
      go_ret
      exact ⟨rfl, hD, hB⟩
    · have gq : (0 : Int) ≤ (cx : Int) := Int.natCast_nonneg _
      go_enter Tryd.func46, Tryd.ntmps46
      go_wp2_with fail
      refine (stands_yes w b h1).mono ?_
      rintro e w0 ⟨rfl, hw0⟩
      rw [hw0]
      clear hw0 w0
      go_wp2
      go_region_held3 (fun w' => w'.cell? ⟨b, 10, none⟩ = some (.slice a L.length L.length))
        (first | go_keep)
        (refine step_append_run rfl _ _ 22 rfl _ _ _ rfl rfl HR.out ?_)
      go_wp2
      go_ret
      exact ⟨rfl, hD, hB⟩

/-- Write, whatever the bytes. -/
theorem write_any {R : List Value} {ty : TypeId} (w : World) (b : Nat) (bs : List UInt8) (h : Dig R ty w b bs) (x : Option Addr) (cx : Nat) (cs : List UInt8) (hx : Sees w x cx cs) (hT : KTab w) (hfit : bs.length + cs.length ≤ 1048576) :
    Calls Tryd.prog 46 #[.pointer (some ⟨b, 0, none⟩), .slice x cs.length cx] w fun e w' => e = .returned (.int .i64 0) ∧ Dig R ty w' b (bs ++ cs) ∧ But b w w' := by
  by_cases h0 : cs = []
  · subst h0
    rw [List.append_nil]
    exact write_zero w b bs h x cx hx
  · obtain ⟨xb, xo, rfl, _⟩ := hx.at' h0
    rcases Nat.lt_trichotomy ((leftOf bs).length + cs.length) 64 with hlt | heq | hgt
    · by_cases hq : cx = cs.length
      · exact write_afew w b bs h xb xo cx cs hx hT hq hfit hlt
      · exact write_bfew w b bs h xb xo cx cs hx hT hq hfit hlt
    · by_cases hq : cx = cs.length
      · exact write_aeven w b bs h xb xo cx cs hx hT hq hfit heq
      · exact write_beven w b bs h xb xo cx cs hx hT hq hfit heq
    · have hl := leftOf_length bs
      refine write_many w b bs h xb xo cx cs (cs.take (64 - (leftOf bs).length)) (cs.drop (64 - (leftOf bs).length)) hx hT hfit (List.take_append_drop _ _).symm ?_ ?_
      · rw [List.length_take]; omega
      · rw [List.length_drop]; omega
end Go.Proofs.YtkpaldkmikjpiaaDoor
