/-
  Write of no bytes, with where what is left lies.
-/
import Derived.Test.YtkpaldkmikjpiaaDoorWriteC
namespace Go.Proofs.YtkpaldkmikjpiaaDoor
open Go.ChangeShapes Go.WideShapes Go.ChangeAt Go.RowKit

set_option maxHeartbeats 1600000 in
set_option maxRecDepth 20000 in
theorem write2_zero {R : List Value} {ty : TypeId} (w : World) (b : Nat) (bs : List UInt8) (h : Dig R ty w b bs) (x : Option Addr) (cx : Nat) (hx : Sees w x cx []) :
    Calls Tryd.prog 46 #[.pointer (some ⟨b, 0, none⟩), .slice x 0 cx] w fun e w' => e = .returned (.int .i64 0) ∧ Dig R ty w' b bs ∧ But b w w' ∧ ∃ a, ObjAt R ty w b bs.length (stOf bs) (.slice a (leftOf bs).length (leftOf bs).length) ∧ ObjAt R ty w' b bs.length (stOf bs) (.slice a (leftOf bs).length (leftOf bs).length) := by
  obtain ⟨a, ho, hs⟩ := h.obj
  have hlen := h.len
  have h1 := ho.made
  have h2 := ho.size
  have h10 := ho.left
  have hrc := hx.room
  unfold maxLen at hrc
  obtain ⟨L, hL⟩ : ∃ L, L = leftOf bs := ⟨_, rfl⟩
  have hLl : L.length < 64 := by rw [hL, leftOf_length]; omega
  rw [← hL] at ho hs h10
  have HO : Hid (ObjAt R ty w b bs.length (stOf bs) (.slice a L.length L.length)) := ho
  have HL : Hid (L = leftOf bs) := hL
  have hd : decide ((1048576 : Int) - (bs.length : Int) < (0 : Int)) = false := by simp; omega
  have hmin : (0 : Int) < (64 : Int) - (L.length : Int) := by omega
  have hrun : (Builtin.append_ #[22, 22] 22 #[.slice a L.length L.length, .slice x 0 cx]).run Tryd.prog w.drew = .ok (.slice a L.length L.length) w.drew := by
    obtain ⟨i5, hi, hz0, hz1, hz2⟩ := info_parts Tryd.info5
    exact run_append_nothing (P := Tryd.prog) w.drew 22 22 22 5 i5 Tryd.underlying22 hi a L.length L.length (Nat.le_refl _) (.slice x 0 cx) (by rw [hz1]; exact (hx.drewN 1).src)
  have HR : Hid ((Builtin.append_ #[22, 22] 22 #[.slice a L.length L.length, .slice x 0 cx]).run Tryd.prog w.drew = .ok (.slice a L.length L.length) w.drew) := hrun
  have c1 := ho.size
  have f10 := ho.frozen 10
  have f1 := ho.frozen 1
  have ht : ((L.length : Int) == 64) = false := by simp; omega
  have hfl := hs.room
  unfold maxLen at hfl
  have hbare := hx.bare
  clear ho hL h hrun
  have hO : ObjAt R ty ((w.drew.setCell ⟨b, 10, none⟩ (.slice a L.length L.length)).setCell ⟨b, 1, none⟩ (.int .i64 (bs.length : Int))) b bs.length (stOf bs) (.slice a L.length L.length) :=
    ((HO.out.drewN 1).setLeft (.slice a L.length L.length)).setSize bs.length
  have hB : But b w ((w.drew.setCell ⟨b, 10, none⟩ (.slice a L.length L.length)).setCell ⟨b, 1, none⟩ (.int .i64 (bs.length : Int))) :=
    (((But.refl b w).drewN 1).setCell 10 _).setCell 1 _
  have hS := hs.but HO.out (by intro x; simp) hB
  have hD : Dig R ty ((w.drew.setCell ⟨b, 10, none⟩ (.slice a L.length L.length)).setCell ⟨b, 1, none⟩ (.int .i64 (bs.length : Int))) b bs :=
    ⟨hlen, a, by rw [← HL.out]; exact hO, by rw [← HL.out]; exact hS⟩
  obtain ⟨aa, haa⟩ : ∃ aa, aa = a := ⟨_, rfl⟩
  have hOO : ∃ a, ObjAt R ty w b bs.length (stOf bs) (.slice a (leftOf bs).length (leftOf bs).length) ∧ ObjAt R ty ((w.drew.setCell ⟨b, 10, none⟩ (.slice aa L.length L.length)).setCell ⟨b, 1, none⟩ (.int .i64 (bs.length : Int))) b bs.length (stOf bs) (.slice a (leftOf bs).length (leftOf bs).length) := ⟨a, by rw [← HL.out]; exact HO.out, by rw [← HL.out]; rw [haa]; exact hO⟩
  rw [haa] at hOO
  clear hO hS hs haa
  cases x with
  | none =>
    obtain rfl := hbare rfl
    clear hx
    go_enter Tryd.func46, Tryd.ntmps46
    go_wp2_with fail
    refine (stands_yes w b h1).mono ?_
    rintro e w0 ⟨rfl, hw0⟩
    rw [hw0]
    clear hw0 w0
    go_wp2
    go_region_held3 (fun w' => w'.cell? ⟨b, 10, none⟩ = some (.slice a L.length L.length))
      (first | go_keep)
      (refine step_append_run rfl _ _ 22 rfl _ _ _ rfl rfl HR.out ?_)
    go_wp2
    go_ret
    exact ⟨rfl, hD, hB, hOO⟩
  | some ad =>
    by_cases hq : cx = 0
    · subst hq
      go_enter Tryd.func46, Tryd.ntmps46
      go_wp2_with fail
      refine (stands_yes w b h1).mono ?_
      rintro e w0 ⟨rfl, hw0⟩
      rw [hw0]
      clear hw0 w0
      go_wp2
      go_region_held3 (fun w' => w'.cell? ⟨b, 10, none⟩ = some (.slice a L.length L.length))
        (first | go_keep)
        (refine step_append_run rfl _ _ 22 rfl _ _ _ rfl rfl HR.out ?_)
      go_wp2
      go_ret
      exact ⟨rfl, hD, hB, hOO⟩
    · have gq : (0 : Int) ≤ (cx : Int) := Int.natCast_nonneg _
      go_enter Tryd.func46, Tryd.ntmps46
      go_wp2_with fail
      refine (stands_yes w b h1).mono ?_
      rintro e w0 ⟨rfl, hw0⟩
      rw [hw0]
      clear hw0 w0
      go_wp2
      go_region_held3 (fun w' => w'.cell? ⟨b, 10, none⟩ = some (.slice a L.length L.length))
        (first | go_keep)
        (refine step_append_run rfl _ _ 22 rfl _ _ _ rfl rfl HR.out ?_)
      go_wp2
      go_ret
      exact ⟨rfl, hD, hB, hOO⟩

theorem ObjAt.same {R : List Value} {ty : TypeId} {w : World} {b n m k l : Nat} {s t : S8} {a c : Option Addr} (h1 : ObjAt R ty w b n s (.slice a k k)) (h2 : ObjAt R ty w b m t (.slice c l l)) : a = c := by
  have h3 := h1.left
  rw [h2.left] at h3
  simp only [Option.some.injEq, Value.slice.injEq] at h3
  exact h3.1.symm
end Go.Proofs.YtkpaldkmikjpiaaDoor
