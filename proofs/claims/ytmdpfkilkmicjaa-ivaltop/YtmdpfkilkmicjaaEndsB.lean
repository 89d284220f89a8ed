/-
  The contract of ends.
-/
import Derived.Test.YtmdpfkilkmicjaaEnds
import Derived.Test.YtmdpfkilkmicjaaIvalCalls
namespace Go.Proofs.Ytmdpfkilkmicjaa
open Go.ChangeShapes Go.WideShapes Go.ChangeAt Go.RowKit

set_option maxHeartbeats 3200000 in
set_option maxRecDepth 20000 in
theorem ends_ok (w : World) (a : Option Addr) (ca : Nat) (L : List (Int × Int)) (hs : Ivals w a ca L) (hl : L.length ≤ 200) :
    Calls Try.prog 35 #[.slice a L.length ca] w fun e w' => ∃ p cp, e = .returned (.slice p (sortE (endsL L)).length cp) ∧ Ivals w' p cp (sortE (endsL L)) ∧ Below w.heap.size w w' := by
  have HS : Hid (∀ W, Below w.heap.size w W → Ivals W a ca L) := fun W hb => hs.below hb
  have HR : Hid (∀ W x y, Calls Try.prog 19 #[.agg #[.int .i64 x, .int .i64 y]] W fun e w' => e = .returned (.bool (rightB x y)) ∧ Below W.heap.size W w') := fun W x y => isright_ok W x y
  have HQ : Hid (∀ W B v l, W.ownsRow B 63 2 v l.length (flatE l) → l.length ≤ 1000000 → Calls Try.prog 42 #[v, .func (.func 43) #[] #[]] W fun e w' => e = .returned (.tuple #[]) ∧ (∃ p cap, v = .slice p l.length cap ∧ Ivals w' p cap (sortE l)) ∧ Below B W w') := sort_ok
  obtain ⟨i0, hi, hz0, hz1, hz2⟩ := info_parts endInfo
  clear hs
  go_enter Try.func35, Try.ntmps35
  go_wp2
  go_loopw [3, 8] (fun t u wr => ∃ j : Nat, j ≤ L.length ∧ u = .int .i64 (j : Int) ∧ wr.ownsRow w.heap.size 63 2 t (endsL (L.take j)).length (flatE (endsL (L.take j))) ∧ Below w.heap.size w wr) (fun _ u _ => L.length - (intOf u).toNat)
  case atStart => exact ⟨0, Nat.zero_le _, rfl, World.ownsRow_nil _ _ _ _, Below.refl _ _⟩
  case round =>
    obtain ⟨j, hj, rfl, hown, hbel⟩ := hrel
    have hel := endsL_length (L.take j)
    have hel2 : (L.take j).length ≤ j := by simp; omega
    by_cases hlt : j < L.length
    · obtain ⟨x, hx⟩ : ∃ x, L[j]? = some x := ⟨L[j], by simp [hlt]⟩
      obtain ⟨b1, o1, ha, hc1, hc2⟩ := (HS.out _ hbel).get hx
      have htk : L.take (j + 1) = L.take j ++ [x] := by rw [List.take_add_one, hx]; rfl
      have hen : endsL (L.take (j + 1)) = endsL (L.take j) ++ endsL [x] := by rw [htk, endsL_append]
      subst ha
      have HX : Hid (∀ W, Calls Try.prog 19 #[.agg #[.int .i64 x.1, .int .i64 x.2]] W fun e w' => e = .returned (.bool (rightB x.1 x.2)) ∧ Below W.heap.size W w') := fun W => HR.out W _ _
      have g1 : (j : Int) < (L.length : Int) := by omega
      have g3 : (0 : Int) ≤ (j : Int) := Int.natCast_nonneg _
      have HJ : Hid (j < L.length) := hlt
      obtain ⟨x1, x2⟩ := x
      simp only [] at HX hc1 hc2
      generalize hE : endsL (L.take j) = E at *
      have HO : Hid (wr.ownsRow w.heap.size 63 2 u3 E.length (flatE E)) := hown
      cases hr : rightB x1 x2
      · rw [hr] at HX
        have hen2 : endsL (L.take (j + 1)) = E := by rw [hen]; simp [endsL, hr]
        clear hx htk hen hlt hr hown HS HR HQ hel hel2
        go_wp2_with fail
        refine (HX.out _).mono ?_
        rintro e w1 ⟨rfl, hb⟩
        have HP : Hid (w1.ownsRow w.heap.size 63 2 u3 E.length (flatE E)) := own_keepE (HO.out.alloc _) hb
        have bel2 := (hbel.alloc hbel.size _).trans (hb.mono (Nat.le_trans hbel.size (by simp)))
        clear HX hb hc1 hc2 HO hbel
        go_wp2
        go_roundw
        case rel => exact ⟨j + 1, HJ.out, by first | go_num | (congr 1; omega), by rw [hen2]; exact HP.out, bel2⟩
        case measure => have := HJ.out; simp [intOf]; omega
      · rw [hr] at HX
        have hen2 : endsL (L.take (j + 1)) = E ++ [(x1, 1), (x2, -1)] := by rw [hen]; simp [endsL, hr]
        have hEl : E.length ≤ 400 := by omega
        clear hx htk hen hlt hr hown HS HR HQ hel hel2
        go_wp2_with fail
        refine (HX.out _).mono ?_
        rintro e w1 ⟨rfl, hb⟩
        have HP : Hid (w1.ownsRow w.heap.size 63 2 u3 E.length (flatE E)) := own_keepE (HO.out.alloc _) hb
        obtain ⟨f0, f1, _, _⟩ := ((Pair.new wr x1 x2).below hb).facts
        have bel2 := (hbel.alloc hbel.size _).trans (hb.mono (Nat.le_trans hbel.size (by simp)))
        have hbs := bel2.size
        clear HX hb hc1 hc2 HO hbel
        go_wp2_with (first
          | (at_builtin; refine wpList_append_own _ rfl _ _ 57 rfl w.heap.size 63 i0 (.agg #[.int .i64 0, .int .i64 0]) 2 16 Try.underlying57 hi hz0 hz1 hz2 rfl (by decide) _ _ _ rfl (HP.out.alloc _) ⟨w1.heap.size, 0, none⟩ 2 2 [.int .i64 x1, .int .i64 1, .int .i64 x2, .int .i64 (-1)] rfl rfl (four_new _ _ _ _ _) (fun x hx => by simp at hx; rcases hx with rfl | rfl | rfl | rfl <;> rfl) (by unfold maxLen; omega) (by omega) (by simp; omega) ?_; intro v' w3 hown' hgrow3 hnil3
             have hbw3 : Below w.heap.size w w3 := Below.grown (bel2.alloc bel2.size _) hgrow3 (by simp; omega) (fun j hj => (HP.out.lt _ hj).1)
             have X : Aside (w3.ownsRow w.heap.size 63 2 v' (E.length + 2) (flatE E ++ [.int .i64 x1, .int .i64 1, .int .i64 x2, .int .i64 (-1)]) ∧ Below w.heap.size w w3) := ⟨hown', hbw3⟩
             clear hown' hgrow3 hnil3 hbw3))
        go_roundw
        case rel =>
          refine ⟨j + 1, HJ.out, by first | go_num | (congr 1; omega), ?_, X.out.2⟩
          rw [hen2, flatE_append, List.length_append]
          exact X.out.1
        case measure => have := HJ.out; simp [intOf]; omega
    · have hjl : j = L.length := by omega
      rw [show L.take j = L by rw [hjl]; exact List.take_of_length_le (Nat.le_refl _)] at hown hel
      have hll : (endsL L).length ≤ 1000000 := by omega
      have k := HQ.out wr w.heap.size u3 (endsL L) hown hll
      have hsl : (sortE (endsL L)).length = (endsL L).length := (sortE_perm _).length_eq
      clear hown hel hel2 HS HR HQ
      go_wp2_with fail
      refine k.mono ?_
      rintro e w1 ⟨rfl, ⟨p, cap, rfl, hI⟩, hb⟩
      clear k
      have HI : Hid (Ivals w1 p cap (sortE (endsL L))) := hI
      clear hI
      go_wp2
      go_ret
      exact ⟨p, cap, by rw [hsl]; rfl, HI.out, hbel.trans hb⟩
end Go.Proofs.Ytmdpfkilkmicjaa
