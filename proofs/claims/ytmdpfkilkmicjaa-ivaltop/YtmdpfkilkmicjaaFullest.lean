/-
  The contract of fullest.
-/
import Derived.Test.YtmdpfkilkmicjaaIvals
import Derived.Test.YtmdpfkilkmicjaaMostMath
import Derived.Test.YtmdpfkilkmicjaaRows
import Derived.Lib.SmallJoins
namespace Go.Proofs.Ytmdpfkilkmicjaa
open Go.ChangeShapes Go.WideShapes Go.ChangeAt Go.RowKit

theorem sumM_bound {l : List (Int × Int)} (h : ∀ e ∈ l, e.2 = 1 ∨ e.2 = -1) : -(l.length : Int) ≤ sumM l ∧ sumM l ≤ l.length := by
  induction l with
  | nil => simp [sumM]
  | cons x l ih =>
    have h1 := h x List.mem_cons_self
    have h2 := ih (fun e he => h e (List.mem_cons_of_mem _ he))
    simp only [sumM, List.length_cons]
    omega

set_option maxHeartbeats 3200000 in
set_option maxRecDepth 20000 in
theorem fullest_ok (w : World) (a : Option Addr) (ca : Nat) (S : List (Int × Int)) (hs : Ivals w a ca S) (h1 : ∀ e ∈ S, e.2 = 1 ∨ e.2 = -1) (hl : S.length ≤ 1000000) :
    Calls Try.prog 34 #[.slice a S.length ca] w fun e w' => ∃ h m p, e = .returned (.tuple #[.int .i64 p, .int .i64 m]) ∧ Full S h m p ∧ Below w.heap.size w w' := by
  have HS : Hid (∀ W, Below w.heap.size w W → Ivals W a ca S) := fun W hb => hs.below hb
  have H1 : Hid (∀ e ∈ S, e.2 = 1 ∨ e.2 = -1) := h1
  clear hs h1
  go_enter Try.func34, Try.ntmps34
  go_wp2
  go_loopw [4, 5, 6, 11] (fun t u v z wr => ∃ (j : Nat) (h m p : Int), j ≤ S.length ∧ t = .int .i64 p ∧ u = .int .i64 h ∧ v = .int .i64 m ∧ z = .int .i64 (j : Int) ∧ Full (S.take j) h m p ∧ Below w.heap.size w wr) (fun _ _ _ z _ => S.length - (intOf z).toNat)
  case atStart => exact ⟨0, 0, 0, 0, Nat.zero_le _, rfl, rfl, rfl, rfl, Full.nil, Below.refl _ _⟩
  case round =>
    obtain ⟨j, h, m, p, hj, rfl, rfl, rfl, rfl, hF, hbel⟩ := hrel
    by_cases hlt : j < S.length
    · obtain ⟨x, hx⟩ : ∃ x, S[j]? = some x := ⟨S[j], by simp [hlt]⟩
      obtain ⟨b1, o1, ha, hc1, hc2⟩ := (HS.out _ hbel).get hx
      have htk : S.take (j + 1) = S.take j ++ [x] := by rw [List.take_add_one, hx]; rfl
      have hb0 := sumM_bound (l := S.take j) (fun e he => H1.out e (List.mem_of_mem_take he))
      have hbl : (S.take j).length ≤ j := by simp; omega
      have hx2 := H1.out x (List.mem_of_getElem? hx)
      have hsum := hF.1
      subst ha
      obtain ⟨x1, x2⟩ := x
      simp only [] at hc1 hc2 hx2
      obtain ⟨H, hH⟩ : ∃ H, H = h + x2 := ⟨_, rfl⟩
      have c6 : IntKind.i64.wrap (h + x2) = H := by rw [hH, IntKind.wrap_i64]; omega
      have g1 : (j : Int) < (S.length : Int) := by omega
      have g3 : (0 : Int) ≤ (j : Int) := Int.natCast_nonneg _
      have HJ : Hid (j < S.length) := hlt
      have bel2 := hbel.alloc hbel.size (.cells #[.int .i64 x1, .int .i64 x2] 63)
      by_cases hg : m < H
      · have HK : Hid (Full (S.take (j + 1)) H H x1) := by
          show Full _ H H x1
          rw [htk, hH]; exact hF.more (e := (x1, x2)) (by show m < h + x2; omega)
        clear hx htk hb0 hbl hx2 hsum hH hlt hF H1 HS hbel
        go_wp2
        go_roundw
        case rel => exact ⟨j + 1, H, H, x1, HJ.out, rfl, rfl, rfl, by first | go_num | (congr 1; omega), HK.out, bel2⟩
        case measure => have := HJ.out; simp [intOf]; omega
      · have HK : Hid (Full (S.take (j + 1)) H m p) := by
          show Full _ H m p
          rw [htk, hH]; exact hF.less (e := (x1, x2)) (by show ¬ m < h + x2; omega)
        clear hx htk hb0 hbl hx2 hsum hH hlt hF H1 HS hbel
        go_wp2
        go_roundw
        case rel => exact ⟨j + 1, H, m, p, HJ.out, rfl, rfl, rfl, by first | go_num | (congr 1; omega), HK.out, bel2⟩
        case measure => have := HJ.out; simp [intOf]; omega
    · have hjl : j = S.length := by omega
      rw [show S.take j = S by rw [hjl]; exact List.take_of_length_le (Nat.le_refl _)] at hF
      have HF : Hid (Full S h m p) := hF
      clear hF H1 HS
      go_wp2
      go_ret2
      exact ⟨h, m, p, rfl, HF.out, hbel⟩
end Go.Proofs.Ytmdpfkilkmicjaa
