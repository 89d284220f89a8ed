/-
  The contracts of word.Hex, word.Unhex and word.value, where the digits' table holds the digits.
-/
import Derived.Test.YtmldfljgngkneaaDoorRows
import Derived.Test.YtmldfljgngkneaaDoorHexMath
import Derived.Deep.QuietTactic
import Derived.BigQuiet
import Derived.Deep.RegionHeld3
import Derived.Deep.AppendLies
namespace Go.Proofs.YtmldfljgngkneaaDoor
open Go.ChangeShapes Go.WideShapes Go.ChangeAt Go.RowKit

theorem Tryd.info5 : (Tryd.prog.info? 5).map (fun i => (i.zero, i.size, i.bytes)) = some (some (.int .u8 0), 1, 1) := by kernel_rfl

/-- The table (block 0) holds the digits. -/
def Tab (w : World) : Prop := ∀ i, i < 16 → w.cell? ⟨0, i, none⟩ = some (.int .u8 (hexd.getD i 0).toNat)

theorem Tab.below {B : Nat} {w w' : World} (h : Tab w) (hb : Below B w w') (hB : 0 < B) : Tab w' := fun i hi => by
  rw [hb.cell (p := ⟨0, i, none⟩) hB, h i hi]

theorem find_at (c : UInt8) (j : Nat) (hj : j < 16) (hb : ∀ m, m < j → hexd.getD m 0 ≠ c) (he : hexd.getD j 0 = c) : isD c = true ∧ (valD c).toNat = j := by
  have hl : j < hexd.length := hj
  have h1 : c ∈ hexd := by rw [← he, List.getD_eq_getElem?_getD, List.getElem?_eq_getElem hl]; exact List.getElem_mem _
  refine ⟨by simpa [isD] using h1, ?_⟩
  have h2 : hexd.findIdx (· == c) = j := by
    rw [List.findIdx_eq hl]
    refine ⟨by simpa [hl] using he, fun m hm => ?_⟩
    have := hb m hm
    simpa [show m < hexd.length by omega] using this
  rw [valD, h2, UInt8.toNat_ofNat']
  omega

theorem find_no (c : UInt8) (hb : ∀ m, m < 16 → hexd.getD m 0 ≠ c) : isD c = false := by
  rw [Bool.eq_false_iff]
  intro h
  obtain ⟨i, hi⟩ := isD_get c h
  exact hb i.val i.isLt hi.symm

theorem run_digit (w : World) (j : Nat) (hj : j < 16) : (Instr.index 35 (.agg #[.int .u8 48, .int .u8 49, .int .u8 50, .int .u8 51, .int .u8 52, .int .u8 53, .int .u8 54, .int .u8 55, .int .u8 56, .int .u8 57, .int .u8 97, .int .u8 98, .int .u8 99, .int .u8 100, .int .u8 101, .int .u8 102]) (.int .i64 (j : Int))).run Tryd.prog w = .ok (.int .u8 (hexd.getD j 0).toNat) w := by
  have hc : j = 0 ∨ j = 1 ∨ j = 2 ∨ j = 3 ∨ j = 4 ∨ j = 5 ∨ j = 6 ∨ j = 7 ∨ j = 8 ∨ j = 9 ∨ j = 10 ∨ j = 11 ∨ j = 12 ∨ j = 13 ∨ j = 14 ∨ j = 15 := by omega
  simp [Instr.index, run_underlying Tryd.underlying35, asIntOf, go_sem, hj]
  rcases hc with rfl | rfl | rfl | rfl | rfl | rfl | rfl | rfl | rfl | rfl | rfl | rfl | rfl | rfl | rfl | rfl <;> rfl

/-- What value answers. -/
def vres (c : UInt8) : Value := if isD c then .tuple #[.int .u8 (valD c).toNat, .bool true] else .tuple #[.int .u8 0, .bool false]
theorem vres_yes {c : UInt8} (h : isD c = true) : vres c = .tuple #[.int .u8 (valD c).toNat, .bool true] := by simp [vres, h]
theorem vres_no {c : UInt8} (h : isD c = false) : vres c = .tuple #[.int .u8 0, .bool false] := by simp [vres, h]

set_option maxHeartbeats 1600000 in
theorem value_any (w : World) (c : UInt8) (hT : Tab w) :
    Calls Tryd.prog 9 #[.int .u8 c.toNat] w fun e w' => e = .returned (vres c) ∧ w' = w := by
  have HT : Hid (Tab w) := hT
  have t0 := hT 0 (by omega)
  have t1 := hT 1 (by omega)
  have t2 := hT 2 (by omega)
  have t3 := hT 3 (by omega)
  have t4 := hT 4 (by omega)
  have t5 := hT 5 (by omega)
  have t6 := hT 6 (by omega)
  have t7 := hT 7 (by omega)
  have t8 := hT 8 (by omega)
  have t9 := hT 9 (by omega)
  have t10 := hT 10 (by omega)
  have t11 := hT 11 (by omega)
  have t12 := hT 12 (by omega)
  have t13 := hT 13 (by omega)
  have t14 := hT 14 (by omega)
  have t15 := hT 15 (by omega)
  simp only [hexd, List.getD_cons_zero, List.getD_cons_succ] at t0 t1 t2 t3 t4 t5 t6 t7 t8 t9 t10 t11 t12 t13 t14 t15
  clear hT
  go_enter Tryd.func9, Tryd.ntmps9
  go_wp2
  clear t0 t1 t2 t3 t4 t5 t6 t7 t8 t9 t10 t11 t12 t13 t14 t15
  go_loop [7] (fun i => ∃ j : Nat, j ≤ 16 ∧ i = .int .i64 j ∧ Hid (∀ m, m < j → hexd.getD m 0 ≠ c)) (fun i => 16 - (intOf i).toNat)
  case atStart => exact ⟨0, by omega, rfl, fun m hm => by omega⟩
  case round =>
    obtain ⟨j, hj, rfl, Hb⟩ := hrel
    by_cases hlt : j < 16
    · obtain ⟨x, hx⟩ : ∃ x, x = hexd.getD j 0 := ⟨_, rfl⟩
      have hix : ∀ W : World, (Instr.index 35 (.agg #[.int .u8 48, .int .u8 49, .int .u8 50, .int .u8 51, .int .u8 52, .int .u8 53, .int .u8 54, .int .u8 55, .int .u8 56, .int .u8 57, .int .u8 97, .int .u8 98, .int .u8 99, .int .u8 100, .int .u8 101, .int .u8 102]) (.int .i64 (j : Int))).run Tryd.prog W = .ok (.int .u8 x.toNat) W := fun W => by rw [hx]; exact run_digit W j hlt
      have Hx : Hid (x = hexd.getD j 0) := hx
      clear hx
      by_cases he : x = c
      · subst he
        have HF : Hid (isD x = true ∧ (valD x).toNat = j) := find_at x j hlt Hb.out Hx.out.symm
        have hp : Hid (vres x = .tuple #[.int .u8 (j : Int), .bool true]) := by
          rw [vres_yes HF.out.1, HF.out.2]; exact rfl
        clear Hb HF HT hj
        go_wp2
        go_ret2
        exact ⟨by rw [hp.out]; rfl, rfl⟩
      · have hq : ¬ (x.toNat : Int) = (c.toNat : Int) := fun h => he (UInt8.toNat_inj.1 (by omega))
        have HB : Hid (∀ m, m < j + 1 → hexd.getD m 0 ≠ c) := fun m hm => by
          rcases Nat.lt_or_eq_of_le (Nat.le_of_lt_succ hm) with h | rfl
          · exact Hb.out m h
          · rw [← Hx.out]; exact he
        clear Hb he HT hj
        go_wp2
        go_round
        case rel => exact ⟨j + 1, by omega, by go_num, HB⟩
        case measure => simp [intOf]; omega
    · obtain rfl : j = 16 := by omega
      have HF : Hid (isD c = false) := find_no c Hb.out
      have hp : Hid (vres c = .tuple #[.int .u8 0, .bool false]) := vres_no HF.out
      clear Hb HF HT
      go_wp2
      go_ret2
      exact ⟨by rw [hp.out]; rfl, rfl⟩

theorem value_yes (w : World) (c : UInt8) (hT : Tab w) (h : isD c = true) :
    Calls Tryd.prog 9 #[.int .u8 c.toNat] w fun e w' => e = .returned (.tuple #[.int .u8 (valD c).toNat, .bool true]) ∧ w' = w := by
  have := value_any w c hT
  rw [vres_yes h] at this
  exact this
theorem value_no (w : World) (c : UInt8) (hT : Tab w) (h : isD c = false) :
    Calls Tryd.prog 9 #[.int .u8 c.toNat] w fun e w' => e = .returned (.tuple #[.int .u8 0, .bool false]) ∧ w' = w := by
  have := value_any w c hT
  rw [vres_no h] at this
  exact this
end Go.Proofs.YtmldfljgngkneaaDoor
