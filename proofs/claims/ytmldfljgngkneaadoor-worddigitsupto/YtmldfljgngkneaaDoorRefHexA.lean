/-
  The contracts of the document's digit and Hex.
-/
import Derived.Test.YtmldfljgngkneaaDoorHexc
namespace Go.Proofs.YtmldfljgngkneaaDoor
open Go.ChangeShapes Go.WideShapes Go.ChangeAt Go.RowKit

/-- The digits as a text. -/
theorem run_digit_text (w : World) (j : Nat) (hj : j < 16) (k : IntKind) : (Instr.index 9 (.string ⟨#[48, 49, 50, 51, 52, 53, 54, 55, 56, 57, 97, 98, 99, 100, 101, 102]⟩) (.int k (j : Int))).run Tryd.prog w = .ok (.int .u8 (hexd.getD j 0).toNat) w := by
  have hc : j = 0 ∨ j = 1 ∨ j = 2 ∨ j = 3 ∨ j = 4 ∨ j = 5 ∨ j = 6 ∨ j = 7 ∨ j = 8 ∨ j = 9 ∨ j = 10 ∨ j = 11 ∨ j = 12 ∨ j = 13 ∨ j = 14 ∨ j = 15 := by omega
  rw [run_index_string w 9 _ k j Tryd.underlying9, dif_pos ⟨by omega, by show (j : Int) < 16; omega⟩]
  rcases hc with rfl | rfl | rfl | rfl | rfl | rfl | rfl | rfl | rfl | rfl | rfl | rfl | rfl | rfl | rfl | rfl <;> rfl

/-- What digit answers. -/
def dres (c : UInt8) : Value := if isD c then .int .i64 (valD c).toNat else .int .i64 (-1)
theorem dres_yes {c : UInt8} (h : isD c = true) : dres c = .int .i64 (valD c).toNat := by simp [dres, h]
theorem dres_no {c : UInt8} (h : isD c = false) : dres c = .int .i64 (-1) := by simp [dres, h]

set_option maxHeartbeats 800000 in
theorem digit_any (w : World) (c : UInt8) :
    Calls Tryd.prog 10 #[.int .u8 c.toNat] w fun e w' => e = .returned (dres c) ∧ w' = w := by
  go_enter Tryd.func10, Tryd.ntmps10
  go_wp2
  go_loop [3] (fun i => ∃ j : Nat, j ≤ 16 ∧ i = .int .i64 j ∧ Hid (∀ m, m < j → hexd.getD m 0 ≠ c)) (fun i => 16 - (intOf i).toNat)
  case atStart => exact ⟨0, by omega, rfl, fun m hm => by omega⟩
  case round =>
    obtain ⟨j, hj, rfl, Hb⟩ := hrel
    by_cases hlt : j < 16
    · obtain ⟨x, hx⟩ : ∃ x, x = hexd.getD j 0 := ⟨_, rfl⟩
      have hix : ∀ W : World, (Instr.index 9 (.string ⟨#[48, 49, 50, 51, 52, 53, 54, 55, 56, 57, 97, 98, 99, 100, 101, 102]⟩) (.int .i64 (j : Int))).run Tryd.prog W = .ok (.int .u8 x.toNat) W := fun W => by rw [hx]; exact run_digit_text W j hlt _
      have Hx : Hid (x = hexd.getD j 0) := hx
      clear hx
      by_cases he : x = c
      · subst he
        have HF : Hid (isD x = true ∧ (valD x).toNat = j) := find_at x j hlt Hb.out Hx.out.symm
        have hp : Hid (dres x = .int .i64 (j : Int)) := by
          rw [dres_yes HF.out.1, HF.out.2]; exact rfl
        clear Hb HF hj
        go_wp2
        go_ret
        exact ⟨by rw [hp.out]; rfl, rfl⟩
      · have hq : ¬ (x.toNat : Int) = (c.toNat : Int) := fun h => he (UInt8.toNat_inj.1 (by omega))
        have HB : Hid (∀ m, m < j + 1 → hexd.getD m 0 ≠ c) := fun m hm => by
          rcases Nat.lt_or_eq_of_le (Nat.le_of_lt_succ hm) with h | rfl
          · exact Hb.out m h
          · rw [← Hx.out]; exact he
        clear Hb he hj
        go_wp2
        go_round
        case rel => exact ⟨j + 1, by omega, by go_num, HB⟩
        case measure => simp [intOf]; omega
    · obtain rfl : j = 16 := by omega
      have HF : Hid (isD c = false) := find_no c Hb.out
      have hp : Hid (dres c = .int .i64 (-1)) := dres_no HF.out
      clear Hb HF
      go_wp2
      go_ret
      exact ⟨by rw [hp.out]; rfl, rfl⟩

theorem digit_yes (w : World) (c : UInt8) (h : isD c = true) :
    Calls Tryd.prog 10 #[.int .u8 c.toNat] w fun e w' => e = .returned (.int .i64 (valD c).toNat) ∧ w' = w := by
  have := digit_any w c
  rw [dres_yes h] at this
  exact this
theorem digit_no (w : World) (c : UInt8) (h : isD c = false) :
    Calls Tryd.prog 10 #[.int .u8 c.toNat] w fun e w' => e = .returned (.int .i64 (-1)) ∧ w' = w := by
  have := digit_any w c
  rw [dres_no h] at this
  exact this

set_option maxHeartbeats 1600000 in
theorem refhex_any (w : World) (a : Option Addr) (ca : Nat) (bs : List UInt8) (ha : Sees w a ca bs) (hr : bs.length ≤ 1048576) :
    Calls Tryd.prog 7 #[.slice a bs.length ca] w fun e w' => e = .returned (.string ⟨(hexL bs).toArray⟩) ∧ Below w.heap.size w w' := by
  obtain ⟨i5, hi, hz0, hz1, hz2⟩ := info_parts Tryd.info5
  go_enter Tryd.func7, Tryd.ntmps7
  go_wp2
  go_loopw [3, 4] (fun v i wr => ∃ k : Nat, k ≤ bs.length ∧ i = .int .i64 k ∧ wr.ownsRow w.heap.size 5 1 v (2 * k) ((hexL (bs.take k)).map cellOf) ∧ Below w.heap.size w wr)
    (fun _ i _ => bs.length - (intOf i).toNat)
  case atStart => exact ⟨0, Nat.zero_le _, rfl, by simpa [hexL] using World.ownsRow_nil w w.heap.size 5 1, Below.refl _ _⟩
  case round =>
    obtain ⟨k, hk, rfl, ho, hbl⟩ := hrel
    by_cases hlt : k < bs.length
    · obtain ⟨c, hc⟩ : ∃ c, bs[k]? = some c := ⟨bs[k], by simp [hlt]⟩
      obtain ⟨b1, o1, rfl, hc1⟩ := (ha.below hbl).get hc
      have l1 : b1 < w.heap.size := by obtain ⟨b, o, h, hcc⟩ := ha.get hc; cases h; exact World.block_lt_of_cell? w _ hcc
      have hsz := hbl.size
      obtain ⟨p, hp⟩ : ∃ p, p = c.toNat / 16 := ⟨_, rfl⟩
      obtain ⟨q, hq⟩ : ∃ q, q = c.toNat % 16 := ⟨_, rfl⟩
      have hcb := toNat_lt256 c
      have p1 : p < 16 := by omega
      have q1 : q < 16 := by omega
      obtain ⟨x, hx⟩ : ∃ x, x = hexd.getD p 0 := ⟨_, rfl⟩
      obtain ⟨y, hy⟩ : ∃ y, y = hexd.getD q 0 := ⟨_, rfl⟩
      have hxp : ∀ W : World, (Instr.index 9 (.string ⟨#[48, 49, 50, 51, 52, 53, 54, 55, 56, 57, 97, 98, 99, 100, 101, 102]⟩) (.int .u8 (p : Int))).run Tryd.prog W = .ok (.int .u8 x.toNat) W := fun W => by rw [hx]; exact run_digit_text W p p1 _
      have hyq : ∀ W : World, (Instr.index 9 (.string ⟨#[48, 49, 50, 51, 52, 53, 54, 55, 56, 57, 97, 98, 99, 100, 101, 102]⟩) (.int .u8 (q : Int))).run Tryd.prog W = .ok (.int .u8 y.toNat) W := fun W => by rw [hy]; exact run_digit_text W q q1 _
      have ep : (c.toNat : Int) / 16 = (p : Int) := by omega
      have eq : (c.toNat : Int) % 16 = (q : Int) := by omega
      have ep2 : (c.toNat : Int).tdiv 16 = (p : Int) := by rw [Int.tdiv_eq_ediv_of_nonneg (by omega)]; omega
      have eq2 : (c.toNat : Int).tmod 16 = (q : Int) := by rw [Int.tmod_eq_emod_of_nonneg (by omega)]; omega
      have wp : IntKind.u8.wrap (p : Int) = (p : Int) := by rw [IntKind.wrap_u8']; omega
      have n1 : u3.ownBlock ≠ some b1 := fun h => by have := (ho.lt _ h).1; omega
      have HS : Hid ((hexL (bs.take (k + 1))).map cellOf = (hexL (bs.take k)).map cellOf ++ [.int .u8 x.toNat, .int .u8 y.toNat]) := by
        rw [take_snoc bs k c hc, hexL_snoc, List.map_append, hexOf, ← hp, ← hq, ← hx, ← hy]; exact rfl
      have g0 : (0 : Int) ≤ (k : Int) := Int.natCast_nonneg _
      have g5 : (k : Int) < (bs.length : Int) := by omega
      have g1 : (0 : Int) ≤ (p : Int) := Int.natCast_nonneg _
      have g2 : (p : Int) < 16 := by omega
      have g3 : (0 : Int) ≤ (q : Int) := Int.natCast_nonneg _
      have g4 : (q : Int) < 16 := by omega
      clear hc hp hq hx hy
      go_wp2
      go_region_held3 (fun w' => w'.cell? ⟨b1, o1 + k, none⟩ = some (.int .u8 c.toNat))
        (first
          | go_keep
          | (rw [hgrow.cell_far _ (by simp; omega) (Ne.symm n1)]; assumption))
        ((refine step_append_lies _ (by rfl) _ _ _ (by rfl) w.heap.size 5 i5 (.int .u8 0) 1 1 Tryd.underlying22 hi hz0 hz1 hz2 rfl (by omega) u3 (2 * k) _ (by rfl) ((ho.alloc _).drew)
            ⟨wr.heap.size, 0, none⟩ 2 2 [.int .u8 x.toNat, .int .u8 y.toNat] (by rfl) (by rfl) (World.news_of_block (cs := #[.int .u8 x.toNat, .int .u8 y.toNat]) (t := 5) (fr := (0, 0)) (heap_alloc_new wr _)) (by simp [Value.oneCell'])
            (by omega) (by unfold maxLen; omega) (by omega) (by simp; omega) (wr.heap.size + 1) (by simp) ?_; intro gg cap w3 hown1 hgrow hat hlt'))
      all_goals
        have hbl' : Below w.heap.size w w3 := ((hbl.alloc hsz _).drew).grown hgrow (by simp; omega) (fun q h => (ho.lt _ h).1)
        go_wp2
        go_roundw
        case rel =>
          refine ⟨k + 1, by omega, by go_num, ?_, hbl'⟩
          rw [HS.out, Nat.mul_add]
          exact hown1
        case measure => simp [intOf]; omega
    · obtain rfl : k = bs.length := by omega
      rw [List.take_length] at ho
      obtain ⟨r, hr'⟩ : ∃ r, r = hexL bs := ⟨_, rfl⟩
      rw [← hr'] at ho
      have HR : Hid (r = hexL bs) := hr'
      clear hr'
      obtain ⟨d, cd, hv, hs⟩ := Sees.of_own ho
      have e1 := hs.convert (P := Tryd.prog) 22 5 9 Tryd.underlying22 Tryd.underlying5 Tryd.underlying9
      rw [hv]
      go_wp2
      go_ret
      exact ⟨by rw [← HR.out]; rfl, hbl⟩
end Go.Proofs.YtmldfljgngkneaaDoor
