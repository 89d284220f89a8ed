/-
  The contract of word.Hex.
-/
import Derived.Test.YtmldfljgngkneaaDoorHex
namespace Go.Proofs.YtmldfljgngkneaaDoor
open Go.ChangeShapes Go.WideShapes Go.ChangeAt Go.RowKit

theorem Tab.pos {w : World} (h : Tab w) : 0 < w.heap.size := World.block_lt_of_cell? w _ (h 0 (by omega))

theorem and15 (c : UInt8) : bits .and .u8 (c.toNat : Int) 15 = ((c.toNat % 16 : Nat) : Int) := by
  rw [show (15 : Int) = ((15 : Nat) : Int) from rfl, u8_and_nat _ _ (toNat_lt256 c) (by omega)]
  rw [show c.toNat &&& 15 = c.toNat % 2 ^ 4 from Nat.and_two_pow_sub_one_eq_mod c.toNat 4]

set_option maxHeartbeats 1600000 in
theorem hex_any (w : World) (a : Option Addr) (ca : Nat) (bs : List UInt8) (ha : Sees w a ca bs) (hT : Tab w) (hr : bs.length ≤ 1048576) :
    Calls Tryd.prog 6 #[.slice a bs.length ca] w fun e w' => e = .returned (.string ⟨(hexL bs).toArray⟩) ∧ Below w.heap.size w w' := by
  obtain ⟨i5, hi, hz0, hz1, hz2⟩ := info_parts Tryd.info5
  have hpos := hT.pos
  have HT : Hid (Tab w) := hT
  clear hT
  go_enter Tryd.func6, Tryd.ntmps6
  go_wp2_with (at_make; refine wpList_make_own _ rfl _ _ 22 rfl w.heap.size 5 i5 (.int .u8 0) 1 Tryd.underlying22 hi hz0 hz1 .i64 .i64 _ (2 * bs.length) rfl rfl ?bc ?b2 ?b3 ?b4 ?_)
  case bc => omega
  case b2 => rw [hz2]; omega
  case b3 => unfold maxLen; omega
  case b4 => exact Nat.le_refl _
  intro w1 hown hgrow
  have hbel : Below w.heap.size w w1 := (Below.refl _ _).grown hgrow (Nat.le_refl _) (by intro k h; cases h)
  clear hgrow
  go_wp2
  go_loopw [3, 12] (fun v i wr => ∃ k : Nat, k ≤ bs.length ∧ i = .int .i64 k ∧ wr.ownsRow w.heap.size 5 1 v (2 * k) ((hexL (bs.take k)).map cellOf) ∧ Below w.heap.size w wr)
    (fun _ i _ => bs.length - (intOf i).toNat)
  case atStart => exact ⟨0, Nat.zero_le _, rfl, by simpa [hexL] using hown, hbel⟩
  case round =>
    obtain ⟨k, hk, rfl, ho, hbl⟩ := hrel
    clear hown hbel
    by_cases hlt : k < bs.length
    · obtain ⟨c, hc⟩ : ∃ c, bs[k]? = some c := ⟨bs[k], by simp [hlt]⟩
      obtain ⟨b1, o1, rfl, hc1⟩ := (ha.below hbl).get hc
      have hsz := hbl.size
      have hTr := HT.out.below hbl hpos
      obtain ⟨p, hp⟩ : ∃ p, p = c.toNat / 16 := ⟨_, rfl⟩
      obtain ⟨q, hq⟩ : ∃ q, q = c.toNat % 16 := ⟨_, rfl⟩
      have hcb := toNat_lt256 c
      have p1 : p < 16 := by omega
      have q1 : q < 16 := by omega
      obtain ⟨x, hx⟩ : ∃ x, x = hexd.getD p 0 := ⟨_, rfl⟩
      obtain ⟨y, hy⟩ : ∃ y, y = hexd.getD q 0 := ⟨_, rfl⟩
      have cp : wr.cell? ⟨0, p, none⟩ = some (.int .u8 x.toNat) := by rw [hx]; exact hTr p p1
      have cq : wr.cell? ⟨0, q, none⟩ = some (.int .u8 y.toNat) := by rw [hy]; exact hTr q q1
      have ep : (c.toNat : Int) / 16 = (p : Int) := by omega
      have eq : bits .and .u8 (c.toNat : Int) 15 = (q : Int) := by rw [hq]; exact and15 c
      have n1 : u3.ownBlock ≠ some 0 := fun h => by have := (ho.lt _ h).1; omega
      have HS : Hid ((hexL (bs.take (k + 1))).map cellOf = (hexL (bs.take k)).map cellOf ++ [.int .u8 x.toNat, .int .u8 y.toNat]) := by
        rw [take_snoc bs k c hc, hexL_snoc, List.map_append, hexOf, ← hp, ← hq, ← hx, ← hy]; exact rfl
      have g1 : (0 : Int) ≤ (p : Int) := Int.natCast_nonneg _
      have g2 : (p : Int) < 16 := by omega
      have g3 : (0 : Int) ≤ (q : Int) := Int.natCast_nonneg _
      have g4 : (q : Int) < 16 := by omega
      clear hc hp hq hx hy hTr
      go_wp2
      go_region_held3 (fun w' => w'.cell? ⟨0, p, none⟩ = some (.int .u8 x.toNat) ∧ w'.cell? ⟨0, q, none⟩ = some (.int .u8 y.toNat))
        (first
          | go_keep
          | (go_split_ands
             refine ⟨?_, ?_⟩
             · (rw [hgrow.cell_far _ (by simp) (Ne.symm n1)]; assumption)
             · (rw [hgrow.cell_far _ (by simp) (Ne.symm n1)]; assumption)))
        ((refine step_append_lies _ (by rfl) _ _ _ (by rfl) w.heap.size 5 i5 (.int .u8 0) 1 1 Tryd.underlying22 hi hz0 hz1 hz2 rfl (by omega) u3 (2 * k) _ (by rfl) ((ho.alloc _).drew)
            ⟨wr.heap.size, 0, none⟩ 2 2 [.int .u8 x.toNat, .int .u8 y.toNat] (by rfl) (by rfl) (World.news_of_block (cs := #[.int .u8 x.toNat, .int .u8 y.toNat]) (t := 5) (fr := (0, 0)) (heap_alloc_new wr _)) (by simp [Value.oneCell'])
            (by omega) (by unfold maxLen; omega) (by omega) (by simp; omega) (wr.heap.size + 1) (by simp) ?_; intro gg cap w3 hown1 hgrow hat hlt'))
      have hbl' : Below w.heap.size w w3 := ((hbl.alloc hsz _).drew).grown hgrow (by simp; omega) (fun q h => (ho.lt _ h).1)
      go_wp2
      go_roundw
      case rel =>
        refine ⟨k + 1, by omega, by go_num, ?_, hbl'⟩
        rw [HS.out, Nat.mul_add]
        exact hown1
      case measure => simp [intOf]; omega
    · obtain rfl : k = bs.length := by omega
      rw [List.take_length] at ho
      obtain ⟨r, hr'⟩ : ∃ r, r = hexL bs := ⟨_, rfl⟩
      rw [← hr'] at ho
      have HR : Hid (r = hexL bs) := hr'
      clear hr'
      obtain ⟨d, cd, hv, hs⟩ := Sees.of_own ho
      have e1 := hs.convert (P := Tryd.prog) 22 5 9 Tryd.underlying22 Tryd.underlying5 Tryd.underlying9
      rw [hv]
      go_wp2
      go_ret
      exact ⟨by rw [← HR.out]; rfl, hbl⟩
end Go.Proofs.YtmldfljgngkneaaDoor
