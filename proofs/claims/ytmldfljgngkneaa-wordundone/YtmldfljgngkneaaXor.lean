/-
  The contracts of word.Xor, of the document's Xor, of word.Same and of what it gathers.
-/
import Derived.Test.YtmldfljgngkneaaRows
import Derived.Test.YtmldfljgngkneaaBase
import Derived.Deep.QuietTactic
import Derived.BigQuiet
import Derived.Deep.RegionHeld3
import Derived.Deep.AppendLies
namespace Go.Proofs.Ytmldfljgngkneaa
open Go.ChangeShapes Go.WideShapes Go.ChangeAt Go.RowKit

theorem Try.info5 : (Try.prog.info? 5).map (fun i => (i.zero, i.size, i.bytes)) = some (some (.int .u8 0), 1, 1) := by kernel_rfl

set_option maxHeartbeats 400000 in
theorem gather_any (w : World) (a b : Option Addr) (ca cb : Nat) (xs ys : List UInt8) (ha : Sees w a ca xs) (hb : Sees w b cb ys) (hl : xs.length = ys.length) :
    Calls Try.prog 25 #[.slice a xs.length ca, .slice b ys.length cb] w fun e w' => e = .returned (.int .u8 (gath xs ys).toNat) ∧ w' = w := by
  have hm : xs.length ≤ 9223372036854775807 := by have := ha.fits; have := ha.room; unfold maxLen at this; omega
  have Hl : Hid (xs.length = ys.length) := hl
  have hle : xs.length ≤ ys.length := by omega
  clear hl
  go_enter Try.func25, Try.ntmps25
  go_wp2
  go_loop [5, 10] (fun d i => ∃ k : Nat, k ≤ xs.length ∧ i = .int .i64 k ∧ d = .int .u8 (gath (xs.take k) (ys.take k)).toNat) (fun _ i => xs.length - (intOf i).toNat)
  case atStart => exact ⟨0, Nat.zero_le _, rfl, rfl⟩
  case round =>
    obtain ⟨k, hk, rfl, rfl⟩ := hrel
    by_cases hlt : k < xs.length
    · obtain ⟨x, hx⟩ : ∃ x, xs[k]? = some x := ⟨xs[k], by simp [hlt]⟩
      obtain ⟨y, hy⟩ : ∃ y, ys[k]? = some y := ⟨ys[k]'(by omega), by simp [show k < ys.length by omega]⟩
      obtain ⟨b1, o1, rfl, hc1⟩ := ha.get hx
      obtain ⟨b2, o2, rfl, hc2⟩ := hb.get hy
      have hlt2 : k < ys.length := by omega
      obtain ⟨z, hz⟩ : ∃ z, z = x ^^^ y := ⟨_, rfl⟩
      obtain ⟨g, hg⟩ : ∃ g, g = gath (xs.take (k + 1)) (ys.take (k + 1)) := ⟨_, rfl⟩
      have e1 : bits .xor .u8 (x.toNat : Int) (y.toNat : Int) = (z.toNat : Int) := by rw [hz]; exact bxor x y
      have e2 : bits .or .u8 ((gath (xs.take k) (ys.take k)).toNat : Int) (z.toNat : Int) = (g.toNat : Int) := by
        have hll := Hl.out
        rw [hg, take_snoc xs k x hx, take_snoc ys k y hy, gath_snoc _ _ x y (by simp [hll]), hz]
        exact bor _ _
      have HG : Hid (g = gath (xs.take (k + 1)) (ys.take (k + 1))) := hg
      clear hx hy hz hg
      go_wp2
      go_round
      case rel => exact ⟨k + 1, by omega, by go_num, by rw [HG.out]⟩
      case measure => simp [intOf]; omega
    · obtain rfl : k = xs.length := by omega
      have h1 : xs.take xs.length = xs := List.take_length
      have h2 : ys.take xs.length = ys := by rw [Hl.out]; exact List.take_length
      rw [h1, h2]
      go_wp2
      go_ret
      exact ⟨rfl, rfl⟩

theorem gath_bool (xs ys : List UInt8) (h : xs.length = ys.length) : (((gath xs ys).toNat : Int) == 0) = decide (xs = ys) := by
  have := gath_zero xs ys h
  rw [Bool.eq_iff_iff]
  simp only [beq_iff_eq, decide_eq_true_eq]
  rw [← this]
  constructor
  · intro hh; exact UInt8.toNat_inj.1 (by simp; omega)
  · intro hh; rw [hh]; rfl

set_option maxHeartbeats 400000 in
theorem same_any (w : World) (a b : Option Addr) (ca cb : Nat) (xs ys : List UInt8) (ha : Sees w a ca xs) (hb : Sees w b cb ys) :
    Calls Try.prog 21 #[.slice a xs.length ca, .slice b ys.length cb] w fun e w' => e = .returned (.bool (decide (xs = ys))) ∧ w' = w := by
  by_cases hl : xs.length = ys.length
  · have hg := gath_bool xs ys hl
    have H : Hid (xs.length = ys.length) := hl
    have h1 : ((xs.length : Int) == (ys.length : Int)) = true := by simp; omega
    clear hl
    go_enter Try.func21, Try.ntmps21
    go_wp2_with (go_at_call 25; refine (gather_any w a b ca cb xs ys ha hb H.out).mono ?_; rintro e w' ⟨rfl, rfl⟩)
    go_ret
    exact ⟨rfl, rfl⟩
  · have hne : decide (xs = ys) = false := by simp; rintro rfl; exact hl rfl
    have h1 : ((xs.length : Int) == (ys.length : Int)) = false := by simp; omega
    go_enter Try.func21, Try.ntmps21
    go_wp2
    go_ret
    exact ⟨by rw [hne]; rfl, rfl⟩

set_option maxHeartbeats 400000 in
theorem xor_no (w : World) (a b : Option Addr) (ca cb : Nat) (xs ys : List UInt8) (hl : xs.length ≠ ys.length) :
    Calls Try.prog 19 #[.slice a xs.length ca, .slice b ys.length cb] w fun e w' => e = .returned (.tuple #[.slice none 0 0, .int .i64 1]) ∧ w' = w := by
  have h1 : ((xs.length : Int) == (ys.length : Int)) = false := by simp; omega
  go_enter Try.func19, Try.ntmps19
  go_wp2
  go_ret2
  exact ⟨rfl, rfl⟩

set_option maxHeartbeats 400000 in
theorem xor_yes (w : World) (a b : Option Addr) (ca cb : Nat) (xs ys : List UInt8) (ha : Sees w a ca xs) (hb : Sees w b cb ys) (hl : xs.length = ys.length) (hr : xs.length ≤ 140737488355328) :
    Calls Try.prog 19 #[.slice a xs.length ca, .slice b ys.length cb] w fun e w' => ∃ c cc, e = .returned (.tuple #[.slice c xs.length cc, .int .i64 0]) ∧ Sees w' c cc (xorL xs ys) ∧ Below w.heap.size w w' := by
  obtain ⟨i5, hi, hz0, hz1, hz2⟩ := info_parts Try.info5
  have h1 : ((xs.length : Int) == (ys.length : Int)) = true := by simp; omega
  have hle : xs.length ≤ ys.length := by omega
  have Hl : Hid (xs.length = ys.length) := hl
  have Hx : Hid ((xorL xs ys).length = xs.length) := xorL_length xs ys hl
  clear hl
  go_enter Try.func19, Try.ntmps19
  go_wp2_with (at_make; refine wpList_make_full _ rfl _ _ 26 rfl w.heap.size 5 i5 (.int .u8 0) 1 Try.underlying26 hi hz0 hz1 .i64 .i64 _ _ xs.length rfl rfl rfl rfl ?b2 ?b3 ?b4 ?_)
  case b2 => rw [hz2]; omega
  case b3 => unfold maxLen; omega
  case b4 => exact Nat.le_refl _
  intro w1 hown hgrow
  rw [made_bytes] at hown
  have hbel : Below w.heap.size w w1 := (Below.refl _ _).grown hgrow (Nat.le_refl _) (by intro k h; cases h)
  clear hgrow
  go_wp2
  go_loopw [19] (fun i wr => ∃ k : Nat, k ≤ xs.length ∧ i = .int .i64 k ∧ wr.ownsRow w.heap.size 5 1 (.slice (some ⟨w.heap.size, 0, none⟩) xs.length xs.length) xs.length (((xorL xs ys).take k ++ List.replicate (xs.length - k) 0).map cellOf) ∧ Below w.heap.size w wr)
    (fun i _ => xs.length - (intOf i).toNat)
  case atStart => exact ⟨0, Nat.zero_le _, rfl, by simpa using hown, hbel⟩
  case round =>
    obtain ⟨k, hk, rfl, ho, hbl⟩ := hrel
    clear hown hbel
    by_cases hlt : k < xs.length
    · obtain ⟨x, hx⟩ : ∃ x, xs[k]? = some x := ⟨xs[k], by simp [hlt]⟩
      obtain ⟨y, hy⟩ : ∃ y, ys[k]? = some y := ⟨ys[k]'(by omega), by simp [show k < ys.length by omega]⟩
      obtain ⟨b1, o1, rfl, hc1⟩ := (ha.below hbl).get hx
      obtain ⟨b2, o2, rfl, hc2⟩ := (hb.below hbl).get hy
      have hlt2 : k < ys.length := by omega
      obtain ⟨z, hz⟩ : ∃ z, z = x ^^^ y := ⟨_, rfl⟩
      have e1 : bits .xor .u8 (x.toNat : Int) (y.toNat : Int) = (z.toNat : Int) := by rw [hz]; exact bxor x y
      have hzk : (xorL xs ys)[k]? = some z := by rw [hz]; simp [xorL, List.getElem?_zipWith, hx, hy]
      have hc3 : wr.cell? ⟨w.heap.size, k, none⟩ = some (.int .u8 0) := by rw [ho.cellAt k (by omega)]; exact at_step _ _ k hlt Hx.out
      have hf3 : wr.frozen? ⟨w.heap.size, k, none⟩ = false := ho.frozenAt k
      obtain ⟨ho', hg'⟩ := ho.stored k (.int .u8 (z.toNat : Int))
      rw [set_step _ _ k z hlt Hx.out hzk] at ho'
      have hbl' := hbl.setCell (p := ⟨w.heap.size, k, none⟩) (Nat.le_refl _) (.int .u8 (z.toNat : Int))
      clear hx hy hz hzk ho hg'
      go_wp2
      go_roundw
      case rel => exact ⟨k + 1, by omega, by go_num, ho', hbl'⟩
      case measure => simp [intOf]; omega
    · obtain rfl : k = xs.length := by omega
      have e : (xorL xs ys).take xs.length = xorL xs ys := by rw [← Hx.out]; exact List.take_length
      rw [e] at ho
      simp only [Nat.sub_self, List.replicate_zero, List.append_nil] at ho
      obtain ⟨c, cc, hv, hs⟩ := Sees.of_own ho
      simp only [Value.slice.injEq] at hv
      rw [← hv.1, ← hv.2.2] at hs
      clear hv
      go_wp2
      go_ret2
      exact ⟨_, _, rfl, hs, hbl⟩

set_option maxHeartbeats 400000 in
theorem refxor_no (w : World) (a b : Option Addr) (ca cb : Nat) (xs ys : List UInt8) (hl : xs.length ≠ ys.length) :
    Calls Try.prog 20 #[.slice a xs.length ca, .slice b ys.length cb] w fun e w' => e = .returned (.tuple #[.slice none 0 0, .int .i64 1]) ∧ w' = w := by
  have h1 : ((xs.length : Int) == (ys.length : Int)) = false := by simp; omega
  go_enter Try.func20, Try.ntmps20
  go_wp2
  go_ret2
  exact ⟨rfl, rfl⟩

set_option maxHeartbeats 400000 in
theorem refxor_yes (w : World) (a b : Option Addr) (ca cb : Nat) (xs ys : List UInt8) (ha : Sees w a ca xs) (hb : Sees w b cb ys) (hl : xs.length = ys.length) (hr : xs.length ≤ 140737488355328) :
    Calls Try.prog 20 #[.slice a xs.length ca, .slice b ys.length cb] w fun e w' => ∃ c cc, e = .returned (.tuple #[.slice c xs.length cc, .int .i64 0]) ∧ Sees w' c cc (xorL xs ys) ∧ Below w.heap.size w w' := by
  obtain ⟨i5, hi, hz0, hz1, hz2⟩ := info_parts Try.info5
  have h1 : ((xs.length : Int) != (ys.length : Int)) = false := by simp; omega
  have hle : xs.length ≤ ys.length := by omega
  have Hl : Hid (xs.length = ys.length) := hl
  have Hx : Hid ((xorL xs ys).length = xs.length) := xorL_length xs ys hl
  clear hl
  go_enter Try.func20, Try.ntmps20
  go_wp2
  go_loopw [6, 7] (fun v i wr => ∃ k : Nat, k ≤ xs.length ∧ i = .int .i64 k ∧ wr.ownsRow w.heap.size 5 1 v k (((xorL xs ys).take k).map cellOf) ∧ Below w.heap.size w wr)
    (fun _ i _ => xs.length - (intOf i).toNat)
  case atStart => exact ⟨0, Nat.zero_le _, rfl, World.ownsRow_nil _ _ _ _, Below.refl _ _⟩
  case round =>
    obtain ⟨k, hk, rfl, ho, hbl⟩ := hrel
    by_cases hlt : k < xs.length
    · obtain ⟨x, hx⟩ : ∃ x, xs[k]? = some x := ⟨xs[k], by simp [hlt]⟩
      obtain ⟨y, hy⟩ : ∃ y, ys[k]? = some y := ⟨ys[k]'(by omega), by simp [show k < ys.length by omega]⟩
      obtain ⟨b1, o1, rfl, hc1⟩ := (ha.below hbl).get hx
      obtain ⟨b2, o2, rfl, hc2⟩ := (hb.below hbl).get hy
      have hlt2 : k < ys.length := by omega
      obtain ⟨z, hz⟩ : ∃ z, z = x ^^^ y := ⟨_, rfl⟩
      have e1 : bits .xor .u8 (x.toNat : Int) (y.toNat : Int) = (z.toNat : Int) := by rw [hz]; exact bxor x y
      have hzk : (xorL xs ys)[k]? = some z := by rw [hz]; simp [xorL, List.getElem?_zipWith, hx, hy]
      have l1 : b1 < w.heap.size := by obtain ⟨b, o, h, hc⟩ := ha.get hx; cases h; exact World.block_lt_of_cell? w _ hc
      have l2 : b2 < w.heap.size := by obtain ⟨b, o, h, hc⟩ := hb.get hy; cases h; exact World.block_lt_of_cell? w _ hc
      have n1 : u6.ownBlock ≠ some b1 := fun h => by have := (ho.lt _ h).1; omega
      have n2 : u6.ownBlock ≠ some b2 := fun h => by have := (ho.lt _ h).1; omega
      have hsz := hbl.size
      have g0 : (0 : Int) ≤ (k : Int) := Int.natCast_nonneg _
      have g1 : (k : Int) < (xs.length : Int) := by omega
      have g2 : (k : Int) < (ys.length : Int) := by omega
      clear hx hy hz
      go_wp2
      go_region_held3 (fun w' => w'.cell? ⟨b1, o1 + k, none⟩ = some (.int .u8 x.toNat) ∧ w'.cell? ⟨b2, o2 + k, none⟩ = some (.int .u8 y.toNat))
        (first
          | go_keep
          | (go_split_ands
             refine ⟨?_, ?_⟩
             · (rw [hgrow.cell_far _ (by simp; omega) (Ne.symm n1)]; assumption)
             · (rw [hgrow.cell_far _ (by simp; omega) (Ne.symm n2)]; assumption)))
        ((refine step_append_lies _ (by rfl) _ _ _ (by rfl) w.heap.size 5 i5 (.int .u8 0) 1 1 Try.underlying26 hi hz0 hz1 hz2 rfl (by omega) u6 k _ (by rfl) ((ho.alloc _).drew)
            ⟨wr.heap.size, 0, none⟩ 1 1 [.int .u8 z.toNat] (by rfl) (by rfl) (World.news_of_block (cs := #[.int .u8 z.toNat]) (t := 5) (fr := (0, 0)) (heap_alloc_new wr _)) (by simp [Value.oneCell'])
            (by omega) (by unfold maxLen; omega) (by omega) (by simp; omega) (wr.heap.size + 1) (by simp) ?_; intro gg cap w1 hown1 hgrow hat hlt'))
      have hbl' : Below w.heap.size w w1 := ((hbl.alloc hsz _).drew).grown hgrow (by simp; omega) (fun q h => (ho.lt _ h).1)
      go_wp2
      go_roundw
      case rel =>
        refine ⟨k + 1, by omega, by go_num, ?_, hbl'⟩
        rw [take_snoc _ k z hzk, List.map_append]
        exact hown1
      case measure => simp [intOf]; omega
    · obtain rfl : k = xs.length := by omega
      have e : (xorL xs ys).take xs.length = xorL xs ys := by rw [← Hx.out]; exact List.take_length
      rw [e] at ho
      obtain ⟨c, cc, hv, hs⟩ := Sees.of_own ho
      rw [Hx.out] at hv
      rw [hv]
      go_wp2
      go_ret2
      exact ⟨_, _, rfl, hs, hbl⟩
end Go.Proofs.Ytmldfljgngkneaa
