/-
  The contracts of word.Load, word.Long and of the document's.
-/
import Derived.Test.YtgnllmcgebonpaaRows
import Derived.Test.YtgnllmcgebonpaaMath
import Derived.Test.YtgnllmcgebonpaaBase
import Derived.Deep.QuietTactic
import Derived.BigQuiet
namespace Go.Proofs.Ytgnllmcgebonpaa
open Go.ChangeShapes Go.WideShapes Go.ChangeAt Go.RowKit

theorem or8 (x c : Nat) (hc : c < 256) : x * 256 ||| c = x * 256 + c := by
  have := Nat.shiftLeft_add_eq_or_of_lt (i := 8) (b := c) (by omega) x
  rw [Nat.shiftLeft_eq, show (2 : Nat) ^ 8 = 256 from rfl] at this
  exact this.symm

theorem or_u32 (x : Nat) (c : UInt8) (hx : x < 16777216) : bits .or .u32 ((x : Int) * 256) (c.toNat : Int) = ((x * 256 + c.toNat : Nat) : Int) := by
  have hc := c.toNat_lt
  rw [show (x : Int) * 256 = ((x * 256 : Nat) : Int) from by omega, u32_or_nat _ _ (by omega) (by omega), or8 x _ (by omega)]

theorem or_u64 (x : Nat) (c : UInt8) (hx : x < 72057594037927936) : bits .or .u64 ((x : Int) * 256) (c.toNat : Int) = ((x * 256 + c.toNat : Nat) : Int) := by
  have hc := c.toNat_lt
  rw [show (x : Int) * 256 = ((x * 256 : Nat) : Int) from by omega, u64_or_nat _ _ (by omega) (by omega), or8 x _ (by omega)]

set_option maxHeartbeats 400000 in
set_option maxRecDepth 20000 in
theorem load32_yes (w : World) (a : Option Addr) (cap : Nat) (bs : List UInt8) (p : Nat) (h : Sees w a cap bs) (hp : p + 4 ≤ bs.length) :
    Calls Try.prog 64 #[.slice a bs.length cap, .int .i64 p, .int .i64 4] w fun e w' => e = .returned (.tuple #[.int .u32 (be ((bs.drop p).take 4) : Nat), .int .i64 0]) ∧ w' = w := by
  have hfit := h.fits
  have hroom := h.room
  unfold maxLen at hroom
  obtain ⟨b, off, rfl, hcell⟩ := h.at' (by rintro rfl; simp at hp)
  have Hc : Hid (∀ i x, bs[i]? = some x → w.cell? ⟨b, off + i, none⟩ = some (.int .u8 x.toNat)) := hcell
  have d1 : decide ((p : Int) < 0) = false := by simp
  have d2 : decide ((bs.length : Int) - 4 < (p : Int)) = false := by simp; omega
  clear h hcell
  go_enter Try.func64, Try.ntmps64
  go_wp2
  go_loop [8, 28] (fun x i => ∃ k : Nat, k ≤ 4 ∧ i = .int .i64 k ∧ x = .int .u32 (be ((bs.drop p).take k) : Nat)) (fun _ i => 4 - (intOf i).toNat)
  case atStart => exact ⟨0, by omega, rfl, rfl⟩
  case round =>
    obtain ⟨k, hk, rfl, rfl⟩ := hrel
    by_cases hlt : k < 4
    · obtain ⟨c, hc⟩ : ∃ c, bs[p + k]? = some c := ⟨bs[p + k]'(by omega), by simp [show p + k < bs.length by omega]⟩
      have hcl : w.cell? ⟨b, off + p + k, none⟩ = some (.int .u8 c.toNat) := by rw [Nat.add_assoc]; exact Hc.out _ c hc
      have hdk : (bs.drop p)[k]? = some c := by rw [List.getElem?_drop]; exact hc
      obtain ⟨x, hx⟩ : ∃ x, x = be ((bs.drop p).take k) := ⟨_, rfl⟩
      have hxl : x < 16777216 := by
        have h1 := be_lt ((bs.drop p).take k)
        have h2 : ((bs.drop p).take k).length ≤ k := List.length_take_le _ _
        have h3 : 256 ^ ((bs.drop p).take k).length ≤ 256 ^ 3 := Nat.pow_le_pow_right (by omega) (by omega)
        rw [hx]; have h4 : (256 : Nat) ^ 3 = 16777216 := by decide
        omega
      have e1 := or_u32 x c hxl
      have HS : Hid (be ((bs.drop p).take (k + 1)) = x * 256 + c.toNat) := by
        rw [take_snoc _ k c hdk, be_snoc, hx]; exact rfl
      have hcb := c.toNat_lt
      rw [← hx]
      clear hc hdk hx
      go_wp2
      go_round
      case rel => exact ⟨k + 1, by omega, by go_num, by rw [HS.out]; go_num⟩
      case measure => simp [intOf]; omega
    · obtain rfl : k = 4 := by omega
      go_wp2
      go_ret2
      exact ⟨rfl, rfl⟩

set_option maxHeartbeats 400000 in
set_option maxRecDepth 20000 in
theorem Load32_yes (w : World) (a : Option Addr) (cap : Nat) (bs : List UInt8) (p : Nat) (h : Sees w a cap bs) (hp : p + 4 ≤ bs.length) :
    Calls Try.prog 54 #[.slice a bs.length cap, .int .i64 p] w fun e w' => e = .returned (.tuple #[.int .u32 (be ((bs.drop p).take 4) : Nat), .int .i64 0]) ∧ w' = w := by
  go_enter Try.func54, Try.ntmps54
  go_wp2_with fail
  refine (load32_yes w a cap bs p h hp).mono ?_
  rintro e w' ⟨rfl, rfl⟩
  go_wp2
  go_ret2
  exact ⟨rfl, rfl⟩

end Go.Proofs.Ytgnllmcgebonpaa
