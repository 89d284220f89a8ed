/-
  The contracts of up, fits, asBytes and bytes.Equal.
-/
import Derived.Test.YtgnllmcgebonpaaCrcLaws
namespace Go.Proofs.Ytgnllmcgebonpaa
open Go.ChangeShapes Go.WideShapes Go.ChangeAt Go.RowKit

theorem top_div (W x : Nat) (hW : 1 ≤ W) (hx : x < 2 ^ W) : x / 2 ^ (W - 1) = (x.testBit (W - 1)).toNat := by
  rw [← bit_mod]
  have h : 2 ^ W = 2 ^ (W - 1) * 2 := by rw [← Nat.pow_succ]; congr 1; omega
  have : x / 2 ^ (W - 1) < 2 := by rw [Nat.div_lt_iff_lt_mul (Nat.two_pow_pos _)]; omega
  exact (Nat.mod_eq_of_lt this).symm
theorem and_mask32 (n W : Nat) (hW : W ≤ 32) (h : n < 4294967296) : bits .and .u32 (n : Int) (((2 ^ W - 1 : Nat)) : Int) = ((n % 2 ^ W : Nat) : Int) := by
  have h2 : 2 ^ W ≤ 2 ^ 32 := Nat.pow_le_pow_right (by omega) hW
  have := u32_and_nat n (2 ^ W - 1) h (by omega)
  rw [Nat.and_two_pow_sub_one_eq_mod] at this
  exact this

set_option maxHeartbeats 800000 in
set_option maxRecDepth 20000 in
theorem up32_ok (w : World) (W x : Nat) (hW1 : 1 ≤ W) (hW32 : W ≤ 32) (hx : x < 2 ^ W) :
    Calls Try.prog 70 #[.int .u32 (x : Int), .int .i64 (W : Int)] w fun e w' => e = .returned (.tuple #[.int .u32 (((x.testBit (W - 1)).toNat : Nat) : Int), .int .u32 ((x * 2 % 2 ^ W : Nat) : Int)]) ∧ w' = w := by
  have h32 : 2 ^ W ≤ 4294967296 := by have := Nat.pow_le_pow_right (n := 2) (i := W) (j := 32) (by omega) hW32; omega
  have g0 : (0 : Int) ≤ (W : Int) := Int.natCast_nonneg _
  have ew2 : (W : Int) - 1 = ((W - 1 : Nat) : Int) := by omega
  have ew : IntKind.i64.wrap ((W : Int) - 1) = ((W - 1 : Nat) : Int) := by rw [IntKind.wrap_i64]; omega
  obtain ⟨V, hV⟩ : ∃ V, V = W - 1 := ⟨_, rfl⟩
  obtain ⟨t, ht⟩ : ∃ t, t = (x.testBit (W - 1)).toNat := ⟨_, rfl⟩
  have et : (x : Int) / 2 ^ V = (t : Int) := by
    have := top_div W x hW1 hx
    rw [← ht, ← hV] at this
    rw [← this]; simp
  obtain ⟨u, hu⟩ : ∃ u, u = x * 2 % 2 ^ W := ⟨_, rfl⟩
  obtain ⟨M, hM⟩ : ∃ M, M = 2 ^ W := ⟨_, rfl⟩
  have hMp : 0 < M := by rw [hM]; exact Nat.two_pow_pos W
  have e2w : (2 : Int) ^ W = (M : Int) := by rw [hM]; simp
  have wm : IntKind.u32.wrap (IntKind.u32.wrap (M : Int) - 1) = (M : Int) - 1 := by rw [IntKind.wrap_u32, IntKind.wrap_u32]; omega
  rw [← ht, ← hu]
  rw [← hV] at ew ew2
  have eu : bits .and .u32 ((x : Int) * 2 % 4294967296) (((M : Int) - 1) % 4294967296) = (u : Int) := by
    have h1 := and_mask32 (x * 2 % 4294967296) W hW32 (by omega)
    have h2 : ((2 ^ W - 1 : Nat) : Int) = (M : Int) - 1 := by rw [← hM]; omega
    have h3 : (x : Int) * 2 % 4294967296 = ((x * 2 % 4294967296 : Nat) : Int) := by omega
    have h5 : ((M : Int) - 1) % 4294967296 = (M : Int) - 1 := by omega
    have h4 : x * 2 % 4294967296 % 2 ^ W = x * 2 % 2 ^ W := Nat.mod_mod_of_dvd _ (Nat.pow_dvd_pow 2 hW32)
    rw [h2, h4, ← hu] at h1
    rw [h3, h5]; exact h1
  have HX : Hid (x < 2 ^ W) := hx
  have H32 : Hid (2 ^ W ≤ 4294967296) := h32
  clear ht hV hu hM hx h32
  go_enter Try.func70, Try.ntmps70
  go_wp2
  go_ret2
  exact ⟨rfl, rfl⟩

set_option maxHeartbeats 800000 in
set_option maxRecDepth 20000 in
theorem up8_ok (w : World) (x : Nat) (hx : x < 256) :
    Calls Try.prog 72 #[.int .u8 (x : Int), .int .i64 8] w fun e w' => e = .returned (.tuple #[.int .u32 (((x.testBit 7).toNat : Nat) : Int), .int .u8 ((x * 2 % 256 : Nat) : Int)]) ∧ w' = w := by
  obtain ⟨t, ht⟩ : ∃ t, t = (x.testBit 7).toNat := ⟨_, rfl⟩
  have et : (x : Int) / 128 = (t : Int) := by
    have := top_div 8 x (by omega) hx
    rw [← ht] at this
    rw [← this]; simp
  obtain ⟨u, hu⟩ : ∃ u, u = x * 2 % 256 := ⟨_, rfl⟩
  have eu : bits .and .u8 ((x : Int) * 2 % 256) 255 = (u : Int) := by
    have hul : u < 256 := by omega
    have h1 := u8_and_nat u 255 (by omega) (by omega)
    have h2 : u &&& 255 = u := (Nat.and_two_pow_sub_one_eq_mod u 8).trans (Nat.mod_eq_of_lt hul)
    rw [h2] at h1
    have h3 : (x : Int) * 2 % 256 = (u : Int) := by omega
    rw [h3]; exact h1
  have t2 : t < 2 := by rw [ht]; cases x.testBit 7 <;> decide
  rw [← ht, ← hu]
  clear ht hu
  go_enter Try.func72, Try.ntmps72
  go_wp2
  go_ret2
  exact ⟨by first | rfl | (rw [eu]; rfl), rfl⟩

set_option maxHeartbeats 400000 in
set_option maxRecDepth 20000 in
theorem asbytes_ok (w : World) (s : Nat) (hs : s < 16777216) :
    Calls Try.prog 62 #[.int .u32 (s : Int)] w fun e w' => ∃ d cd, e = .returned (.slice d 3 cd) ∧ Sees w' d cd (sum3 s) ∧ Below w.heap.size w w' := by
  have hsx := sees_lit w (sum3 s) 5 (0, 0) (by simp [sum3])
  rw [sum3_cells s hs] at hsx
  have HS : Hid (Sees (w.alloc (.cells #[.int .u8 ((s : Int) / 65536), .int .u8 ((s : Int) / 256 % 256), .int .u8 ((s : Int) % 256)] 5)) (some ⟨w.heap.size, 0, none⟩) 3 (sum3 s)) := hsx
  clear hsx
  go_enter Try.func62, Try.ntmps62
  go_wp2
  go_ret
  exact ⟨_, _, rfl, HS.out, (Below.refl _ _).alloc (Nat.le_refl _) _⟩

set_option maxHeartbeats 400000 in
set_option maxRecDepth 20000 in
theorem equal_ok (w : World) (a b : Option Addr) (ca cb : Nat) (l m : List UInt8) (ha : Sees w a ca l) (hb : Sees w b cb m) :
    Calls Try.prog 67 #[.slice a l.length ca, .slice b m.length cb] w fun e w' => e = .returned (.bool (l == m)) ∧ w' = w := by
  have e1 := ha.convert (P := Try.prog) 22 5 9 Try.underlying22 Try.underlying5 Try.underlying9
  have e2 := hb.convert (P := Try.prog) 22 5 9 Try.underlying22 Try.underlying5 Try.underlying9
  clear ha hb
  go_enter Try.func67, Try.ntmps67
  go_wp2
  go_ret
  exact ⟨by first | rfl | simp, rfl⟩
end Go.Proofs.Ytgnllmcgebonpaa
