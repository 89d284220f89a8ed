/-
  The contracts of each: the bits of bytes, the bits of one number.
-/
import Derived.Test.YtgnllmcgebonpaaCrcUp
import Derived.Test.YtgnllmcgebonpaaRangeLaw
import Derived.Shelf.Abstract
import Derived.Shelf.RegionOpen
import Derived.OwnWalkIn
import Derived.TacticsInMore
import Derived.LoopNIn
import Derived.LoopIn
namespace Go.Proofs.Ytgnllmcgebonpaa
open Go.ChangeShapes Go.WideShapes Go.ChangeAt Go.RowKit Go.Shelf
attribute [local go_sem] Oper.semAt_some

/-- What is left of a byte when j of its bits have gone out at the top. -/
def leftN (W x j : Nat) : Nat := x * 2 ^ j % 2 ^ W
theorem leftN_zero (W x : Nat) (h : x < 2 ^ W) : leftN W x 0 = x := by unfold leftN; rw [Nat.pow_zero, Nat.mul_one, Nat.mod_eq_of_lt h]
theorem leftN_next (W x j : Nat) : leftN W x j * 2 % 2 ^ W = leftN W x (j + 1) := by
  unfold leftN; rw [Nat.mod_mul_mod, Nat.mul_assoc, ← Nat.pow_succ]
theorem leftN_lt (W x j : Nat) : leftN W x j < 2 ^ W := Nat.mod_lt _ (Nat.two_pow_pos W)
theorem leftN_top (W x j : Nat) (hj : j < W) : (leftN W x j).testBit (W - 1) = x.testBit (W - 1 - j) := by
  unfold leftN
  have h1 : W - 1 < W := by omega
  have h2 : j ≤ W - 1 := by omega
  rw [Nat.testBit_mod_two_pow, Nat.mul_comm, Nat.testBit_two_pow_mul]
  simp [h1, h2]

theorem bits_at8 (L : List UInt8) (i j : Nat) (x : UInt8) (hx : L[i]? = some x) (hj : j < 8) : (bitsOf L)[8 * i + j]? = some (x.toNat.testBit (7 - j)) := by
  have h1 : (8 * i + j) / 8 = i := by omega
  have h2 : (8 * i + j) % 8 = j := by omega
  have := bits_at L (8 * i + j) x (by rw [h1]; exact hx)
  rw [h2] at this; exact this

set_option maxRecDepth 100000 in
set_option maxHeartbeats 4000000 in
set_option maxRecDepth 20000 in
theorem each8_in (m l bS bW : Nat) (c : Option Addr) (cc : Nat) (L : List UInt8) (hLm : L.length ≤ 140737488355328)
    (I : Nat → World → Prop)
    (bI : ∀ k W, I k W → W.cell? ⟨bS, 0, none⟩ = some (.slice c L.length cc) ∧ W.cell? ⟨bW, 0, none⟩ = some (.int .i64 8) ∧ Sees W c cc L)
    (Bk Bx : World → Prop)
    (hY : ∀ (k : Nat) (x : Bool) W, Bk W → (I k W ∧ (bitsOf L)[k]? = some x) → YieldAt Fence.wide (m - 1) Try.prog l #[.int .u32 (x.toNat : Int)] W fun e W' => (e = .returned (.bool true) ∧ Bk W' ∧ I (k + 1) W') ∨ (e = .returned (.bool false) ∧ Bx W'))
    (W : World) (hW : Bk W) (hI : I 0 W) :
    CallsIn Fence.wide m Try.prog 71 #[.func (.yield l) #[] #[], .pointer (some ⟨bS, 0, none⟩), .pointer (some ⟨bW, 0, none⟩)] W fun e W' => (∃ v, e = .returned v) ∧ ((∃ s, s = 8 * L.length ∧ Bk W' ∧ I s W') ∨ Bx W') := by
  have HY : Hid (∀ (k : Nat) (x : Bool) W, Bk W → (I k W ∧ (bitsOf L)[k]? = some x) → YieldAt Fence.wide (m - 1) Try.prog l #[.int .u32 (x.toNat : Int)] W fun e W' => (e = .returned (.bool true) ∧ Bk W' ∧ I (k + 1) W') ∨ (e = .returned (.bool false) ∧ Bx W')) := hY
  have HI : Hid (∀ k W, I k W → W.cell? ⟨bS, 0, none⟩ = some (.slice c L.length cc) ∧ W.cell? ⟨bW, 0, none⟩ = some (.int .i64 8) ∧ Sees W c cc L) := bI
  obtain ⟨hcS, _, _⟩ := bI 0 W hI
  have hLm2 : L.length ≤ 9223372036854775807 := by omega
  clear hY bI
  refine callsIn_of_wp Try.func71 rfl trivial ?_ rfl
  simp only [Try.ntmps71, List.size_toArray, List.length_cons, List.length_nil, Nat.reduceAdd, Nat.reduceSub, Array.replicate_succ, Array.replicate_zero, List.push_toArray, List.append_toArray, List.nil_append, List.cons_append]
  gi_wp2
  gi_loopw [10] (fun i wr => ∃ k : Nat, k ≤ L.length ∧ i = .int .i64 k ∧ Bk wr ∧ I (8 * k) wr) (fun i _ => L.length - (intOf i).toNat)
  case atStart => exact ⟨0, Nat.zero_le _, rfl, hW, hI⟩
  case round =>
    obtain ⟨k, hk, rfl, hBk, hIk⟩ := hrel
    obtain ⟨_, hcW, hLo⟩ := HI.out _ wr hIk
    clear hW hI hcS
    by_cases hlt : k < L.length
    · obtain ⟨x, hx⟩ : ∃ x, L[k]? = some x := ⟨L[k], by simp [hlt]⟩
      obtain ⟨b, off, rfl, hc⟩ := hLo.get hx
      have HX : Hid (L[k]? = some x) := hx
      clear hx hLo
      gi_wp2
      gi_loopw [5, 15] (fun xv jv wr => ∃ j : Nat, j ≤ 8 ∧ jv = .int .i64 j ∧ xv = .int .u8 ((leftN 8 x.toNat j : Nat) : Int) ∧ Bk wr ∧ I (8 * k + j) wr) (fun _ jv _ => 8 - (intOf jv).toNat)
      case atStart => exact ⟨0, Nat.zero_le _, rfl, by rw [leftN_zero 8 _ x.toNat_lt], hBk, hIk⟩
      case round =>
        obtain ⟨j, hj, rfl, rfl, hBj, hIj⟩ := hrel
        obtain ⟨_, hcW2, _⟩ := HI.out _ wr hIj
        clear hBk hIk hcW hc
        by_cases hlt8 : j < 8
        · have hbit := bits_at8 L k j x HX.out hlt8
          have hup := up8_ok wr (leftN 8 x.toNat j) (leftN_lt 8 _ _)
          have e1 := leftN_top 8 x.toNat j hlt8
          have e2 := leftN_next 8 x.toNat j
          rw [show (8 : Nat) - 1 = 7 from rfl] at e1
          rw [show (2 : Nat) ^ 8 = 256 from rfl] at e2
          rw [e1, e2] at hup
          obtain ⟨y, hy⟩ : ∃ y, y = x.toNat.testBit (7 - j) := ⟨_, rfl⟩
          obtain ⟨u, hu⟩ : ∃ u, u = leftN 8 x.toNat j := ⟨_, rfl⟩
          obtain ⟨v, hv⟩ : ∃ v, v = leftN 8 x.toNat (j + 1) := ⟨_, rfl⟩
          rw [← hy] at hbit hup
          rw [← hu, ← hv] at hup
          rw [← hu]
          obtain ⟨fn5, tmps5, assign5, body5, hy5, hR5⟩ := HY.out _ y wr hBj ⟨hIj, hbit⟩
          have HR5 : Hid (RoundIn Fence.wide (m - 1) Try.prog l fn5 tmps5 assign5 body5 wr fun e W' => (e = .returned (.bool true) ∧ Bk W' ∧ I (8 * k + j + 1) W') ∨ (e = .returned (.bool false) ∧ Bx W')) := hR5
          have HV : Hid (v = leftN 8 x.toNat (j + 1)) := hv
          obtain ⟨yn, hyn⟩ : ∃ n : Nat, n = y.toNat := ⟨_, rfl⟩
          rw [← hyn] at hup hy5
          clear hR5 hBj hIj hbit e1 e2 hy hu hv hyn
          gi_wp2
          refine ⟨trivial, (fun h => by cases h), (callsIn_wide.2 hup).mono ?_⟩
          rintro e w5 ⟨rfl, rfl⟩
          clear hup
          gi_wp2
          refine ⟨(fun h => by cases h), HR5.out.mono ?_⟩
          clear hy5 HR5
          rintro e W6 (⟨rfl, hB6, hI6⟩ | ⟨rfl, hX6⟩)
          · gi_wp2
            go_roundw
            case rel => exact ⟨j + 1, by omega, by go_num, by rw [HV.out], hB6, hI6⟩
            case measure => simp [intOf]; omega
          · gi_wp2
            refine bodyPost_ret (results_none rfl _ _ _) rfl ?_
            exact ⟨⟨_, rfl⟩, .inr hX6⟩
        · obtain rfl : j = 8 := by omega
          gi_wp2
          go_roundw
          case rel => exact ⟨k + 1, by omega, by go_num, hBj, hIj⟩
          case measure => simp [intOf]; omega
    · obtain rfl : k = L.length := by omega
      gi_wp2
      go_end0
      exact ⟨⟨_, rfl⟩, .inl ⟨_, rfl, hBk, hIk⟩⟩

set_option maxHeartbeats 400000 in
set_option maxRecDepth 20000 in
theorem each8_made (v : Value) (a : Option Addr) (k c : Nat) (hv : v = .slice a k c) (w : World) :
    Calls Try.prog 69 #[v, .int .i64 8] w fun e w' => e = .returned (.func (.func 71) #[] #[.pointer (some ⟨w.heap.size, 0, none⟩), .pointer (some ⟨w.heap.size + 1, 0, none⟩)]) ∧ w' = (w.alloc (.cells #[v] 22)).alloc (.cells #[.int .i64 8] 3) := by
  subst hv
  have hmf : ∀ (fn : Fn) (first cap : Array Value) (w : World), (Instr.makeFunc fn first cap).run Try.prog w = .ok (.func fn first cap) w := fun _ _ _ _ => rfl
  go_enter Try.func69, Try.ntmps69
  go_wp2
  go_ret
  exact ⟨rfl, rfl⟩

theorem Boxed.below {W W' : World} {b : Nat} {t : TypeId} {v : Value} (h : Boxed W b t v) (hb : Below W.heap.size W W') : Boxed W' b t v := by
  unfold Boxed; rw [hb.block b h.lt]; exact h
end Go.Proofs.Ytgnllmcgebonpaa
