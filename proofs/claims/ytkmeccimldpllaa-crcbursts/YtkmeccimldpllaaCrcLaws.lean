/-
  What package crc must say, as propositions; the statements' walks out of them.
-/
import Derived.Test.YtkmeccimldpllaaCrcBurst
namespace Go.Proofs.Ytkmeccimldpllaa
open Go.ChangeShapes Go.WideShapes Go.ChangeAt Go.RowKit

def CofOk : Prop := ∀ (w : World) (a : Option Addr) (ca : Nat) (l : List UInt8) (W : Int) (P s0 : Nat), Sees w a ca l → l.length ≤ 140737488355000 → P < 4294967296 → s0 < 4294967296 →
  Calls Try.prog 8 #[.slice a l.length ca, .int .i64 W, .int .u32 (P : Int), .int .u32 (s0 : Int)] w fun e w' => e = .returned (.tuple #[.int .u32 (((crcP l W P s0).1 : Nat) : Int), .int .i64 (((crcP l W P s0).2 : Nat) : Int)]) ∧ Below w.heap.size w w'
def CheadOk : Prop := ∀ (w : World) (a : Option Addr) (ca : Nat) (l : List UInt8), Sees w a ca l → l.length ≤ 140737488355000 → Calls Try.prog 10 #[.slice a l.length ca] w fun e w' => e = .returned (.int .u32 ((headL l : Nat) : Int)) ∧ Below w.heap.size w w'
def CwholeOk : Prop := ∀ (w : World) (a : Option Addr) (ca : Nat) (l : List UInt8), Sees w a ca l → l.length ≤ 140737488355000 → Calls Try.prog 12 #[.slice a l.length ca] w fun e w' => e = .returned (.int .u32 ((wholeL l : Nat) : Int)) ∧ Below w.heap.size w w'
def CfixOk : Prop := ∀ (w : World) (a : Option Addr) (ca : Nat) (l : List UInt8), Sees w a ca l → l.length ≤ 140737488355000 → Calls Try.prog 15 #[.slice a l.length ca] w fun e w' => Gives w w' e (fun r => r = fixL l)
def CgoodOk : Prop := ∀ (w : World) (a : Option Addr) (ca : Nat) (l : List UInt8), Sees w a ca l → l.length ≤ 140737488355000 → Calls Try.prog 17 #[.slice a l.length ca] w fun e w' => e = .returned (.bool (goodL l)) ∧ Below w.heap.size w w'
def CburstOk : Prop := ∀ (w : World) (n k : Int) (B : Nat), B < 4294967296 → Calls Try.prog 19 #[.int .i64 n, .int .i64 k, .int .u32 (B : Int)] w fun e w' => Gives w w' e (burstIs n k B)
def CawakeOk : Prop := ∀ w : World, Calls Try.prog 14 #[] w fun e w' => e = .returned (.bool true) ∧ Below w.heap.size w w'

set_option maxHeartbeats 800000 in
set_option maxRecDepth 20000 in
theorem awake5 (HFI : CfixOk) (HGO : CgoodOk) : CawakeOk := by
  intro w
  have hb0 : Below w.heap.size w (w.alloc (.cells #[.int .u8 1, .int .u8 2, .int .u8 3] 5)) := (Below.refl _ _).alloc (Nat.le_refl _) _
  have hs : Sees (w.alloc (.cells #[.int .u8 1, .int .u8 2, .int .u8 3] 5)) (some ⟨w.heap.size, 0, none⟩) 3 [1, 2, 3] := sees_lit w [1, 2, 3] 5 (0, 0) (by simp)
  have h1 : Calls Try.prog 15 #[.slice (some ⟨w.heap.size, 0, none⟩) 3 3] (w.alloc (.cells #[.int .u8 1, .int .u8 2, .int .u8 3] 5)) _ := HFI _ _ 3 [1, 2, 3] hs (by simp)
  clear hs
  go_enter Try.func14, Try.ntmps14
  go_wp2_with fail
  refine h1.mono ?_
  rintro e w1 ⟨d, cd, r, hr, rfl, hs1, hb1, _⟩
  have hrl : r.length = 6 := by rw [hr.out]; rfl
  have h2 := HGO w1 d cd r hs1 (by omega)
  have hg : goodL r = true := by rw [hr.out]; exact fix_good _
  rw [hg] at h2
  have bw := hb0.trans (hb1.mono (by simp))
  clear h1 hr hrl hg
  go_wp2_with fail
  refine h2.mono ?_
  rintro e w2 ⟨rfl, hb2⟩
  clear h2
  go_wp2
  go_ret
  exact ⟨rfl, bw.trans (hb2.mono bw.size)⟩

set_option maxHeartbeats 1600000 in
set_option maxRecDepth 20000 in
theorem sums_walk' (HOF : CofOk) (HHE : CheadOk) (HWH : CwholeOk) (HAW : CawakeOk) (a : Option Addr) (ca : Nat) (l : List UInt8) (W P s : Int) (w : World) (ha : Sees w a ca l) (hca : ca ≤ 140737488351232) (_ : (Lit.int .i64 W).wf = true) (wp : (Lit.int .u32 P).wf = true) (ws : (Lit.int .u32 s).wf = true) :
    Calls Try.prog 3 #[.slice a l.length ca, .int .i64 W, .int .u32 P, .int .u32 s] w fun e w' => e = .returned (.bool true) ∧ Below w.heap.size w w' := by
  obtain ⟨p, rfl, hp⟩ : ∃ n : Nat, P = n ∧ n < 4294967296 := ⟨P.toNat, by have := bounds_u32 wp; omega, by have := bounds_u32 wp; omega⟩
  obtain ⟨q, rfl, hq⟩ : ∃ n : Nat, s = n ∧ n < 4294967296 := ⟨s.toNat, by have := bounds_u32 ws; omega, by have := bounds_u32 ws; omega⟩
  have hll : l.length ≤ 140737488351232 := Nat.le_trans ha.fits hca
  have HA : Hid (Sees w a ca l) := ha
  have h1 := HOF w a ca l W p q ha (by omega) hp hq
  have H2 : Hid (∀ V, Below w.heap.size w V → Calls Try.prog 9 #[.slice a l.length ca, .int .i64 W, .int .u32 (p : Int), .int .u32 (q : Int)] V fun e w' => e = .returned (.tuple #[.int .u32 (((crcP l W p q).1 : Nat) : Int), .int .i64 (((crcP l W p q).2 : Nat) : Int)]) ∧ w' = V) := fun V hV => rcrc_any V a ca l W p q (HA.out.below hV) (by omega) hp hq
  have H3 : Hid (∀ V, Below w.heap.size w V → Calls Try.prog 10 #[.slice a l.length ca] V fun e w' => e = .returned (.int .u32 ((headL l : Nat) : Int)) ∧ Below w.heap.size w w') := fun V hV => (HHE V a ca l (HA.out.below hV) (by omega)).mono fun _ _ ⟨h, hb⟩ => ⟨h, hV.trans (hb.mono hV.size)⟩
  have H4 : Hid (∀ V, Below w.heap.size w V → Calls Try.prog 11 #[.slice a l.length ca] V fun e w' => e = .returned (.int .u32 ((headL l : Nat) : Int)) ∧ w' = V) := fun V hV => rhead_any V a ca l (HA.out.below hV) (by omega)
  have H5 : Hid (∀ V, Below w.heap.size w V → Calls Try.prog 12 #[.slice a l.length ca] V fun e w' => e = .returned (.int .u32 ((wholeL l : Nat) : Int)) ∧ Below w.heap.size w w') := fun V hV => (HWH V a ca l (HA.out.below hV) (by omega)).mono fun _ _ ⟨h, hb⟩ => ⟨h, hV.trans (hb.mono hV.size)⟩
  have H6 : Hid (∀ V, Below w.heap.size w V → Calls Try.prog 13 #[.slice a l.length ca] V fun e w' => e = .returned (.int .u32 ((wholeL l : Nat) : Int)) ∧ w' = V) := fun V hV => rwhole_any V a ca l (HA.out.below hV) (by omega)
  obtain ⟨x, hx⟩ : ∃ x, x = (crcP l W p q).1 := ⟨_, rfl⟩
  obtain ⟨y, hy⟩ : ∃ x, x = (crcP l W p q).2 := ⟨_, rfl⟩
  obtain ⟨h, hh⟩ : ∃ x, x = headL l := ⟨_, rfl⟩
  obtain ⟨z, hz⟩ : ∃ x, x = wholeL l := ⟨_, rfl⟩
  rw [← hx, ← hy] at h1 H2
  rw [← hh] at H3 H4
  rw [← hz] at H5 H6
  clear hx hy hh hz ha wp ws
  go_enter Try.func3, Try.ntmps3
  go_wp2_with fail
  refine h1.mono ?_
  rintro e w1 ⟨rfl, b1⟩
  have h2 := H2.out w1 b1
  clear h1
  go_wp2_with fail
  refine h2.mono ?_
  rintro e w2 ⟨rfl, hw2⟩
  rw [hw2]
  clear h2 hw2 w2
  have h3 := H3.out w1 b1
  go_wp2_with fail
  refine h3.mono ?_
  rintro e w3 ⟨rfl, b3⟩
  have h4 := H4.out w3 b3
  clear h3
  go_wp2_with fail
  refine h4.mono ?_
  rintro e w4 ⟨rfl, hw4⟩
  rw [hw4]
  clear h4 hw4 w4
  have h5 := H5.out w3 b3
  go_wp2_with fail
  refine h5.mono ?_
  rintro e w5 ⟨rfl, b5⟩
  have h6 := H6.out w5 b5
  clear h5
  go_wp2_with fail
  refine h6.mono ?_
  rintro e w6 ⟨rfl, hw6⟩
  rw [hw6]
  clear h6 hw6 w6
  have haw := HAW w5
  go_wp2_with fail
  refine haw.mono ?_
  rintro e w7 ⟨rfl, b7⟩
  clear haw
  go_wp2
  go_ret
  exact ⟨rfl, b5.trans (b7.mono b5.size)⟩
end Go.Proofs.Ytkmeccimldpllaa
