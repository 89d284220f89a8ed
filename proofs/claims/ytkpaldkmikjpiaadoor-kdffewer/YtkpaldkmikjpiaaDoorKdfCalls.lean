/-
  The contracts of kdf's Extract, isNode, Own, Pair, derive, Step and Mac, out of Key's.
-/
import Derived.Test.YtkpaldkmikjpiaaDoorKdfLaws
import Derived.Test.YtkpaldkmikjpiaaDoorHmacCore
namespace Go.Proofs.YtkpaldkmikjpiaaDoor
open Go.ChangeShapes Go.WideShapes Go.ChangeAt Go.RowKit

set_option maxHeartbeats 800000 in
set_option maxRecDepth 20000 in
theorem extract_any : KextractOk := by
  intro w a ca salt b cb bs hF hT ha hb hk hl
  have hof := hof_own w a ca salt b cb bs hF hT ha hb (by omega) (by omega)
  clear ha hb hF hT
  go_enter Tryd.func12, Tryd.ntmps12
  go_wp2_with fail
  refine hof.mono ?_
  rintro e w1 ⟨x1, c1, r1, hr1, rfl, hs1, hb1, _⟩
  clear hof
  go_wp2
  go_ret2
  exact ⟨x1, c1, r1, hr1, rfl, hs1, hb1⟩

set_option maxHeartbeats 400000 in
set_option maxRecDepth 20000 in
theorem isNode_any (w : World) (i : Int) : Calls Tryd.prog 32 #[.int .i64 i] w fun e w' => e = .returned (.bool (nodeP i)) ∧ w' = w := by
  by_cases h : 0 ≤ i
  · have hE : nodeP i = decide (i < 8) := by unfold nodeP; simp [h]
    rw [hE]
    clear hE
    go_enter Tryd.func32, Tryd.ntmps32
    go_wp2
    go_ret
    exact ⟨rfl, rfl⟩
  · have hE : nodeP i = false := by unfold nodeP; simp; omega
    have d1 : decide (0 ≤ i) = false := by simp; omega
    rw [hE]
    clear hE
    go_enter Tryd.func32, Tryd.ntmps32
    go_wp2
    go_ret
    exact ⟨rfl, rfl⟩

set_option maxHeartbeats 800000 in
set_option maxRecDepth 20000 in
theorem own_any (HKY : KkeyOk) (w : World) (a : Option Addr) (ca : Nat) (key : List UInt8) (i : Int) (hF : FTab w) (hT : KTab w) (ha : Sees w a ca key) : Calls Tryd.prog 18 #[.slice a key.length ca, .int .i64 i] w fun e w' => Says w w' e (ownP key i) := by
  have hno := isNode_any w i
  by_cases h : nodeP i = true
  · have hi : 0 ≤ i ∧ i < 8 := by unfold nodeP at h; simpa using h
    obtain ⟨n, rfl⟩ : ∃ n : Nat, i = n := ⟨i.toNat, by omega⟩
    have hE : ownP key (n : Int) = keyP key ownN [n] := by unfold ownP; rw [if_pos h]; simp
    rw [hE]
    rw [h] at hno
    have hb0 : Below w.heap.size w (w.alloc (.cells #[.int .u64 (n : Int)] 53)) := (Below.refl _ _).alloc (Nat.le_refl _) _
    have hL : Longs (w.alloc (.cells #[.int .u64 (n : Int)] 53)) (some ⟨w.heap.size, 0, none⟩) 1 [n] := Longs.lit w 53 [n] (by simp) (by simp; omega)
    have hk : Calls Tryd.prog 14 #[.slice a key.length ca, .string { data := #[111, 119, 110] }, .slice (some ⟨w.heap.size, 0, none⟩) 1 1] (w.alloc (.cells #[.int .u64 (n : Int)] 53)) _ := HKY _ a ca key ownN _ 1 [n] (by simp [ownN]) (hF.below hb0) (hT.below hb0) (ha.below hb0) hL
    clear hE h ha hF hT hL
    go_enter Tryd.func18, Tryd.ntmps18
    go_wp2_with fail
    refine hno.mono ?_
    rintro e w1 ⟨rfl, hw1⟩
    rw [hw1]
    clear hno hw1 w1
    go_wp2_with fail
    refine hk.mono ?_
    rintro e w5 ⟨d5, c5, r5, hr5, rfl, hs5, hb5⟩
    clear hk
    go_wp2
    go_ret2
    exact ⟨d5, c5, r5, hr5, rfl, hs5, hb0.trans (hb5.mono hb0.size)⟩
  · have hE : ownP key i = ([], 1) := by unfold ownP; rw [if_neg h]
    rw [hE]
    have hf : nodeP i = false := by simpa using h
    rw [hf] at hno
    clear hE h ha hF hT hf
    go_enter Tryd.func18, Tryd.ntmps18
    go_wp2_with fail
    refine hno.mono ?_
    rintro e w1 ⟨rfl, rfl⟩
    go_wp2
    go_ret2
    exact Says.nothing 1 (Below.refl _ _)

set_option maxHeartbeats 1600000 in
set_option maxRecDepth 20000 in
theorem pair_any (HKY : KkeyOk) (w : World) (a : Option Addr) (ca : Nat) (key : List UInt8) (i j : Int) (hF : FTab w) (hT : KTab w) (ha : Sees w a ca key) : Calls Tryd.prog 16 #[.slice a key.length ca, .int .i64 i, .int .i64 j] w fun e w' => Says w w' e (pairP key i j) := by
  have hno := isNode_any w i
  have hno2 := isNode_any w j
  by_cases h : nodeP i = true
  · rw [h] at hno
    by_cases h2 : nodeP j = true
    · rw [h2] at hno2
      by_cases h3 : i = j
      · subst h3
        have hE : pairP key i i = ([], 1) := by unfold pairP; rw [if_neg (by simp)]
        rw [hE]
        clear hE h h2 ha hF hT
        go_enter Tryd.func16, Tryd.ntmps16
        go_wp2_with fail
        refine hno.mono ?_
        rintro e w1 ⟨rfl, hw1⟩
        rw [hw1]
        clear hw1 w1
        go_wp2_with fail
        refine hno2.mono ?_
        rintro e w1 ⟨rfl, hw1⟩
        rw [hw1]
        clear hw1 w1
        go_wp2
        go_ret2
        exact Says.nothing 1 (Below.refl _ _)
      · have hi : 0 ≤ i ∧ i < 8 := by unfold nodeP at h; simpa using h
        have hj : 0 ≤ j ∧ j < 8 := by unfold nodeP at h2; simpa using h2
        obtain ⟨n, rfl⟩ : ∃ n : Nat, i = n := ⟨i.toNat, by omega⟩
        obtain ⟨m, rfl⟩ : ∃ m : Nat, j = m := ⟨j.toNat, by omega⟩
        have HE1 : Hid (n < m → pairP key (n : Int) (m : Int) = keyP key pairN [n, m]) := fun hlt => by
          unfold pairP; rw [if_pos ⟨h, h2, h3⟩, Int.min_eq_left (by omega), Int.max_eq_right (by omega)]; simp
        have HE2 : Hid (m < n → pairP key (n : Int) (m : Int) = keyP key pairN [m, n]) := fun hlt => by
          unfold pairP; rw [if_pos ⟨h, h2, h3⟩, Int.min_eq_right (by omega), Int.max_eq_left (by omega)]; simp
        obtain ⟨PP, hPP⟩ : ∃ P, P = pairP key (n : Int) (m : Int) := ⟨_, rfl⟩
        rw [← hPP] at HE1 HE2 ⊢
        have dd : ((n : Int) == (m : Int)) = false := by simp; omega
        have hb1 : Below w.heap.size w (w.alloc (.cells #[.int .u64 (n : Int), .int .u64 (m : Int)] 53)) := (Below.refl _ _).alloc (Nat.le_refl _) _
        have hb2 : Below w.heap.size w (w.alloc (.cells #[.int .u64 (m : Int), .int .u64 (n : Int)] 53)) := (Below.refl _ _).alloc (Nat.le_refl _) _
        have hL1 : Longs (w.alloc (.cells #[.int .u64 (n : Int), .int .u64 (m : Int)] 53)) (some ⟨w.heap.size, 0, none⟩) 2 [n, m] := Longs.lit w 53 [n, m] (by simp) (by simp; omega)
        have hL2 : Longs (w.alloc (.cells #[.int .u64 (m : Int), .int .u64 (n : Int)] 53)) (some ⟨w.heap.size, 0, none⟩) 2 [m, n] := Longs.lit w 53 [m, n] (by simp) (by simp; omega)
        have hk1 : Calls Tryd.prog 14 #[.slice a key.length ca, .string { data := #[112, 97, 105, 114] }, .slice (some ⟨w.heap.size, 0, none⟩) 2 2] (w.alloc (.cells #[.int .u64 (n : Int), .int .u64 (m : Int)] 53)) _ := HKY _ a ca key pairN _ 2 [n, m] (by simp [pairN]) (hF.below hb1) (hT.below hb1) (ha.below hb1) hL1
        have hk2 : Calls Tryd.prog 14 #[.slice a key.length ca, .string { data := #[112, 97, 105, 114] }, .slice (some ⟨w.heap.size, 0, none⟩) 2 2] (w.alloc (.cells #[.int .u64 (m : Int), .int .u64 (n : Int)] 53)) _ := HKY _ a ca key pairN _ 2 [m, n] (by simp [pairN]) (hF.below hb2) (hT.below hb2) (ha.below hb2) hL2
        have h3' : n ≠ m := by omega
        clear hPP h h2 ha hF hT hL1 hL2 h3
        by_cases hlt : n < m
        · have HP : Hid (PP = keyP key pairN [n, m]) := HE1.out hlt
          clear HE1 HE2 hk2 hb2
          go_enter Tryd.func16, Tryd.ntmps16
          go_wp2_with fail
          refine hno.mono ?_
          rintro e w1 ⟨rfl, hw1⟩
          rw [hw1]
          clear hw1 w1 hno
          go_wp2_with fail
          refine hno2.mono ?_
          rintro e w1 ⟨rfl, hw1⟩
          rw [hw1]
          clear hw1 w1 hno2
          go_wp2_with fail
          all_goals first | (exfalso; omega) | skip
          refine hk1.mono ?_
          rintro e w5 ⟨d5, c5, r5, hr5, rfl, hs5, hb5⟩
          clear hk1
          rw [← HP.out] at hr5 ⊢
          go_wp2
          go_ret2
          exact ⟨d5, c5, r5, hr5, rfl, hs5, hb1.trans (hb5.mono hb1.size)⟩
        · have HP : Hid (PP = keyP key pairN [m, n]) := HE2.out (by omega)
          clear HE1 HE2 hk1 hb1
          go_enter Tryd.func16, Tryd.ntmps16
          go_wp2_with fail
          refine hno.mono ?_
          rintro e w1 ⟨rfl, hw1⟩
          rw [hw1]
          clear hw1 w1 hno
          go_wp2_with fail
          refine hno2.mono ?_
          rintro e w1 ⟨rfl, hw1⟩
          rw [hw1]
          clear hw1 w1 hno2
          go_wp2_with fail
          all_goals first | (exfalso; omega) | skip
          refine hk2.mono ?_
          rintro e w5 ⟨d5, c5, r5, hr5, rfl, hs5, hb5⟩
          clear hk2
          rw [← HP.out] at hr5 ⊢
          go_wp2
          go_ret2
          exact ⟨d5, c5, r5, hr5, rfl, hs5, hb2.trans (hb5.mono hb2.size)⟩
    · have hE : pairP key i j = ([], 1) := by unfold pairP; rw [if_neg (by simp [h2])]
      rw [hE]
      have hf : nodeP j = false := by simpa using h2
      rw [hf] at hno2
      clear hE h h2 ha hF hT hf
      go_enter Tryd.func16, Tryd.ntmps16
      go_wp2_with fail
      refine hno.mono ?_
      rintro e w1 ⟨rfl, rfl⟩
      go_wp2_with fail
      refine hno2.mono ?_
      rintro e w1 ⟨rfl, rfl⟩
      go_wp2
      go_ret2
      exact Says.nothing 1 (Below.refl _ _)
  · have hE : pairP key i j = ([], 1) := by unfold pairP; rw [if_neg (by simp [h])]
    rw [hE]
    have hf : nodeP i = false := by simpa using h
    rw [hf] at hno
    clear hE h ha hF hT hf hno2
    go_enter Tryd.func16, Tryd.ntmps16
    go_wp2_with fail
    refine hno.mono ?_
    rintro e w1 ⟨rfl, rfl⟩
    go_wp2
    go_ret2
    exact Says.nothing 1 (Below.refl _ _)

set_option maxHeartbeats 800000 in
set_option maxRecDepth 20000 in
theorem derive_any (HKY : KkeyOk) (w : World) (a : Option Addr) (ca : Nat) (key name : List UInt8) (hn : name.length ≤ 9223372036854775807) (hF : FTab w) (hT : KTab w) (ha : Sees w a ca key) : Calls Tryd.prog 34 #[.slice a key.length ca, .string ⟨name.toArray⟩] w fun e w' => Says w w' e (if key.length = 16 then keyP key name [] else ([], 1)) := by
  have hkm : key.length ≤ 9223372036854775807 := by have := ha.fits; have := ha.room; unfold maxLen at this; omega
  by_cases h : key.length = 16
  · rw [if_pos h]
    have hk : Calls Tryd.prog 14 #[.slice a key.length ca, .string ⟨name.toArray⟩, .slice none 0 0] w _ := HKY w a ca key name none 0 [] hn hF hT ha (Longs.none' w)
    have dd : ((key.length : Int) != 16) = false := by simp; omega
    clear h ha hF hT
    go_enter Tryd.func34, Tryd.ntmps34
    go_wp2_with fail
    refine hk.mono ?_
    rintro e w5 ⟨d5, c5, r5, hr5, rfl, hs5, hb5⟩
    clear hk
    go_wp2
    go_ret2
    exact ⟨d5, c5, r5, hr5, rfl, hs5, hb5⟩
  · rw [if_neg h]
    have dd : ((key.length : Int) != 16) = true := by simp; omega
    clear h ha hF hT
    go_enter Tryd.func34, Tryd.ntmps34
    go_wp2
    go_ret2
    exact Says.nothing 1 (Below.refl _ _)

set_option maxHeartbeats 800000 in
set_option maxRecDepth 20000 in
theorem step_any (HKY : KkeyOk) (w : World) (a : Option Addr) (ca : Nat) (key : List UInt8) (hF : FTab w) (hT : KTab w) (ha : Sees w a ca key) : Calls Tryd.prog 20 #[.slice a key.length ca] w fun e w' => Says w w' e (stepP key) := by
  have hd : Calls Tryd.prog 34 #[.slice a key.length ca, .string { data := #[99, 104, 97, 105, 110] }] w fun e w' => Says w w' e (stepP key) := derive_any HKY w a ca key chainN (by simp [chainN]) hF hT ha
  obtain ⟨PP, hPP⟩ : ∃ P, P = stepP key := ⟨_, rfl⟩
  rw [← hPP] at hd ⊢
  clear hPP ha hF hT
  go_enter Tryd.func20, Tryd.ntmps20
  go_wp2_with fail
  refine hd.mono ?_
  rintro e w5 ⟨d5, c5, r5, hr5, rfl, hs5, hb5⟩
  clear hd
  go_wp2
  go_ret2
  exact ⟨d5, c5, r5, hr5, rfl, hs5, hb5⟩

set_option maxHeartbeats 800000 in
set_option maxRecDepth 20000 in
theorem mac_any (HKY : KkeyOk) (w : World) (a : Option Addr) (ca : Nat) (key : List UInt8) (hF : FTab w) (hT : KTab w) (ha : Sees w a ca key) : Calls Tryd.prog 22 #[.slice a key.length ca] w fun e w' => Says w w' e (macP key) := by
  have hd : Calls Tryd.prog 34 #[.slice a key.length ca, .string { data := #[109, 97, 99] }] w fun e w' => Says w w' e (macP key) := derive_any HKY w a ca key macN (by simp [macN]) hF hT ha
  obtain ⟨PP, hPP⟩ : ∃ P, P = macP key := ⟨_, rfl⟩
  rw [← hPP] at hd ⊢
  clear hPP ha hF hT
  go_enter Tryd.func22, Tryd.ntmps22
  go_wp2_with fail
  refine hd.mono ?_
  rintro e w5 ⟨d5, c5, r5, hr5, rfl, hs5, hb5⟩
  clear hd
  go_wp2
  go_ret2
  exact ⟨d5, c5, r5, hr5, rfl, hs5, hb5⟩
end Go.Proofs.YtkpaldkmikjpiaaDoor
