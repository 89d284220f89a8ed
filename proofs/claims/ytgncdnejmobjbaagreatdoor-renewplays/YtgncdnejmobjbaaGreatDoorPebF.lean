/-
  The contract of New.
-/
import Derived.Test.YtgncdnejmobjbaaGreatDoorPebE
namespace Go.Proofs.YtgncdnejmobjbaaGreatDoor
open Go.ChangeShapes Go.WideShapes Go.ChangeAt Go.RowKit

/-- What New leaves. -/
structure Born (w w' : World) (g b cap : Nat) (cd : Option Addr) (cc : Nat) (seed : List UInt8) (n : Nat) (T : List Stone) : Prop where
  peb : Peb Nest.self 0 w' g b cap (.slice cd 16 cc) (lastL seed) n 0 0 T
  lay : T.map Prod.fst = layL 256 0 [n]
  com : Sees w' cd cc (backL n (lastL seed))
  bel : Below w.heap.size w w'
  hg : w.heap.size ≤ g
  hb : w.heap.size ≤ b

set_option maxHeartbeats 3200000 in
set_option maxRecDepth 20000 in
theorem new_ok (w : World) (a : Option Addr) (ca : Nat) (seed : List UInt8) (n : Nat) (hF : FTab w) (hT : KTab w) (ha : Sees w a ca seed) (hl : seed.length = 16) (h1 : 1 ≤ n) (h2 : n ≤ 256) :
    Calls Tryz.prog 25 #[.slice a 16 ca, .int .i64 (n : Int)] w fun e w' => ∃ g b cap cd cc T, e = .returned (.tuple #[.pointer (some ⟨g, 0, none⟩), .int .i64 0]) ∧ Born w w' g b cap cd cc seed n T := by
  have hk := keyc_any w a ca seed (n : Int) (n : Int) hF hT ha
  have hP : keyC seed (n : Int) (n : Int) = (lastL seed, 0) := by unfold keyC; rw [if_pos ⟨hl, by omega, by omega, by omega, by omega⟩, show ((n : Int) - (n : Int)).toNat = 0 by omega]; rfl
  rw [hP, hl] at hk
  have HF : Hid (FTab w) := hF
  have HT : Hid (KTab w) := hT
  have HN : Hid (1 ≤ n ∧ n ≤ 256) := ⟨h1, h2⟩
  clear hP hF hT ha hl h1 h2
  go_enter Tryz.func25, Tryz.ntmps25
  go_wp2_with fail
  refine hk.mono ?_
  rintro e w1 ⟨d, cd, rfl, hs1, hb1⟩
  rw [lastL_len]
  obtain ⟨W, hW⟩ : ∃ W, W = (w1.alloc (.cells #[.int .i64 (n : Int), .slice d 16 cd] 90)).alloc (.cells #[.slice none 0 0, .int .i64 0, .int .i64 0, .slice (some ⟨w1.heap.size, 0, none⟩) 1 1] 59) := ⟨_, rfl⟩
  have hbW : Below w1.heap.size w1 W := by rw [hW]; exact ((Below.refl _ _).alloc (Nat.le_refl _) _).alloc (by simp) _
  have r1 : W.heap[w1.heap.size]? = some (.cells #[.int .i64 (n : Int), .slice d 16 cd] 90 (0, 0)) := by rw [hW, Below.heap_alloc _ _ _ (by simp)]; exact heap_alloc_new _ _
  have r2 : W.heap[w1.heap.size + 1]? = some (.cells #[.slice none 0 0, .int .i64 0, .int .i64 0, .slice (some ⟨w1.heap.size, 0, none⟩) 1 1] 59 (0, 0)) := by
    have := heap_alloc_new (w1.alloc (.cells #[.int .i64 (n : Int), .slice d 16 cd] 90)) (.cells #[.slice none 0 0, .int .i64 0, .int .i64 0, .slice (some ⟨w1.heap.size, 0, none⟩) 1 1] 59)
    rw [World.size_alloc] at this
    rw [hW]; exact this
  have hPW : Peb Nest.self 0 W (w1.heap.size + 1) w1.heap.size 1 (.slice none 0 0) (lastL seed) n 0 0 [(n, d, cd)] := by
    refine ⟨r2, rfl, (by intro k y h; cases h), by omega, ⟨Nat.le_refl _, by decide, _, r1, Nat.le_refl _, rfl, ?_⟩, ?_, ⟨by have := HN.out; omega, rfl⟩, lastL_len seed, HN.out.2⟩
    · refine noByte_of fun v hv => ?_
      exact stoneC_no (n, d, cd) v hv
    · intro x hx
      rw [List.mem_singleton] at hx
      subst hx
      show Sees W d cd (backL (n - n) (lastL seed))
      rw [Nat.sub_self]; exact hs1.below hbW
  have hbwW := hb1.trans (hbW.mono hb1.size)
  have kr := preach_ok W Nest.self 0 (w1.heap.size + 1) w1.heap.size 1 _ (lastL seed) n 0 0 (n, d, cd) [] hPW (HF.out.below hbwW) (HT.out.below hbwW)
  have HW : Hid (W = (w1.alloc (.cells #[.int .i64 (n : Int), .slice d 16 cd] 90)).alloc (.cells #[.slice none 0 0, .int .i64 0, .int .i64 0, .slice (some ⟨w1.heap.size, 0, none⟩) 1 1] 59)) := hW
  have HB : Hid (Below w.heap.size w w1 ∧ Below w.heap.size w W ∧ Peb Nest.self 0 W (w1.heap.size + 1) w1.heap.size 1 (.slice none 0 0) (lastL seed) n 0 0 [(n, d, cd)]) := ⟨hb1, hbwW, hPW⟩
  clear hk hs1 hb1 hbW r1 r2 hPW hbwW hW
  go_upto_region 5 with fail
  rw [← HW.out]
  go_wp2_with fail
  refine kr.mono ?_
  rintro e w2 ⟨b2, cap2, T2, rfl, hP2, hl2, ha2, hb2⟩
  obtain ⟨r', hr', _⟩ := layL_top 256 0 n [] (show Good n 0 [n] from ⟨by have := HN.out; omega, rfl⟩) (by have := HN.out; omega)
  have hlay : T2.map Prod.fst = layL 256 0 [n] := hl2
  obtain ⟨l, R, rfl⟩ : ∃ l R, T2 = (1, l) :: R := by
    rw [hr'] at hlay
    cases T2 with
    | nil => cases hlay
    | cons y R => obtain ⟨py, ly⟩ := y; rw [List.map_cons] at hlay; obtain ⟨rfl, _⟩ := List.cons.inj hlay; exact ⟨ly, R, rfl⟩
  obtain ⟨ld, lc⟩ := l
  have ht := top_ok w2 Nest.self 0 (w1.heap.size + 1) b2 cap2 _ (lastL seed) n 0 0 (1, ld, lc) R hP2
  have HP2 : Hid (Peb Nest.self 0 w2 (w1.heap.size + 1) b2 cap2 (.slice none 0 0) (lastL seed) n 0 0 ((1, ld, lc) :: R) ∧ ((1, ld, lc) :: R).map Prod.fst = layL 256 0 [n] ∧ FTab w2 ∧ KTab w2 ∧ Below w.heap.size w w2 ∧ w.heap.size ≤ b2) := by
    refine ⟨hP2, hlay, (HF.out.below HB.out.2.1).peb HB.out.2.2 ha2, (HT.out.below HB.out.2.1).peb HB.out.2.2 ha2, ?_, ?_⟩
    · have h0 := HB.out.1.size
      exact ha2.below HB.out.2.1 (by rintro k (rfl | rfl) <;> omega) (by have := HB.out.2.1.size; omega)
    · have h0 := HB.out.1.size
      have h3 := HB.out.2.1.size
      rcases hb2 with h | h <;> omega
  dsimp only at ht
  rw [show ((1 : Nat) : Int) = 1 from rfl] at ht
  clear kr hP2 hl2 ha2 hb2 hr' hlay
  go_wp2_with fail
  refine ht.mono ?_
  rintro e w3 ⟨rfl, hb3⟩
  have hP3 := HP2.out.1.keep hb3
  have hfl : ∀ W, (Instr.field 90 (.agg #[.int .i64 1, .slice ld 16 lc]) 1).run Tryz.prog W = .ok (.slice ld 16 lc) W := field_key _ _
  have hkey := hP3.keys (1, ld, lc) (by simp)
  dsimp only at hkey
  have hbk := back_any w3 ld lc _ 1 (HP2.out.2.2.1.below hb3) (HP2.out.2.2.2.1.below hb3) hkey
  have hPB : backP (backL (n - 1) (lastL seed)) 1 = (backL n (lastL seed), 0) := by
    unfold backP
    rw [if_pos ⟨backL_len _ _ (lastL_len seed), by omega, by omega⟩, show (1 : Int).toNat = 1 from rfl, ← backL_add, show 1 + (n - 1) = n by have := HN.out; omega]
  rw [hPB, backL_len _ _ (lastL_len seed)] at hbk
  clear ht hkey hPB
  go_wp2_with fail
  refine hbk.mono ?_
  rintro e w4 ⟨d4, c4, rfl, hs4, hb4⟩
  have hP4 := hP3.keep hb4
  rw [backL_len _ _ (lastL_len seed)]
  obtain ⟨q0, _, _, _⟩ := hP4.cells
  have z0 := hP4.fz 0
  have HE : Hid (Born w (w4.setCell ⟨w1.heap.size + 1, 0, none⟩ (.slice d4 16 c4)) (w1.heap.size + 1) b2 cap2 d4 c4 seed n ((1, ld, lc) :: R)) := by
    have h0 := HB.out.1.size
    have hb24 : Below w.heap.size w w4 := by
      have h3 := HP2.out.2.2.2.2.1.trans (hb3.mono HP2.out.2.2.2.2.1.size)
      exact h3.trans (hb4.mono h3.size)
    exact ⟨hP4.setCommit _ (by intro k y h; cases h), HP2.out.2.1, hs4.slot hP4.obj hP4.noObj.u8 0 _, hb24.setCell (p := ⟨w1.heap.size + 1, 0, none⟩) (by show w.heap.size ≤ w1.heap.size + 1; omega) _, by omega, HP2.out.2.2.2.2.2⟩
  clear hbk hs4 hb4 hP3 hP4 hb3
  go_wp2
  go_ret2
  exact ⟨_, _, _, _, _, _, rfl, HE.out⟩
end Go.Proofs.YtgncdnejmobjbaaGreatDoor
