/-
  The walk of BitsBytes.
-/
import Derived.Test.YtapfcgklocflfaaBitsRd
namespace Go.Proofs.Ytapfcgklocflfaa
open Go.ChangeShapes Go.WideShapes Go.ChangeAt Go.RowKit

theorem bytes_back (k : Nat) (l : List UInt8) : nextB (packL (bitsN 0 k ++ bitsOf l)) k (8 * l.length) = bitsOf l := by
  unfold nextB
  have h : (bitsN 0 k).length = k := bitsN_length 0 k
  have h2 : ∀ t : List Bool, (bitsN 0 k ++ t).drop k = t := fun t => by
    have := List.drop_left (l₁ := bitsN 0 k) (l₂ := t)
    rw [h] at this; exact this
  rw [packL_bits, List.append_assoc, h2, ← bitsOf_length l, List.take_left]

set_option maxHeartbeats 6400000 in
set_option maxRecDepth 20000 in
theorem bytes_walk (a : Option Addr) (ca : Nat) (l : List UInt8) (z : Int) (w : World) (hs : Sees w a ca l) (_ : ca ≤ 140737488351232) (hz : (Lit.int .u8 z).wf = true) :
    Calls Try.prog 6 #[.slice a l.length ca, .int .u8 z] w fun e w' => e = .returned (.bool true) ∧ Below w.heap.size w w' := by
  have HAW := awake6 wr_spec
  have HS : Hid (Sees w a ca l) := hs
  have HXB : Hid (∀ bb off, a = some ⟨bb, off, none⟩ → l ≠ [] → bb < w.heap.size) := fun bb off he hne => by
    obtain ⟨b2, o2, he2, hc2⟩ := hs.at' hne
    rw [he] at he2
    obtain ⟨rfl, rfl⟩ : bb = b2 ∧ off = o2 := by simpa using he2
    obtain ⟨y, hy⟩ : ∃ y, l[0]? = some y := by cases l with | nil => exact absurd rfl hne | cons y _ => exact ⟨y, rfl⟩
    exact World.block_lt_of_cell? w _ (hc2 0 y hy)
  have hlm : l.length ≤ 9223372036854775807 := by have := hs.fits; have := hs.room; unfold maxLen at this; omega
  have hzb := bounds_u8 hz
  obtain ⟨n, rfl⟩ : ∃ n : Nat, z = (n : Int) := ⟨z.toNat, by omega⟩
  obtain ⟨k, hk⟩ : ∃ k, k = n % 9 := ⟨_, rfl⟩
  have k1 : (n : Int) % 9 = (k : Int) := by omega
  have k2 : (n : Int).tmod 9 = (k : Int) := by rw [Int.tmod_eq_emod_of_nonneg (by omega)]; exact k1
  have hk8 : k ≤ 8 := by omega
  have wk : IntKind.i64.wrap (k : Int) = (k : Int) := by rw [IntKind.wrap_i64]; omega
  have hn256 : n < 256 := by omega
  have hnew := wnew_ok w
  clear hs hz hk hzb
  go_enter Try.func6, Try.ntmps6
  go_wp2_with fail
  refine hnew.mono ?_
  rintro e w1 ⟨b, F1, rfl, hM1, hb1, hF1⟩
  have hnew2 := wnew_ok w1
  clear hnew
  go_wp2_with fail
  refine hnew2.mono ?_
  rintro e w2 ⟨c, F2, rfl, hM2, hb2, hF2⟩
  have bel2 := hb1.trans (hb2.mono hb1.size)
  have HB2 : Hid (Both (RowB 62 []) (RowB 62 []) w.heap.size w2 b [] c []) :=
    ⟨F1, F2, (rowB_kept 62 []).below hM1 hb2, hM2, fun i hi hj => by have h1 := (rowB_kept 62 []).lt hM1 i hi; have h2 := hF2 i hj; omega, hF1, fun i hi => by have := hF2 i hi; have := hb1.size; omega⟩
  clear hnew2 hM1 hM2 hF1 hF2 hb1 hb2
  by_cases hbig : 900 < l.length
  · have haw := HAW w2
    go_wp2_with fail
    refine haw.mono ?_
    rintro e w3 ⟨rfl, hb3⟩
    clear haw
    go_wp2
    go_ret
    exact ⟨rfl, bel2.trans (hb3.mono bel2.size)⟩
  have hl9 : l.length ≤ 900 := by omega
  clear hbig
  have p1 : putP ([] : List Bool).length 0 (k : Int) = 0 := by unfold putP; rw [if_neg (by have h := Nat.two_pow_pos k; rw [Int.toNat_natCast]; omega), if_neg (by simp; omega)]
  have p2 : putB [] 0 (k : Int) = bitsN 0 k := by unfold putB; rw [p1]; rfl
  -- Put on the first
  obtain ⟨F3, G3, m3, n3, d3, f3, g3⟩ := HB2.out
  have hput := wput_ok w2 b [] F3 0 (k : Int) m3 (by omega) (by simp)
  rw [p1, p2] at hput
  have HP1 : Hid (Calls Try.prog 9 #[.pointer (some ⟨b, 0, none⟩), .int .u64 0, .int .i64 (k : Int)] w2 fun e w' => e = .returned (.int .i64 0) ∧ Both (RowB 62 []) (RowB 62 []) w.heap.size w' b (bitsN 0 k) c [] ∧ Below w.heap.size w w') := by
    refine hput.mono ?_
    rintro e w' ⟨rfl, hL⟩
    exact ⟨rfl, Both.first (rowB_kept 62 []) n3 d3 f3 g3 bel2.size hL, hL.below bel2 f3 bel2.size⟩
  clear hput m3 n3 d3 f3 g3 HB2
  go_wp2_with fail
  refine HP1.out.mono ?_
  rintro e w3 ⟨rfl, hB3, bel3⟩
  clear HP1
  -- .. and on the second
  obtain ⟨F4, G4, m4, n4, d4, f4, g4⟩ := hB3
  have hput := wput_ok w3 c [] G4 0 (k : Int) n4 (by omega) (by simp)
  rw [p1, p2] at hput
  have HP1 : Hid (Calls Try.prog 9 #[.pointer (some ⟨c, 0, none⟩), .int .u64 0, .int .i64 (k : Int)] w3 fun e w' => e = .returned (.int .i64 0) ∧ Both (RowB 62 []) (RowB 62 []) w.heap.size w' b (bitsN 0 k) c (bitsN 0 k) ∧ Below w.heap.size w w') := by
    refine hput.mono ?_
    rintro e w' ⟨rfl, hL⟩
    exact ⟨rfl, Both.second (rowB_kept 62 []) m4 d4 f4 g4 bel3.size hL, hL.below bel3 g4 bel3.size⟩
  clear hput m4 n4 d4 f4 g4 p1 p2
  go_wp2_with fail
  refine HP1.out.mono ?_
  rintro e w4 ⟨rfl, hB4, bel4⟩
  clear HP1
  -- the bytes
  obtain ⟨F5, G5, m5, n5, d5, f5, g5⟩ := hB4
  have hby := wbytes_ok w4 b (bitsN 0 k) F5 a ca l m5 (HS.out.below (bel4.mono (Nat.le_refl _))) (fun bb off he hne hf => by have h1 := f5 bb hf; have h2 := HXB.out bb off he hne; omega) (by rw [bitsN_length]; omega)
  have q1 : bytesP (bitsN 0 k).length l.length = 0 := by unfold bytesP; rw [bitsN_length, if_neg (by omega)]
  have q2 : bytesB (bitsN 0 k) l = bitsN 0 k ++ bitsOf l := by unfold bytesB; rw [q1]; rfl
  rw [q1, q2] at hby
  have HP1 : Hid (Calls Try.prog 11 #[.pointer (some ⟨b, 0, none⟩), .slice a l.length ca] w4 fun e w' => e = .returned (.int .i64 0) ∧ Both (RowB 62 []) (RowB 62 []) w.heap.size w' b (bitsN 0 k ++ bitsOf l) c (bitsN 0 k) ∧ Below w.heap.size w w') := by
    refine hby.mono ?_
    rintro e w' ⟨rfl, hL⟩
    exact ⟨rfl, Both.first (rowB_kept 62 []) n5 d5 f5 g5 bel4.size hL, hL.below bel4 f5 bel4.size⟩
  clear hby m5 n5 d5 f5 g5 q1 q2
  go_wp2_with fail
  refine HP1.out.mono ?_
  rintro e w5 ⟨rfl, hB5, bel5⟩
  clear HP1
  have hB5' : Both (RowB 62 []) (RowB 62 []) w.heap.size w5 b (bitsN 0 k ++ bitsOf l) c (bitsN 0 k ++ bitsOf (l.take 0)) := by
    have e0 : bitsN 0 k ++ bitsOf (l.take 0) = bitsN 0 k := by simp [bitsOf]
    rw [e0]; exact hB5
  have HB5 : Hid (Both (RowB 62 []) (RowB 62 []) w.heap.size w5 b (bitsN 0 k ++ bitsOf l) c (bitsN 0 k ++ bitsOf (l.take 0))) := hB5'
  clear hB5 hB5'
  go_wp2
  go_loopw [8] (fun i wr => ∃ j : Nat, j ≤ l.length ∧ i = .int .i64 j ∧ Both (RowB 62 []) (RowB 62 []) w.heap.size wr b (bitsN 0 k ++ bitsOf l) c (bitsN 0 k ++ bitsOf (l.take j)) ∧ Below w.heap.size w wr) (fun i _ => l.length - (intOf i).toNat)
  case atStart => exact ⟨0, by omega, rfl, HB5.out, bel5⟩
  case round =>
    obtain ⟨j, hj, rfl, hBj, belj⟩ := hrel
    clear HB5 bel5
    by_cases hlt : j < l.length
    · obtain ⟨y, hy⟩ : ∃ y, l[j]? = some y := ⟨l[j], by simp [hlt]⟩
      obtain ⟨ab, ao, rfl, cy⟩ := (HS.out.below belj).get hy
      obtain ⟨F6, G6, m6, n6, d6, f6, g6⟩ := hBj
      have hjl : (bitsN 0 k ++ bitsOf (l.take j)).length = k + 8 * j := by rw [List.length_append, bitsN_length, bitsOf_length, List.length_take]; omega
      have hy8 := toNat_lt256 y
      have hput := wput_ok wr c _ G6 y.toNat ((8 : Nat) : Int) n6 (by omega) (by rw [hjl]; omega)
      have p1 : putP (bitsN 0 k ++ bitsOf (l.take j)).length y.toNat ((8 : Nat) : Int) = 0 := by unfold putP; rw [if_neg (by simp; omega), if_neg (by rw [hjl]; simp; omega)]
      have p2 : putB (bitsN 0 k ++ bitsOf (l.take j)) y.toNat ((8 : Nat) : Int) = bitsN 0 k ++ bitsOf (l.take (j + 1)) := by
        unfold putB; rw [p1, if_pos rfl, Int.toNat_natCast, take_snoc l j y hy, bitsOf_app, bitsN_byte, List.append_assoc]; simp [bitsOf]
      rw [p1, p2] at hput
      have HP1 : Hid (Calls Try.prog 9 #[.pointer (some ⟨c, 0, none⟩), .int .u64 (y.toNat : Int), .int .i64 8] wr fun e w' => e = .returned (.int .i64 0) ∧ Both (RowB 62 []) (RowB 62 []) w.heap.size w' b (bitsN 0 k ++ bitsOf l) c (bitsN 0 k ++ bitsOf (l.take (j + 1))) ∧ Below w.heap.size w w') := by
        refine hput.mono ?_
        rintro e w' ⟨rfl, hL⟩
        exact ⟨rfl, Both.second (rowB_kept 62 []) m6 d6 f6 g6 belj.size hL, hL.below belj g6 belj.size⟩
      have wy : IntKind.u64.wrap (y.toNat : Int) = (y.toNat : Int) := by rw [IntKind.wrap_u64]; omega
      clear hput m6 n6 d6 f6 g6 p1 p2 hjl hy
      go_wp2_with fail
      refine HP1.out.mono ?_
      rintro e w6 ⟨rfl, hB6, bel6⟩
      have HB6 : Hid (Both (RowB 62 []) (RowB 62 []) w.heap.size w6 b (bitsN 0 k ++ bitsOf l) c (bitsN 0 k ++ bitsOf (l.take (j + 1)))) := hB6
      clear HP1 hB6
      go_wp2
      go_roundw
      case rel => exact ⟨j + 1, by omega, by go_num, HB6.out, bel6⟩
      case measure => simp [intOf]; omega
    · obtain rfl : j = l.length := by omega
      rw [List.take_length] at hBj
      obtain ⟨A, hA⟩ : ∃ A, A = bitsN 0 k ++ bitsOf l := ⟨_, rfl⟩
      rw [← hA] at hBj
      have hAl : A.length = k + 8 * l.length := by rw [hA, List.length_append, bitsN_length, bitsOf_length]
      have HA : Hid (A = bitsN 0 k ++ bitsOf l ∧ A.length = k + 8 * l.length) := ⟨hA, hAl⟩
      obtain ⟨F6, G6, m6, n6, d6, f6, g6⟩ := hBj
      have HB6 : Hid (Both (RowB 62 []) (RowB 62 []) w.heap.size wr b A c A) := ⟨F6, G6, m6, n6, d6, f6, g6⟩
      have hdone := wdone_ok wr b A F6 m6 (by omega)
      clear m6 n6 d6 f6 g6 hA hAl
      go_wp2_with fail
      refine hdone.mono ?_
      rintro e w6 ⟨d, cd, r, hr, rfl, hs6, hb6⟩
      have HB7 : Hid (Both (RowB 62 []) (RowB 62 []) w.heap.size w6 b A c A) := Both.below (rowB_kept 62 []) (rowB_kept 62 []) HB6.out hb6
      have bel6 := belj.trans (hb6.mono belj.size)
      have hrl : r.length = (k + 8 * l.length + 7) / 8 := by rw [hr.out, packL_length, HA.out.2]
      have hnr := rdnew_ok w6 d cd r hs6 (by omega)
      have HRL : Hid (r.length = (k + 8 * l.length + 7) / 8) := hrl
      clear hdone HB6 hs6 hb6 hrl
      go_wp2_with fail
      refine hnr.mono ?_
      rintro e w7 ⟨g, G, rfl, hR7, hb7, hG7⟩
      have hrl := HRL.out
      have hget := rdget_ok r w7 g 0 G hR7 (by omega) (k : Int) (by omega)
      have e1 : getP (8 * r.length - 0) (k : Int) = 0 := by unfold getP; rw [if_neg (by omega), if_neg (by omega)]
      have e3 : getAt r 0 (k : Int) = k := by unfold getAt; rw [e1, if_pos rfl, Int.toNat_natCast, Nat.zero_add]
      rw [e1, e3] at hget
      have HGT : Hid (Calls Try.prog 18 #[.pointer (some ⟨g, 0, none⟩), .int .i64 (k : Int)] w7 fun e w' => (∃ v, e = .returned (.tuple #[.int .u64 v, .int .i64 0])) ∧ (∃ G, RdM r w' g k G ∧ ∀ i, G i → w6.heap.size ≤ i) ∧ Below w6.heap.size w6 w') := by
        refine hget.mono ?_
        rintro e w' ⟨rfl, hL⟩
        refine ⟨⟨_, rfl⟩, ?_, hL.below hb7 hG7 hb7.size⟩
        obtain ⟨G8, hM8, _, hG8⟩ := hL
        exact ⟨G8, hM8, fun i hi => by
          rcases hG8 i hi with h | h
          · exact hG7 i h
          · have := hb7.size; omega⟩
      clear hnr hget e1 e3 hR7 hG7 hb7 hrl
      go_wp2_with fail
      refine HGT.out.mono ?_
      rintro e w8 ⟨⟨v8, rfl⟩, ⟨G8, hR8, hG8⟩, hb8⟩
      have hrl := HRL.out
      have htk := rdtake_ok r w8 g k G8 hR8 (by omega) ((l.length : Nat) : Int) (by omega)
      have t1 : takeP (8 * r.length - k) ((l.length : Nat) : Int) = 0 := by unfold takeP; rw [if_neg (by omega), if_neg (by omega)]
      have t2 : takeL r k ((l.length : Nat) : Int) = l := by unfold takeL; rw [t1, if_pos rfl, Int.toNat_natCast, hr.out, HA.out.1, bytes_back, packL_bytes]
      rw [t1, t2] at htk
      have HTK : Hid (Calls Try.prog 20 #[.pointer (some ⟨g, 0, none⟩), .int .i64 (l.length : Int)] w8 fun e w' => ∃ d cd, e = .returned (.tuple #[.slice d l.length cd, .int .i64 0]) ∧ Sees w' d cd l ∧ Below w6.heap.size w6 w') := by
        refine htk.mono ?_
        rintro e w' ⟨d, cd, r', hr', rfl, hs', hL⟩
        obtain rfl : r' = l := hr'.out
        exact ⟨d, cd, rfl, hs', hL.below hb8 hG8 hb8.size⟩
      clear HGT htk t1 t2 hR8 hG8 hb8 hrl
      go_wp2_with fail
      refine HTK.out.mono ?_
      rintro e w9 ⟨dx, cx, rfl, hs9, hb9⟩
      have bel9 := bel6.trans (hb9.mono bel6.size)
      have HB9 : Hid (Both (RowB 62 []) (RowB 62 []) w.heap.size w9 b A c A) := Both.below (rowB_kept 62 []) (rowB_kept 62 []) HB7.out hb9
      clear HTK HB7 hb9 hr HRL
      have HSK : Hid (∀ w', Below w9.heap.size w9 w' → (Go.convert 36 9 (.slice dx l.length cx)).run Try.prog w' = .ok (.string ⟨l.toArray⟩) w' ∧ (Go.convert 36 9 (.slice a l.length ca)).run Try.prog w' = .ok (.string ⟨l.toArray⟩) w') := fun w' hb' =>
        ⟨(hs9.below hb').convert (P := Try.prog) 36 5 9 Try.underlying36 Try.underlying5 Try.underlying9, (HS.out.below (bel9.trans (hb'.mono bel9.size))).convert (P := Try.prog) 36 5 9 Try.underlying36 Try.underlying5 Try.underlying9⟩
      obtain ⟨F9, G9, m9, n9, d9, f9, g9⟩ := HB9.out
      have hAm : A.length ≤ 8192 := by have := HA.out.2; omega
      obtain ⟨N, hN⟩ : ∃ N, N = k + 8 * l.length := ⟨_, rfl⟩
      have HAL : Hid (A.length = N) := by rw [hN]; exact HA.out.2
      have kl : (k : Int) + 8 * (l.length : Int) = (N : Int) := by omega
      have kl2 : IntKind.i64.wrap ((k : Int) + 8 * (l.length : Int)) = (N : Int) := by rw [IntKind.wrap_i64]; omega
      have kl3 : IntKind.i64.wrap (8 * (l.length : Int)) = 8 * (l.length : Int) := by rw [IntKind.wrap_i64]; omega
      have wN : IntKind.i64.wrap (N : Int) = (N : Int) := by rw [IntKind.wrap_i64]; omega
      clear hN
      have HD1 : Hid (Calls Try.prog 14 #[.pointer (some ⟨b, 0, none⟩)] w9.drew fun e w' => ∃ d cd r, Hid (r = packL A) ∧ e = .returned (.slice d r.length cd) ∧ Sees w' d cd r ∧ Below w9.heap.size w9 w') := by
        refine (wdone_ok w9.drew b A F9 ((rowB_kept 62 []).keep m9 (fun _ _ => rfl)) hAm).mono ?_
        rintro e w' ⟨d, cd, r, h1, h2, h3, hb⟩
        exact ⟨d, cd, r, h1, h2, h3, ⟨hb.os, hb.tape, hb.output, hb.size, hb.block⟩⟩
      have HM9 : Hid (RowB 62 [] w9 b A F9) := m9
      have HN9 : Hid (RowB 62 [] w9 c A G9) := n9
      clear HB9 HA m9 n9 d9 f9 g9 hs9
      go_wp2
      refine wp_region_noPanic ?_
      refine wp_region_held (S := fun w' => (Go.convert 36 9 (.slice dx l.length cx)).run Try.prog w' = .ok (.string ⟨l.toArray⟩) w' ∧ (Go.convert 36 9 (.slice a l.length ca)).run Try.prog w' = .ok (.string ⟨l.toArray⟩) w') (by kernel_rfl) ?_
      have hS := HSK.out w9.drew ((Below.refl _ _).drew)
      refine any_take 0 ?vr18n1 rfl (by kernel_rfl) (by kernel_rfl) (by kernel_rfl) (fun _ _ _ h => h) (by rfl) ?hr18n1 hS ?_
      case hr18n1 => (intro w hSw; (try dsimp only at hSw); go_split_ands; go_simp; (try with_reducible rfl))
      (try simp only [Act.put, List.setIfInBounds_toArray, List.set_cons_zero, List.set_cons_succ])
      refine any_take 3 ?vr18n2 rfl (by kernel_rfl) (by kernel_rfl) (by kernel_rfl) (fun _ _ _ h => h) (by rfl) ?hr18n2 hS ?_
      case hr18n2 => (intro w hSw; (try dsimp only at hSw); go_split_ands; go_simp; (try with_reducible rfl))
      (try simp only [Act.put, List.setIfInBounds_toArray, List.set_cons_zero, List.set_cons_succ])
      refine any_one 1 rfl (by kernel_rfl) (by rfl) (fun K hK => ?_)
      clear hS
      go_simp
      refine HD1.out.mono ?_
      rintro e w10 ⟨d10, c10, r10, hr10, rfl, hs10, hb10⟩
      have e1 := hs10.convert (P := Try.prog) 36 5 9 Try.underlying36 Try.underlying5 Try.underlying9
      have HD4 : Hid (Calls Try.prog 14 #[.pointer (some ⟨c, 0, none⟩)] w10 fun e w' => ∃ d cd r, Hid (r = packL A) ∧ e = .returned (.slice d r.length cd) ∧ Sees w' d cd r ∧ Below w10.heap.size w10 w') := wdone_ok w10 c A G9 ((rowB_kept 62 []).below HN9.out hb10) hAm
      clear HD1
      refine hK.out _ _ (HSK.out _ hb10) (fun hS => ?_)
      clear hK
      (try simp only [Act.put, List.setIfInBounds_toArray, List.set_cons_zero, List.set_cons_succ])
      refine any_two 2 4 rfl rfl (by kernel_rfl) (by rfl) (by rfl) (fun K hK => ?_) (fun K hK => ?_)
      · clear hS
        go_simp
        refine hK.out _ _ (by first | exact HSK.out _ bel11 | exact HSK.out _ hb10) (fun hS => ?_)
        clear hK
        (try simp only [Act.put, List.setIfInBounds_toArray, List.set_cons_zero, List.set_cons_succ])
        refine any_one 4 rfl (by kernel_rfl) (by rfl) (fun K hK => ?_)
        clear hS
        go_simp
        refine HD4.out.mono ?_
        rintro e w11 ⟨d11, c11, r11, hr11, rfl, hs11, hb11⟩
        have bel11 : Below w9.heap.size w9 w11 := hb10.trans (hb11.mono hb10.size)
        have hrr : r11 = r10 := by rw [hr11.out, hr10.out]
        subst hrr
        have e1' := (hs10.below hb11).convert (P := Try.prog) 36 5 9 Try.underlying36 Try.underlying5 Try.underlying9
        have e2' := hs11.convert (P := Try.prog) 36 5 9 Try.underlying36 Try.underlying5 Try.underlying9
        have HLN : Calls Try.prog 13 #[.pointer (some ⟨b, 0, none⟩)] w11 fun e w' => e = .returned (.int .i64 (N : Int)) ∧ Below w11.heap.size w11 w' := by
          have h1 := wlen_ok w11 b A F9 ((rowB_kept 62 []).below HM9.out bel11)
          rw [HAL.out] at h1
          exact h1
        clear HD4
        refine hK.out _ _ (HSK.out _ bel11) (fun hS => ?_)
        clear hK
        (try simp only [Act.put, List.setIfInBounds_toArray, List.set_cons_zero, List.set_cons_succ])
        refine any_one 5 rfl (by kernel_rfl) (by rfl) (fun K hK => ?_)
        clear hS
        go_simp
        refine hK.out _ _ (HSK.out _ bel11) (fun hS => ?_)
        clear hK
        (try simp only [Act.put, List.setIfInBounds_toArray, List.set_cons_zero, List.set_cons_succ])
        refine any_take 6 ?vr18n3 rfl (by kernel_rfl) (by kernel_rfl) (by kernel_rfl) (fun _ _ _ h => h) (by rfl) ?hr18n3 hS ?_
        case hr18n3 => (intro w hSw; (try dsimp only at hSw); go_split_ands; go_simp; (try with_reducible rfl))
        (try simp only [Act.put, List.setIfInBounds_toArray, List.set_cons_zero, List.set_cons_succ])
        refine any_take 7 ?vr18n4 rfl (by kernel_rfl) (by kernel_rfl) (by kernel_rfl) (fun _ _ _ h => h) (by rfl) ?hr18n4 hS ?_
        case hr18n4 => (intro w hSw; (try dsimp only at hSw); go_split_ands; go_simp; (try with_reducible rfl))
        (try simp only [Act.put, List.setIfInBounds_toArray, List.set_cons_zero, List.set_cons_succ])
        refine any_take 8 ?vr18n5 rfl (by kernel_rfl) (by kernel_rfl) (by kernel_rfl) (fun _ _ _ h => h) (by rfl) ?hr18n5 hS ?_
        case hr18n5 => (intro w hSw; (try dsimp only at hSw); go_split_ands; go_simp; (try with_reducible rfl))
        (try simp only [Act.put, List.setIfInBounds_toArray, List.set_cons_zero, List.set_cons_succ])
        refine any_take 10 ?vr18n6 rfl (by kernel_rfl) (by kernel_rfl) (by kernel_rfl) (fun _ _ _ h => h) (by rfl) ?hr18n6 hS ?_
        case hr18n6 => (intro w hSw; (try dsimp only at hSw); go_split_ands; go_simp; (try with_reducible rfl))
        (try simp only [Act.put, List.setIfInBounds_toArray, List.set_cons_zero, List.set_cons_succ])
        refine any_take 11 ?vr18n7 rfl (by kernel_rfl) (by kernel_rfl) (by kernel_rfl) (fun _ _ _ h => h) (by rfl) ?hr18n7 hS ?_
        case hr18n7 => (intro w hSw; (try dsimp only at hSw); go_split_ands; go_simp; (try with_reducible rfl))
        (try simp only [Act.put, List.setIfInBounds_toArray, List.set_cons_zero, List.set_cons_succ])
        refine any_take 12 ?vr18n8 rfl (by kernel_rfl) (by kernel_rfl) (by kernel_rfl) (fun _ _ _ h => h) (by rfl) ?hr18n8 hS ?_
        case hr18n8 => (intro w hSw; (try dsimp only at hSw); go_split_ands; go_simp; (try with_reducible rfl))
        (try simp only [Act.put, List.setIfInBounds_toArray, List.set_cons_zero, List.set_cons_succ])
        refine any_take 13 ?vr18n9 rfl (by kernel_rfl) (by kernel_rfl) (by kernel_rfl) (fun _ _ _ h => h) (by rfl) ?hr18n9 hS ?_
        case hr18n9 => (intro w hSw; (try dsimp only at hSw); go_split_ands; go_simp; (try with_reducible rfl))
        (try simp only [Act.put, List.setIfInBounds_toArray, List.set_cons_zero, List.set_cons_succ])
        refine any_take 14 ?vr18n10 rfl (by kernel_rfl) (by kernel_rfl) (by kernel_rfl) (fun _ _ _ h => h) (by rfl) ?hr18n10 hS ?_
        case hr18n10 => (intro w hSw; (try dsimp only at hSw); go_split_ands; go_simp; (try with_reducible rfl))
        (try simp only [Act.put, List.setIfInBounds_toArray, List.set_cons_zero, List.set_cons_succ])
        refine any_one 9 rfl (by kernel_rfl) (by rfl) (fun K hK => ?_)
        clear hS
        go_simp
        refine HLN.mono ?_
        rintro e w12 ⟨rfl, hb12⟩
        have bel12 := bel11.trans (hb12.mono bel11.size)
        have HA12 := HAW w12
        clear HLN
        refine hK.out _ _ (HSK.out _ bel12) (fun hS => ?_)
        clear hK
        (try simp only [Act.put, List.setIfInBounds_toArray, List.set_cons_zero, List.set_cons_succ])
        refine any_take 15 ?vr18n11 rfl (by kernel_rfl) (by kernel_rfl) (by kernel_rfl) (fun _ _ _ h => h) (by rfl) ?hr18n11 hS ?_
        case hr18n11 => (intro w hSw; (try dsimp only at hSw); go_split_ands; go_simp; (try with_reducible rfl))
        (try simp only [Act.put, List.setIfInBounds_toArray, List.set_cons_zero, List.set_cons_succ])
        refine any_take 16 ?vr18n12 rfl (by kernel_rfl) (by kernel_rfl) (by kernel_rfl) (fun _ _ _ h => h) (by rfl) ?hr18n12 hS ?_
        case hr18n12 => (intro w hSw; (try dsimp only at hSw); go_split_ands; go_simp; (try with_reducible rfl))
        (try simp only [Act.put, List.setIfInBounds_toArray, List.set_cons_zero, List.set_cons_succ])
        refine any_take 17 ?vr18n13 rfl (by kernel_rfl) (by kernel_rfl) (by kernel_rfl) (fun _ _ _ h => h) (by rfl) ?hr18n13 hS ?_
        case hr18n13 => (intro w hSw; (try dsimp only at hSw); go_split_ands; go_simp; (try with_reducible rfl))
        (try simp only [Act.put, List.setIfInBounds_toArray, List.set_cons_zero, List.set_cons_succ])
        refine any_take 18 ?vr18n14 rfl (by kernel_rfl) (by kernel_rfl) (by kernel_rfl) (fun _ _ _ h => h) (by rfl) ?hr18n14 hS ?_
        case hr18n14 => (intro w hSw; (try dsimp only at hSw); go_split_ands; go_simp; (try with_reducible rfl))
        (try simp only [Act.put, List.setIfInBounds_toArray, List.set_cons_zero, List.set_cons_succ])
        refine any_take 19 ?vr18n15 rfl (by kernel_rfl) (by kernel_rfl) (by kernel_rfl) (fun _ _ _ h => h) (by rfl) ?hr18n15 hS ?_
        case hr18n15 => (intro w hSw; (try dsimp only at hSw); go_split_ands; go_simp; (try with_reducible rfl))
        (try simp only [Act.put, List.setIfInBounds_toArray, List.set_cons_zero, List.set_cons_succ])
        refine any_take 20 ?vr18n16 rfl (by kernel_rfl) (by kernel_rfl) (by kernel_rfl) (fun _ _ _ h => h) (by rfl) ?hr18n16 hS ?_
        case hr18n16 => (intro w hSw; (try dsimp only at hSw); go_split_ands; go_simp; (try with_reducible rfl))
        (try simp only [Act.put, List.setIfInBounds_toArray, List.set_cons_zero, List.set_cons_succ])
        refine any_take 21 ?vr18n17 rfl (by kernel_rfl) (by kernel_rfl) (by kernel_rfl) (fun _ _ _ h => h) (by rfl) ?hr18n17 hS ?_
        case hr18n17 => (intro w hSw; (try dsimp only at hSw); go_split_ands; go_simp; (try with_reducible rfl))
        (try simp only [Act.put, List.setIfInBounds_toArray, List.set_cons_zero, List.set_cons_succ])
        refine any_take 22 ?vr18n18 rfl (by kernel_rfl) (by kernel_rfl) (by kernel_rfl) (fun _ _ _ h => h) (by rfl) ?hr18n18 hS ?_
        case hr18n18 => (intro w hSw; (try dsimp only at hSw); go_split_ands; go_simp; (try with_reducible rfl))
        (try simp only [Act.put, List.setIfInBounds_toArray, List.set_cons_zero, List.set_cons_succ])
        refine any_take 23 ?vr18n19 rfl (by kernel_rfl) (by kernel_rfl) (by kernel_rfl) (fun _ _ _ h => h) (by rfl) ?hr18n19 hS ?_
        case hr18n19 => (intro w hSw; (try dsimp only at hSw); go_split_ands; go_simp; (try with_reducible rfl))
        (try simp only [Act.put, List.setIfInBounds_toArray, List.set_cons_zero, List.set_cons_succ])
        refine any_take 24 ?vr18n20 rfl (by kernel_rfl) (by kernel_rfl) (by kernel_rfl) (fun _ _ _ h => h) (by rfl) ?hr18n20 hS ?_
        case hr18n20 => (intro w hSw; (try dsimp only at hSw); go_split_ands; go_simp; (try with_reducible rfl))
        (try simp only [Act.put, List.setIfInBounds_toArray, List.set_cons_zero, List.set_cons_succ])
        refine any_take 25 ?vr18n21 rfl (by kernel_rfl) (by kernel_rfl) (by kernel_rfl) (fun _ _ _ h => h) (by rfl) ?hr18n21 hS ?_
        case hr18n21 => (intro w hSw; (try dsimp only at hSw); go_split_ands; go_simp; (try with_reducible rfl))
        (try simp only [Act.put, List.setIfInBounds_toArray, List.set_cons_zero, List.set_cons_succ])
        refine any_take 26 ?vr18n22 rfl (by kernel_rfl) (by kernel_rfl) (by kernel_rfl) (fun _ _ _ h => h) (by rfl) ?hr18n22 hS ?_
        case hr18n22 => (intro w hSw; (try dsimp only at hSw); go_split_ands; go_simp; (try with_reducible rfl))
        (try simp only [Act.put, List.setIfInBounds_toArray, List.set_cons_zero, List.set_cons_succ])
        refine any_take 27 ?vr18n23 rfl (by kernel_rfl) (by kernel_rfl) (by kernel_rfl) (fun _ _ _ h => h) (by rfl) ?hr18n23 hS ?_
        case hr18n23 => (intro w hSw; (try dsimp only at hSw); go_split_ands; go_simp; (try with_reducible rfl))
        (try simp only [Act.put, List.setIfInBounds_toArray, List.set_cons_zero, List.set_cons_succ])
        refine any_take 28 ?vr18n24 rfl (by kernel_rfl) (by kernel_rfl) (by kernel_rfl) (fun _ _ _ h => h) (by rfl) ?hr18n24 hS ?_
        case hr18n24 => (intro w hSw; (try dsimp only at hSw); go_split_ands; go_simp; (try with_reducible rfl))
        (try simp only [Act.put, List.setIfInBounds_toArray, List.set_cons_zero, List.set_cons_succ])
        refine any_one 29 rfl (by kernel_rfl) (by rfl) (fun K hK => ?_)
        clear hS
        go_simp
        refine HA12.mono ?_
        rintro e w13 ⟨rfl, hb13⟩
        have bel13 := bel12.trans (hb13.mono bel12.size)
        refine hK.out _ _ (HSK.out _ bel13) (fun hS => ?_)
        clear hK
        (try simp only [Act.put, List.setIfInBounds_toArray, List.set_cons_zero, List.set_cons_succ])
        refine any_take 30 ?vr18n25 rfl (by kernel_rfl) (by kernel_rfl) (by kernel_rfl) (fun _ _ _ h => h) (by rfl) ?hr18n25 hS ?_
        case hr18n25 => (intro w hSw; (try dsimp only at hSw); go_split_ands; go_simp; (try with_reducible rfl))
        (try simp only [Act.put, List.setIfInBounds_toArray, List.set_cons_zero, List.set_cons_succ])
        refine any_take 31 ?vr18n26 rfl (by kernel_rfl) (by kernel_rfl) (by kernel_rfl) (fun _ _ _ h => h) (by rfl) ?hr18n26 hS ?_
        case hr18n26 => (intro w hSw; (try dsimp only at hSw); go_split_ands; go_simp; (try with_reducible rfl))
        (try simp only [Act.put, List.setIfInBounds_toArray, List.set_cons_zero, List.set_cons_succ])
        refine wpAnyH_done (by kernel_rfl) ?_ _
        refine NoPanic.normal ?_
        go_wp2
        go_ret
        exact ⟨rfl, bel9.trans (bel13.mono bel9.size)⟩
      · clear hS
        go_simp
        refine HD4.out.mono ?_
        rintro e w11 ⟨d11, c11, r11, hr11, rfl, hs11, hb11⟩
        have bel11 : Below w9.heap.size w9 w11 := hb10.trans (hb11.mono hb10.size)
        have hrr : r11 = r10 := by rw [hr11.out, hr10.out]
        subst hrr
        have e1' := (hs10.below hb11).convert (P := Try.prog) 36 5 9 Try.underlying36 Try.underlying5 Try.underlying9
        have e2' := hs11.convert (P := Try.prog) 36 5 9 Try.underlying36 Try.underlying5 Try.underlying9
        have HLN : Calls Try.prog 13 #[.pointer (some ⟨b, 0, none⟩)] w11 fun e w' => e = .returned (.int .i64 (N : Int)) ∧ Below w11.heap.size w11 w' := by
          have h1 := wlen_ok w11 b A F9 ((rowB_kept 62 []).below HM9.out bel11)
          rw [HAL.out] at h1
          exact h1
        clear HD4
        refine hK.out _ _ (HSK.out _ bel11) (fun hS => ?_)
        clear hK
        (try simp only [Act.put, List.setIfInBounds_toArray, List.set_cons_zero, List.set_cons_succ])
        refine any_two 2 5 rfl rfl (by kernel_rfl) (by rfl) (by rfl) (fun K hK => ?_) (fun K hK => ?_)
        · clear hS
          go_simp
          refine hK.out _ _ (by first | exact HSK.out _ bel11 | exact HSK.out _ hb10) (fun hS => ?_)
          clear hK
          (try simp only [Act.put, List.setIfInBounds_toArray, List.set_cons_zero, List.set_cons_succ])
          refine any_one 5 rfl (by kernel_rfl) (by rfl) (fun K hK => ?_)
          clear hS
          go_simp
          refine hK.out _ _ (HSK.out _ bel11) (fun hS => ?_)
          clear hK
          (try simp only [Act.put, List.setIfInBounds_toArray, List.set_cons_zero, List.set_cons_succ])
          refine any_take 6 ?vr18n27 rfl (by kernel_rfl) (by kernel_rfl) (by kernel_rfl) (fun _ _ _ h => h) (by rfl) ?hr18n27 hS ?_
          case hr18n27 => (intro w hSw; (try dsimp only at hSw); go_split_ands; go_simp; (try with_reducible rfl))
          (try simp only [Act.put, List.setIfInBounds_toArray, List.set_cons_zero, List.set_cons_succ])
          refine any_take 7 ?vr18n28 rfl (by kernel_rfl) (by kernel_rfl) (by kernel_rfl) (fun _ _ _ h => h) (by rfl) ?hr18n28 hS ?_
          case hr18n28 => (intro w hSw; (try dsimp only at hSw); go_split_ands; go_simp; (try with_reducible rfl))
          (try simp only [Act.put, List.setIfInBounds_toArray, List.set_cons_zero, List.set_cons_succ])
          refine any_take 8 ?vr18n29 rfl (by kernel_rfl) (by kernel_rfl) (by kernel_rfl) (fun _ _ _ h => h) (by rfl) ?hr18n29 hS ?_
          case hr18n29 => (intro w hSw; (try dsimp only at hSw); go_split_ands; go_simp; (try with_reducible rfl))
          (try simp only [Act.put, List.setIfInBounds_toArray, List.set_cons_zero, List.set_cons_succ])
          refine any_take 10 ?vr18n30 rfl (by kernel_rfl) (by kernel_rfl) (by kernel_rfl) (fun _ _ _ h => h) (by rfl) ?hr18n30 hS ?_
          case hr18n30 => (intro w hSw; (try dsimp only at hSw); go_split_ands; go_simp; (try with_reducible rfl))
          (try simp only [Act.put, List.setIfInBounds_toArray, List.set_cons_zero, List.set_cons_succ])
          refine any_take 11 ?vr18n31 rfl (by kernel_rfl) (by kernel_rfl) (by kernel_rfl) (fun _ _ _ h => h) (by rfl) ?hr18n31 hS ?_
          case hr18n31 => (intro w hSw; (try dsimp only at hSw); go_split_ands; go_simp; (try with_reducible rfl))
          (try simp only [Act.put, List.setIfInBounds_toArray, List.set_cons_zero, List.set_cons_succ])
          refine any_take 12 ?vr18n32 rfl (by kernel_rfl) (by kernel_rfl) (by kernel_rfl) (fun _ _ _ h => h) (by rfl) ?hr18n32 hS ?_
          case hr18n32 => (intro w hSw; (try dsimp only at hSw); go_split_ands; go_simp; (try with_reducible rfl))
          (try simp only [Act.put, List.setIfInBounds_toArray, List.set_cons_zero, List.set_cons_succ])
          refine any_take 13 ?vr18n33 rfl (by kernel_rfl) (by kernel_rfl) (by kernel_rfl) (fun _ _ _ h => h) (by rfl) ?hr18n33 hS ?_
          case hr18n33 => (intro w hSw; (try dsimp only at hSw); go_split_ands; go_simp; (try with_reducible rfl))
          (try simp only [Act.put, List.setIfInBounds_toArray, List.set_cons_zero, List.set_cons_succ])
          refine any_take 14 ?vr18n34 rfl (by kernel_rfl) (by kernel_rfl) (by kernel_rfl) (fun _ _ _ h => h) (by rfl) ?hr18n34 hS ?_
          case hr18n34 => (intro w hSw; (try dsimp only at hSw); go_split_ands; go_simp; (try with_reducible rfl))
          (try simp only [Act.put, List.setIfInBounds_toArray, List.set_cons_zero, List.set_cons_succ])
          refine any_one 9 rfl (by kernel_rfl) (by rfl) (fun K hK => ?_)
          clear hS
          go_simp
          refine HLN.mono ?_
          rintro e w12 ⟨rfl, hb12⟩
          have bel12 := bel11.trans (hb12.mono bel11.size)
          have HA12 := HAW w12
          clear HLN
          refine hK.out _ _ (HSK.out _ bel12) (fun hS => ?_)
          clear hK
          (try simp only [Act.put, List.setIfInBounds_toArray, List.set_cons_zero, List.set_cons_succ])
          refine any_take 15 ?vr18n35 rfl (by kernel_rfl) (by kernel_rfl) (by kernel_rfl) (fun _ _ _ h => h) (by rfl) ?hr18n35 hS ?_
          case hr18n35 => (intro w hSw; (try dsimp only at hSw); go_split_ands; go_simp; (try with_reducible rfl))
          (try simp only [Act.put, List.setIfInBounds_toArray, List.set_cons_zero, List.set_cons_succ])
          refine any_take 16 ?vr18n36 rfl (by kernel_rfl) (by kernel_rfl) (by kernel_rfl) (fun _ _ _ h => h) (by rfl) ?hr18n36 hS ?_
          case hr18n36 => (intro w hSw; (try dsimp only at hSw); go_split_ands; go_simp; (try with_reducible rfl))
          (try simp only [Act.put, List.setIfInBounds_toArray, List.set_cons_zero, List.set_cons_succ])
          refine any_take 17 ?vr18n37 rfl (by kernel_rfl) (by kernel_rfl) (by kernel_rfl) (fun _ _ _ h => h) (by rfl) ?hr18n37 hS ?_
          case hr18n37 => (intro w hSw; (try dsimp only at hSw); go_split_ands; go_simp; (try with_reducible rfl))
          (try simp only [Act.put, List.setIfInBounds_toArray, List.set_cons_zero, List.set_cons_succ])
          refine any_take 18 ?vr18n38 rfl (by kernel_rfl) (by kernel_rfl) (by kernel_rfl) (fun _ _ _ h => h) (by rfl) ?hr18n38 hS ?_
          case hr18n38 => (intro w hSw; (try dsimp only at hSw); go_split_ands; go_simp; (try with_reducible rfl))
          (try simp only [Act.put, List.setIfInBounds_toArray, List.set_cons_zero, List.set_cons_succ])
          refine any_take 19 ?vr18n39 rfl (by kernel_rfl) (by kernel_rfl) (by kernel_rfl) (fun _ _ _ h => h) (by rfl) ?hr18n39 hS ?_
          case hr18n39 => (intro w hSw; (try dsimp only at hSw); go_split_ands; go_simp; (try with_reducible rfl))
          (try simp only [Act.put, List.setIfInBounds_toArray, List.set_cons_zero, List.set_cons_succ])
          refine any_take 20 ?vr18n40 rfl (by kernel_rfl) (by kernel_rfl) (by kernel_rfl) (fun _ _ _ h => h) (by rfl) ?hr18n40 hS ?_
          case hr18n40 => (intro w hSw; (try dsimp only at hSw); go_split_ands; go_simp; (try with_reducible rfl))
          (try simp only [Act.put, List.setIfInBounds_toArray, List.set_cons_zero, List.set_cons_succ])
          refine any_take 21 ?vr18n41 rfl (by kernel_rfl) (by kernel_rfl) (by kernel_rfl) (fun _ _ _ h => h) (by rfl) ?hr18n41 hS ?_
          case hr18n41 => (intro w hSw; (try dsimp only at hSw); go_split_ands; go_simp; (try with_reducible rfl))
          (try simp only [Act.put, List.setIfInBounds_toArray, List.set_cons_zero, List.set_cons_succ])
          refine any_take 22 ?vr18n42 rfl (by kernel_rfl) (by kernel_rfl) (by kernel_rfl) (fun _ _ _ h => h) (by rfl) ?hr18n42 hS ?_
          case hr18n42 => (intro w hSw; (try dsimp only at hSw); go_split_ands; go_simp; (try with_reducible rfl))
          (try simp only [Act.put, List.setIfInBounds_toArray, List.set_cons_zero, List.set_cons_succ])
          refine any_take 23 ?vr18n43 rfl (by kernel_rfl) (by kernel_rfl) (by kernel_rfl) (fun _ _ _ h => h) (by rfl) ?hr18n43 hS ?_
          case hr18n43 => (intro w hSw; (try dsimp only at hSw); go_split_ands; go_simp; (try with_reducible rfl))
          (try simp only [Act.put, List.setIfInBounds_toArray, List.set_cons_zero, List.set_cons_succ])
          refine any_take 24 ?vr18n44 rfl (by kernel_rfl) (by kernel_rfl) (by kernel_rfl) (fun _ _ _ h => h) (by rfl) ?hr18n44 hS ?_
          case hr18n44 => (intro w hSw; (try dsimp only at hSw); go_split_ands; go_simp; (try with_reducible rfl))
          (try simp only [Act.put, List.setIfInBounds_toArray, List.set_cons_zero, List.set_cons_succ])
          refine any_take 25 ?vr18n45 rfl (by kernel_rfl) (by kernel_rfl) (by kernel_rfl) (fun _ _ _ h => h) (by rfl) ?hr18n45 hS ?_
          case hr18n45 => (intro w hSw; (try dsimp only at hSw); go_split_ands; go_simp; (try with_reducible rfl))
          (try simp only [Act.put, List.setIfInBounds_toArray, List.set_cons_zero, List.set_cons_succ])
          refine any_take 26 ?vr18n46 rfl (by kernel_rfl) (by kernel_rfl) (by kernel_rfl) (fun _ _ _ h => h) (by rfl) ?hr18n46 hS ?_
          case hr18n46 => (intro w hSw; (try dsimp only at hSw); go_split_ands; go_simp; (try with_reducible rfl))
          (try simp only [Act.put, List.setIfInBounds_toArray, List.set_cons_zero, List.set_cons_succ])
          refine any_take 27 ?vr18n47 rfl (by kernel_rfl) (by kernel_rfl) (by kernel_rfl) (fun _ _ _ h => h) (by rfl) ?hr18n47 hS ?_
          case hr18n47 => (intro w hSw; (try dsimp only at hSw); go_split_ands; go_simp; (try with_reducible rfl))
          (try simp only [Act.put, List.setIfInBounds_toArray, List.set_cons_zero, List.set_cons_succ])
          refine any_take 28 ?vr18n48 rfl (by kernel_rfl) (by kernel_rfl) (by kernel_rfl) (fun _ _ _ h => h) (by rfl) ?hr18n48 hS ?_
          case hr18n48 => (intro w hSw; (try dsimp only at hSw); go_split_ands; go_simp; (try with_reducible rfl))
          (try simp only [Act.put, List.setIfInBounds_toArray, List.set_cons_zero, List.set_cons_succ])
          refine any_one 29 rfl (by kernel_rfl) (by rfl) (fun K hK => ?_)
          clear hS
          go_simp
          refine HA12.mono ?_
          rintro e w13 ⟨rfl, hb13⟩
          have bel13 := bel12.trans (hb13.mono bel12.size)
          refine hK.out _ _ (HSK.out _ bel13) (fun hS => ?_)
          clear hK
          (try simp only [Act.put, List.setIfInBounds_toArray, List.set_cons_zero, List.set_cons_succ])
          refine any_take 30 ?vr18n49 rfl (by kernel_rfl) (by kernel_rfl) (by kernel_rfl) (fun _ _ _ h => h) (by rfl) ?hr18n49 hS ?_
          case hr18n49 => (intro w hSw; (try dsimp only at hSw); go_split_ands; go_simp; (try with_reducible rfl))
          (try simp only [Act.put, List.setIfInBounds_toArray, List.set_cons_zero, List.set_cons_succ])
          refine any_take 31 ?vr18n50 rfl (by kernel_rfl) (by kernel_rfl) (by kernel_rfl) (fun _ _ _ h => h) (by rfl) ?hr18n50 hS ?_
          case hr18n50 => (intro w hSw; (try dsimp only at hSw); go_split_ands; go_simp; (try with_reducible rfl))
          (try simp only [Act.put, List.setIfInBounds_toArray, List.set_cons_zero, List.set_cons_succ])
          refine wpAnyH_done (by kernel_rfl) ?_ _
          refine NoPanic.normal ?_
          go_wp2
          go_ret
          exact ⟨rfl, bel9.trans (bel13.mono bel9.size)⟩
        · clear hS
          go_simp
          refine hK.out _ _ (HSK.out _ bel11) (fun hS => ?_)
          clear hK
          (try simp only [Act.put, List.setIfInBounds_toArray, List.set_cons_zero, List.set_cons_succ])
          refine any_one 2 rfl (by kernel_rfl) (by rfl) (fun K hK => ?_)
          clear hS
          go_simp
          refine hK.out _ _ (by first | exact HSK.out _ bel11 | exact HSK.out _ hb10) (fun hS => ?_)
          clear hK
          (try simp only [Act.put, List.setIfInBounds_toArray, List.set_cons_zero, List.set_cons_succ])
          refine any_take 6 ?vr18n51 rfl (by kernel_rfl) (by kernel_rfl) (by kernel_rfl) (fun _ _ _ h => h) (by rfl) ?hr18n51 hS ?_
          case hr18n51 => (intro w hSw; (try dsimp only at hSw); go_split_ands; go_simp; (try with_reducible rfl))
          (try simp only [Act.put, List.setIfInBounds_toArray, List.set_cons_zero, List.set_cons_succ])
          refine any_take 7 ?vr18n52 rfl (by kernel_rfl) (by kernel_rfl) (by kernel_rfl) (fun _ _ _ h => h) (by rfl) ?hr18n52 hS ?_
          case hr18n52 => (intro w hSw; (try dsimp only at hSw); go_split_ands; go_simp; (try with_reducible rfl))
          (try simp only [Act.put, List.setIfInBounds_toArray, List.set_cons_zero, List.set_cons_succ])
          refine any_take 8 ?vr18n53 rfl (by kernel_rfl) (by kernel_rfl) (by kernel_rfl) (fun _ _ _ h => h) (by rfl) ?hr18n53 hS ?_
          case hr18n53 => (intro w hSw; (try dsimp only at hSw); go_split_ands; go_simp; (try with_reducible rfl))
          (try simp only [Act.put, List.setIfInBounds_toArray, List.set_cons_zero, List.set_cons_succ])
          refine any_take 10 ?vr18n54 rfl (by kernel_rfl) (by kernel_rfl) (by kernel_rfl) (fun _ _ _ h => h) (by rfl) ?hr18n54 hS ?_
          case hr18n54 => (intro w hSw; (try dsimp only at hSw); go_split_ands; go_simp; (try with_reducible rfl))
          (try simp only [Act.put, List.setIfInBounds_toArray, List.set_cons_zero, List.set_cons_succ])
          refine any_take 11 ?vr18n55 rfl (by kernel_rfl) (by kernel_rfl) (by kernel_rfl) (fun _ _ _ h => h) (by rfl) ?hr18n55 hS ?_
          case hr18n55 => (intro w hSw; (try dsimp only at hSw); go_split_ands; go_simp; (try with_reducible rfl))
          (try simp only [Act.put, List.setIfInBounds_toArray, List.set_cons_zero, List.set_cons_succ])
          refine any_take 12 ?vr18n56 rfl (by kernel_rfl) (by kernel_rfl) (by kernel_rfl) (fun _ _ _ h => h) (by rfl) ?hr18n56 hS ?_
          case hr18n56 => (intro w hSw; (try dsimp only at hSw); go_split_ands; go_simp; (try with_reducible rfl))
          (try simp only [Act.put, List.setIfInBounds_toArray, List.set_cons_zero, List.set_cons_succ])
          refine any_take 13 ?vr18n57 rfl (by kernel_rfl) (by kernel_rfl) (by kernel_rfl) (fun _ _ _ h => h) (by rfl) ?hr18n57 hS ?_
          case hr18n57 => (intro w hSw; (try dsimp only at hSw); go_split_ands; go_simp; (try with_reducible rfl))
          (try simp only [Act.put, List.setIfInBounds_toArray, List.set_cons_zero, List.set_cons_succ])
          refine any_take 14 ?vr18n58 rfl (by kernel_rfl) (by kernel_rfl) (by kernel_rfl) (fun _ _ _ h => h) (by rfl) ?hr18n58 hS ?_
          case hr18n58 => (intro w hSw; (try dsimp only at hSw); go_split_ands; go_simp; (try with_reducible rfl))
          (try simp only [Act.put, List.setIfInBounds_toArray, List.set_cons_zero, List.set_cons_succ])
          refine any_one 9 rfl (by kernel_rfl) (by rfl) (fun K hK => ?_)
          clear hS
          go_simp
          refine HLN.mono ?_
          rintro e w12 ⟨rfl, hb12⟩
          have bel12 := bel11.trans (hb12.mono bel11.size)
          have HA12 := HAW w12
          clear HLN
          refine hK.out _ _ (HSK.out _ bel12) (fun hS => ?_)
          clear hK
          (try simp only [Act.put, List.setIfInBounds_toArray, List.set_cons_zero, List.set_cons_succ])
          refine any_take 15 ?vr18n59 rfl (by kernel_rfl) (by kernel_rfl) (by kernel_rfl) (fun _ _ _ h => h) (by rfl) ?hr18n59 hS ?_
          case hr18n59 => (intro w hSw; (try dsimp only at hSw); go_split_ands; go_simp; (try with_reducible rfl))
          (try simp only [Act.put, List.setIfInBounds_toArray, List.set_cons_zero, List.set_cons_succ])
          refine any_take 16 ?vr18n60 rfl (by kernel_rfl) (by kernel_rfl) (by kernel_rfl) (fun _ _ _ h => h) (by rfl) ?hr18n60 hS ?_
          case hr18n60 => (intro w hSw; (try dsimp only at hSw); go_split_ands; go_simp; (try with_reducible rfl))
          (try simp only [Act.put, List.setIfInBounds_toArray, List.set_cons_zero, List.set_cons_succ])
          refine any_take 17 ?vr18n61 rfl (by kernel_rfl) (by kernel_rfl) (by kernel_rfl) (fun _ _ _ h => h) (by rfl) ?hr18n61 hS ?_
          case hr18n61 => (intro w hSw; (try dsimp only at hSw); go_split_ands; go_simp; (try with_reducible rfl))
          (try simp only [Act.put, List.setIfInBounds_toArray, List.set_cons_zero, List.set_cons_succ])
          refine any_take 18 ?vr18n62 rfl (by kernel_rfl) (by kernel_rfl) (by kernel_rfl) (fun _ _ _ h => h) (by rfl) ?hr18n62 hS ?_
          case hr18n62 => (intro w hSw; (try dsimp only at hSw); go_split_ands; go_simp; (try with_reducible rfl))
          (try simp only [Act.put, List.setIfInBounds_toArray, List.set_cons_zero, List.set_cons_succ])
          refine any_take 19 ?vr18n63 rfl (by kernel_rfl) (by kernel_rfl) (by kernel_rfl) (fun _ _ _ h => h) (by rfl) ?hr18n63 hS ?_
          case hr18n63 => (intro w hSw; (try dsimp only at hSw); go_split_ands; go_simp; (try with_reducible rfl))
          (try simp only [Act.put, List.setIfInBounds_toArray, List.set_cons_zero, List.set_cons_succ])
          refine any_take 20 ?vr18n64 rfl (by kernel_rfl) (by kernel_rfl) (by kernel_rfl) (fun _ _ _ h => h) (by rfl) ?hr18n64 hS ?_
          case hr18n64 => (intro w hSw; (try dsimp only at hSw); go_split_ands; go_simp; (try with_reducible rfl))
          (try simp only [Act.put, List.setIfInBounds_toArray, List.set_cons_zero, List.set_cons_succ])
          refine any_take 21 ?vr18n65 rfl (by kernel_rfl) (by kernel_rfl) (by kernel_rfl) (fun _ _ _ h => h) (by rfl) ?hr18n65 hS ?_
          case hr18n65 => (intro w hSw; (try dsimp only at hSw); go_split_ands; go_simp; (try with_reducible rfl))
          (try simp only [Act.put, List.setIfInBounds_toArray, List.set_cons_zero, List.set_cons_succ])
          refine any_take 22 ?vr18n66 rfl (by kernel_rfl) (by kernel_rfl) (by kernel_rfl) (fun _ _ _ h => h) (by rfl) ?hr18n66 hS ?_
          case hr18n66 => (intro w hSw; (try dsimp only at hSw); go_split_ands; go_simp; (try with_reducible rfl))
          (try simp only [Act.put, List.setIfInBounds_toArray, List.set_cons_zero, List.set_cons_succ])
          refine any_take 23 ?vr18n67 rfl (by kernel_rfl) (by kernel_rfl) (by kernel_rfl) (fun _ _ _ h => h) (by rfl) ?hr18n67 hS ?_
          case hr18n67 => (intro w hSw; (try dsimp only at hSw); go_split_ands; go_simp; (try with_reducible rfl))
          (try simp only [Act.put, List.setIfInBounds_toArray, List.set_cons_zero, List.set_cons_succ])
          refine any_take 24 ?vr18n68 rfl (by kernel_rfl) (by kernel_rfl) (by kernel_rfl) (fun _ _ _ h => h) (by rfl) ?hr18n68 hS ?_
          case hr18n68 => (intro w hSw; (try dsimp only at hSw); go_split_ands; go_simp; (try with_reducible rfl))
          (try simp only [Act.put, List.setIfInBounds_toArray, List.set_cons_zero, List.set_cons_succ])
          refine any_take 25 ?vr18n69 rfl (by kernel_rfl) (by kernel_rfl) (by kernel_rfl) (fun _ _ _ h => h) (by rfl) ?hr18n69 hS ?_
          case hr18n69 => (intro w hSw; (try dsimp only at hSw); go_split_ands; go_simp; (try with_reducible rfl))
          (try simp only [Act.put, List.setIfInBounds_toArray, List.set_cons_zero, List.set_cons_succ])
          refine any_take 26 ?vr18n70 rfl (by kernel_rfl) (by kernel_rfl) (by kernel_rfl) (fun _ _ _ h => h) (by rfl) ?hr18n70 hS ?_
          case hr18n70 => (intro w hSw; (try dsimp only at hSw); go_split_ands; go_simp; (try with_reducible rfl))
          (try simp only [Act.put, List.setIfInBounds_toArray, List.set_cons_zero, List.set_cons_succ])
          refine any_take 27 ?vr18n71 rfl (by kernel_rfl) (by kernel_rfl) (by kernel_rfl) (fun _ _ _ h => h) (by rfl) ?hr18n71 hS ?_
          case hr18n71 => (intro w hSw; (try dsimp only at hSw); go_split_ands; go_simp; (try with_reducible rfl))
          (try simp only [Act.put, List.setIfInBounds_toArray, List.set_cons_zero, List.set_cons_succ])
          refine any_take 28 ?vr18n72 rfl (by kernel_rfl) (by kernel_rfl) (by kernel_rfl) (fun _ _ _ h => h) (by rfl) ?hr18n72 hS ?_
          case hr18n72 => (intro w hSw; (try dsimp only at hSw); go_split_ands; go_simp; (try with_reducible rfl))
          (try simp only [Act.put, List.setIfInBounds_toArray, List.set_cons_zero, List.set_cons_succ])
          refine any_one 29 rfl (by kernel_rfl) (by rfl) (fun K hK => ?_)
          clear hS
          go_simp
          refine HA12.mono ?_
          rintro e w13 ⟨rfl, hb13⟩
          have bel13 := bel12.trans (hb13.mono bel12.size)
          refine hK.out _ _ (HSK.out _ bel13) (fun hS => ?_)
          clear hK
          (try simp only [Act.put, List.setIfInBounds_toArray, List.set_cons_zero, List.set_cons_succ])
          refine any_take 30 ?vr18n73 rfl (by kernel_rfl) (by kernel_rfl) (by kernel_rfl) (fun _ _ _ h => h) (by rfl) ?hr18n73 hS ?_
          case hr18n73 => (intro w hSw; (try dsimp only at hSw); go_split_ands; go_simp; (try with_reducible rfl))
          (try simp only [Act.put, List.setIfInBounds_toArray, List.set_cons_zero, List.set_cons_succ])
          refine any_take 31 ?vr18n74 rfl (by kernel_rfl) (by kernel_rfl) (by kernel_rfl) (fun _ _ _ h => h) (by rfl) ?hr18n74 hS ?_
          case hr18n74 => (intro w hSw; (try dsimp only at hSw); go_split_ands; go_simp; (try with_reducible rfl))
          (try simp only [Act.put, List.setIfInBounds_toArray, List.set_cons_zero, List.set_cons_succ])
          refine wpAnyH_done (by kernel_rfl) ?_ _
          refine NoPanic.normal ?_
          go_wp2
          go_ret
          exact ⟨rfl, bel9.trans (bel13.mono bel9.size)⟩
end Go.Proofs.Ytapfcgklocflfaa
