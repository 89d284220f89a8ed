/-
  The contracts of the document's begin and Of.
-/
import Derived.Test.YtkpaldkmikjpiaaDoorRefBlock
import Derived.Test.YtkpaldkmikjpiaaDoorCutsW
namespace Go.Proofs.YtkpaldkmikjpiaaDoor
open Go.ChangeShapes Go.WideShapes Go.ChangeAt Go.RowKit

set_option maxHeartbeats 400000 in
set_option maxRecDepth 20000 in
theorem begin_any (w : World) : Calls Tryd.prog 51 #[] w fun e w' => e = .returned (.slice (some ⟨w.heap.size, 0, none⟩) 8 8) ∧ Words w' (some ⟨w.heap.size, 0, none⟩) 8 start.list ∧ Below w.heap.size w w' := by
  have hW : Words (w.alloc (.cells #[.int .u32 0x6a09e667, .int .u32 0xbb67ae85, .int .u32 0x3c6ef372, .int .u32 0xa54ff53a, .int .u32 0x510e527f, .int .u32 0x9b05688c, .int .u32 0x1f83d9ab, .int .u32 0x5be0cd19] 66)) (some ⟨w.heap.size, 0, none⟩) 8 start.list :=
    Words.of_row' (l := start.list) (heap_alloc_new w _) (by simp [S8.list]) (S8.small_list start_small)
  go_enter Tryd.func51, Tryd.ntmps51
  go_wp2
  go_ret
  exact ⟨rfl, hW, (Below.refl _ _).alloc (Nat.le_refl _) _⟩

set_option maxHeartbeats 400000 in
set_option maxRecDepth 20000 in
theorem rof_long (w : World) (x : Option Addr) (m cx : Nat) (hl : 1048576 < m) :
    Calls Tryd.prog 41 #[.slice x m cx] w fun e w' => e = .returned (.tuple #[.slice none 0 0, .int .i64 2]) ∧ w' = w := by
  go_enter Tryd.func41, Tryd.ntmps41
  go_wp2
  go_ret2
  exact ⟨rfl, rfl⟩

set_option maxHeartbeats 1600000 in
set_option maxRecDepth 20000 in
theorem rof_own (w : World) (x : Option Addr) (cx : Nat) (bs : List UInt8) (hx : Sees w x cx bs) (hl : bs.length ≤ 1048576) :
    Calls Tryd.prog 41 #[.slice x bs.length cx] w fun e w' => ∃ d cd r, Hid (r = shaL bs) ∧ e = .returned (.tuple #[.slice d r.length cd, .int .i64 0]) ∧ Sees w' d cd r ∧ Below w.heap.size w w' ∧ w'.ownsRow w.heap.size 5 1 (.slice d r.length cd) r.length (r.map cellOf) := by
  obtain ⟨i5, hi, hz0, hz1, hz2⟩ := info_parts Tryd.info5
  have hb0 : Below w.heap.size w (w.alloc (.cells #[] 5)) := (Below.refl _ _).alloc (Nat.le_refl _) _
  obtain ⟨v1, w1, hrun1, ho1, hk1⟩ := append_own_any _ w.heap.size _ [] (own_empty w) x cx bs (hx.below hb0) (by simp; omega) (by simp)
  rw [List.nil_append] at ho1
  have hb1 := hk1 _ _ hb0 (Nat.le_refl _)
  have R1 : Hid ((Builtin.append_ #[22, 22] 22 #[.slice (some ⟨w.heap.size, 0, none⟩) 0 0, .slice x bs.length cx]).run Tryd.prog (w.alloc (.cells #[] 5)) = .ok v1 w1) := hrun1
  have hsx : Sees (w1.alloc (.cells #[.int .u8 128] 5)) (some ⟨w1.heap.size, 0, none⟩) 1 [0x80] :=
    ⟨by simp, by unfold maxLen; omega, by simp, fun _ => ⟨w1.heap.size, 0, rfl, fun i x hx => by
      rw [cell_of_row _ _ (0 + i) _ _ _ (heap_alloc_new w1 _)]
      have : i = 0 := by have := (List.getElem?_eq_some_iff.1 hx).1; simpa using this
      subst this
      simp at hx
      subst hx
      rfl⟩⟩
  obtain ⟨v2, w2, hrun2, ho2, hk2⟩ := append_own_any (w1.alloc (.cells #[.int .u8 128] 5)) w.heap.size v1 bs (ho1.alloc _) _ 1 [0x80] hsx (by simp; omega) (by have := hb1.size; simp; omega)
  have hb2 := hk2 _ _ (hb1.alloc hb1.size _) (Nat.le_refl _)
  have R2 : Hid ((Builtin.append_ #[22, 22] 22 #[v1, .slice (some ⟨w1.heap.size, 0, none⟩) 1 1]).run Tryd.prog (w1.alloc (.cells #[.int .u8 128] 5)) = .ok v2 w2) := hrun2
  obtain ⟨d, cd, rfl, _⟩ := Sees.of_own ho2
  have hlen2 : (bs ++ [0x80]).length = bs.length + 1 := by simp
  rw [hlen2] at ho2 R2
  have d1 : decide ((1048576 : Int) < (bs.length : Int)) = false := by simp; omega
  clear hrun1 hrun2 ho1 hk1 hk2 hsx hb0 hb1 hlen2 hx
  go_enter Tryd.func41, Tryd.ntmps41
  go_wp2_with (at_builtin; first | refine wpList_append_run rfl _ _ 22 rfl _ _ _ rfl rfl R1.out ?_ | refine wpList_append_run rfl _ _ 22 rfl _ _ _ rfl rfl R2.out ?_)
  go_loopw [4] (fun v wr => ∃ (j : Nat) (d : Option Addr) (cd : Nat), j ≤ zs bs.length ∧ v = .slice d (bs.length + 1 + j) cd ∧ wr.ownsRow w.heap.size 5 1 (.slice d (bs.length + 1 + j) cd) (bs.length + 1 + j) ((bs ++ [0x80] ++ List.replicate j 0).map cellOf) ∧ Below w.heap.size w wr)
    (fun v _ => match v with | .slice _ n _ => bs.length + 1 + zs bs.length - n | _ => 0)
  case atStart => exact ⟨0, d, cd, Nat.zero_le _, rfl, by simpa using ho2, hb2⟩
  case round =>
    obtain ⟨j, d, cd, hj, rfl, ho, hbl⟩ := hrel
    clear ho2 hb2 R1 R2
    have hzl := zs_lt bs.length
    by_cases hlt : j < zs bs.length
    · have hm : (((bs.length : Int) + 1 + (j : Int)) % 64 != 56) = true := by
        simp only [bne_iff_ne]; unfold zs at hlt; omega
      have hsz := hbl.size
      obtain ⟨v, w3, hrun, ho3, hg, _⟩ := run_append_own (P := Tryd.prog) (wr.alloc (.cells #[.int .u8 0] 5)) w.heap.size 22 22 5 i5 (.int .u8 0) 1 1 Tryd.underlying22 hi hz0 hz1 hz2 rfl (by omega) _ _ _ (ho.alloc _) ⟨wr.heap.size, 0, none⟩ 1 1 [.int .u8 0] (by simp) (World.news_of_block (heap_alloc_new wr _)) (by simp [Value.oneCell']) (by unfold maxLen; omega) (by omega) (by simp; omega)
      have ho4 : w3.ownsRow w.heap.size 5 1 v (bs.length + 1 + (j + 1)) ((bs ++ [0x80] ++ List.replicate (j + 1) 0).map cellOf) := by
        rw [List.replicate_succ', ← List.append_assoc, List.map_append]; exact ho3
      have hb3 : Below w.heap.size w w3 := (hbl.alloc hsz _).grown hg (by simp; omega) (fun q h => (ho.lt _ h).1)
      obtain ⟨d2, cd2, rfl, _⟩ := Sees.of_own ho4
      have hlen : (bs ++ [0x80] ++ List.replicate (j + 1) (0 : UInt8)).length = bs.length + 1 + (j + 1) := by simp; omega
      rw [hlen] at hrun ho4
      have HA : Hid ((Builtin.append_ #[22, 22] 22 #[.slice d (bs.length + 1 + j) cd, .slice (some ⟨wr.heap.size, 0, none⟩) 1 1]).run Tryd.prog (wr.alloc (.cells #[.int .u8 0] 5)) = .ok (.slice d2 (bs.length + 1 + (j + 1)) cd2) w3) := hrun
      clear hrun ho3 hg hlen
      go_wp2_with (at_builtin; refine wpList_append_run rfl _ _ 22 rfl _ _ _ rfl rfl HA.out ?_)
      go_roundw
      case rel => exact ⟨j + 1, d2, cd2, by omega, rfl, ho4, hb3⟩
      case measure => simp; omega
    · obtain rfl : j = zs bs.length := by omega
      obtain ⟨d2, cd2, hv, hs⟩ := Sees.of_own ho
      obtain ⟨r, hr⟩ : ∃ r, r = bs ++ [0x80] ++ List.replicate (zs bs.length) (0 : UInt8) := ⟨_, rfl⟩
      rw [← hr] at hs hv
      have hrl : bs.length + 1 + zs bs.length = r.length := by rw [hr]; simp; omega
      have Hr : Hid (r = bs ++ [0x80] ++ List.replicate (zs bs.length) (0 : UInt8)) := hr
      have HRL : Hid (bs.length + 1 + zs bs.length = r.length) := hrl
      rw [hv]
      have hm2 : ((r.length : Int) % 64 != 56) = false := by
        simp only [bne_eq_false_iff_eq]; rw [← hrl]; unfold zs; omega
      have hput := refputlong_any wr d2 cd2 r (8 * bs.length) hs (by omega) (by omega)
      clear ho hv hr hrl hs
      go_wp2_with fail
      refine (show Calls _ _ _ _ _ from by simpa using hput).mono ?_
      rintro e w4 ⟨d3, cd3, r3, HR3, rfl, hs3, hb3⟩
      have hb4 : Below w.heap.size w w4 := hbl.trans (hb3.mono hbl.size)
      have hpad : Hid (r3 = pad bs bs.length) := by rw [HR3.out, Hr.out]; exact rfl
      have hr3l : r3.length % 64 = 0 := by rw [hpad.out]; exact pad_length64 _ _
      have hr3s : r3.length ≤ 1100000 := by rw [hpad.out, pad_length]; omega
      have hr3p : 0 < r3.length := by rw [hpad.out, pad_length]; omega
      have hend : Hid (w4s (runB start r3 (r3.length / 64)).list = shaL bs) := by rw [hpad.out]; exact rfl
      obtain ⟨rb, ro, rfl, _⟩ := hs3.at' (by intro h; rw [h] at hr3p; simp at hr3p)
      have hbeg := begin_any w4
      clear hput hb3 HR3 Hr HRL hbl hm2
      go_wp2_with fail
      refine hbeg.mono ?_
      rintro e w5 ⟨rfl, hW5, hb5⟩
      have hs5 := hs3.below hb5
      have hb5w := hb4.trans (hb5.mono hb4.size)
      have hfit := hs3.fits
      have hroom := hs3.room
      unfold maxLen at hroom
      clear hbeg hs3 hb5 hb4
      go_wp2
      go_loopw [5, 6] (fun v i wr => ∃ (k : Nat) (dd : Option Addr) (c : Nat), 64 * k ≤ r3.length ∧ i = .int .i64 ((64 * k : Nat) : Int) ∧ v = .slice dd 8 c ∧ Words wr dd c (runB start r3 k).list ∧ Sees wr (some ⟨rb, ro, none⟩) cd3 r3 ∧ Below w.heap.size w wr)
        (fun _ i _ => r3.length - (intOf i).toNat)
      case atStart => exact ⟨0, _, 8, by omega, rfl, rfl, hW5, hs5, hb5w⟩
      case round =>
        obtain ⟨k, dd, c, hk, rfl, rfl, hWr, hsr, hblr⟩ := hrel
        clear hW5 hs5 hb5w
        by_cases hlt2 : 64 * k < r3.length
        · have h64 : 64 * k + 64 ≤ r3.length := by omega
          have hblk := (hsr.drop (64 * k) (by omega)).take 64
          have hbl64 : ((r3.drop (64 * k)).take 64).length = 64 := by rw [List.length_take, List.length_drop]; omega
          have hcall := rblock_yes wr dd c (runB start r3 k) (runB_small start_small _ _) hWr _ _ _ hblk hbl64
          have hnx : Hid (mixS (runB start r3 k) ((r3.drop (64 * k)).take 64) = runB start r3 (k + 1)) := rfl
          have hne : ¬ (cd3 = 64 * k) := by omega
          have g1 : ((64 * k : Nat) : Int) + 64 ≤ (cd3 : Int) := by omega
          have hs64 : 64 * k + 64 - 64 * k = 64 := by omega
          have HSR : Hid (Sees wr (some ⟨rb, ro, none⟩) cd3 r3) := hsr
          clear hblk hbl64 hWr hsr
          go_wp2_with fail
          refine hcall.mono ?_
          rintro e w6 ⟨d6, c6, rfl, hW6, hb6⟩
          rw [hnx.out] at hW6
          have hs6 := HSR.out.below hb6
          have hb6w := hblr.trans (hb6.mono hblr.size)
          clear hcall
          go_wp2
          go_roundw
          case rel => exact ⟨k + 1, d6, c6, by omega, by go_num, rfl, hW6, hs6, hb6w⟩
          case measure => simp [intOf]; omega
        · have hkk : r3.length / 64 = k := by omega
          have hpt := refput_own wr none dd 0 c [] (runB start r3 k).list (Sees.nil' _) hWr (by simp) (by simp [S8.list])
          have HE : Hid (w4s (runB start r3 k).list = shaL bs) := by rw [← hkk]; exact hend.out
          clear hWr hsr
          go_wp2_with fail
          refine hpt.mono ?_
          rintro e w7 ⟨d7, c7, r7, HR7, rfl, hs7, hb7, ho7⟩
          clear hpt
          go_wp2
          go_ret2
          exact ⟨d7, c7, r7, by rw [HR7.out, List.nil_append]; exact HE, rfl, hs7, hblr.trans (hb7.mono hblr.size), ho7.mono hblr.size⟩
theorem rof_ok (w : World) (x : Option Addr) (cx : Nat) (bs : List UInt8) (hx : Sees w x cx bs) (hl : bs.length ≤ 1048576) :
    Calls Tryd.prog 41 #[.slice x bs.length cx] w fun e w' => ∃ d cd r, Hid (r = shaL bs) ∧ e = .returned (.tuple #[.slice d r.length cd, .int .i64 0]) ∧ Sees w' d cd r ∧ Below w.heap.size w w' :=
  (rof_own w x cx bs hx hl).mono fun _ _ ⟨d, cd, r, h1, h2, h3, h4, _⟩ => ⟨d, cd, r, h1, h2, h3, h4⟩
end Go.Proofs.YtkpaldkmikjpiaaDoor
