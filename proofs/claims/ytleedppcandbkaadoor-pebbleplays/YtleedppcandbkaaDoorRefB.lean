/-
  The contracts of the document's begin and Of.

  The contracts of the document's pad, Of, Short and Check of layer 3.
-/
import Derived.Test.YtleedppcandbkaaDoorRefBlock
import Derived.Test.YtleedppcandbkaaDoorRefA
import Derived.Test.YtleedppcandbkaaDoorPure
namespace Go.Proofs.YtleedppcandbkaaDoor
open Go.ChangeShapes Go.WideShapes Go.ChangeAt Go.RowKit

set_option maxHeartbeats 400000 in
set_option maxRecDepth 20000 in
theorem begin_any (w : World) : Calls Tryd.prog 54 #[] w fun e w' => e = .returned (.slice (some ⟨w.heap.size, 0, none⟩) 8 8) ∧ Words w' (some ⟨w.heap.size, 0, none⟩) 8 start.list ∧ Below w.heap.size w w' := by
  have hW : Words (w.alloc (.cells #[.int .u32 0x6a09e667, .int .u32 0xbb67ae85, .int .u32 0x3c6ef372, .int .u32 0xa54ff53a, .int .u32 0x510e527f, .int .u32 0x9b05688c, .int .u32 0x1f83d9ab, .int .u32 0x5be0cd19] 68)) (some ⟨w.heap.size, 0, none⟩) 8 start.list :=
    Words.of_row' (l := start.list) (heap_alloc_new w _) (by simp [S8.list]) (S8.small_list start_small)
  go_enter Tryd.func54, Tryd.ntmps54
  go_wp2
  go_ret
  exact ⟨rfl, hW, (Below.refl _ _).alloc (Nat.le_refl _) _⟩

set_option maxHeartbeats 400000 in
set_option maxRecDepth 20000 in
theorem rof_long (w : World) (x : Option Addr) (m cx : Nat) (hl : 1048576 < m) :
    Calls Tryd.prog 47 #[.slice x m cx] w fun e w' => e = .returned (.tuple #[.slice none 0 0, .int .i64 2]) ∧ w' = w := by
  go_enter Tryd.func47, Tryd.ntmps47
  go_wp2
  go_ret2
  exact ⟨rfl, rfl⟩

set_option maxHeartbeats 1600000 in
set_option maxRecDepth 20000 in
theorem rof_own (w : World) (x : Option Addr) (cx : Nat) (bs : List UInt8) (hx : Sees w x cx bs) (hl : bs.length ≤ 1048576) :
    Calls Tryd.prog 47 #[.slice x bs.length cx] w fun e w' => ∃ d cd r, Hid (r = shaL bs) ∧ e = .returned (.tuple #[.slice d r.length cd, .int .i64 0]) ∧ Sees w' d cd r ∧ Below w.heap.size w w' ∧ w'.ownsRow w.heap.size 5 1 (.slice d r.length cd) r.length (r.map cellOf) := by
  obtain ⟨i5, hi, hz0, hz1, hz2⟩ := info_parts Tryd.info5
  have hb0 : Below w.heap.size w (w.alloc (.cells #[] 5)) := (Below.refl _ _).alloc (Nat.le_refl _) _
  obtain ⟨v1, w1, hrun1, ho1, hk1⟩ := append_own_any _ w.heap.size _ [] (own_empty w) x cx bs (hx.below hb0) (by simp; omega) (by simp)
  rw [List.nil_append] at ho1
  have hb1 := hk1 _ _ hb0 (Nat.le_refl _)
  have R1 : Hid ((Builtin.append_ #[22, 22] 22 #[.slice (some ⟨w.heap.size, 0, none⟩) 0 0, .slice x bs.length cx]).run Tryd.prog (w.alloc (.cells #[] 5)) = .ok v1 w1) := hrun1
  have hsx : Sees (w1.alloc (.cells #[.int .u8 128] 5)) (some ⟨w1.heap.size, 0, none⟩) 1 [0x80] :=
    ⟨by simp, by unfold maxLen; omega, by simp, fun _ => ⟨w1.heap.size, 0, rfl, fun i x hx => by
      rw [cell_of_row _ _ (0 + i) _ _ _ (heap_alloc_new w1 _)]
      have : i = 0 := by have := (List.getElem?_eq_some_iff.1 hx).1; simpa using this
      subst this
      simp at hx
      subst hx
      rfl⟩⟩
  obtain ⟨v2, w2, hrun2, ho2, hk2⟩ := append_own_any (w1.alloc (.cells #[.int .u8 128] 5)) w.heap.size v1 bs (ho1.alloc _) _ 1 [0x80] hsx (by simp; omega) (by have := hb1.size; simp; omega)
  have hb2 := hk2 _ _ (hb1.alloc hb1.size _) (Nat.le_refl _)
  have R2 : Hid ((Builtin.append_ #[22, 22] 22 #[v1, .slice (some ⟨w1.heap.size, 0, none⟩) 1 1]).run Tryd.prog (w1.alloc (.cells #[.int .u8 128] 5)) = .ok v2 w2) := hrun2
  obtain ⟨d, cd, rfl, _⟩ := Sees.of_own ho2
  have hlen2 : (bs ++ [0x80]).length = bs.length + 1 := by simp
  rw [hlen2] at ho2 R2
  have d1 : decide ((1048576 : Int) < (bs.length : Int)) = false := by simp; omega
  clear hrun1 hrun2 ho1 hk1 hk2 hsx hb0 hb1 hlen2 hx
  go_enter Tryd.func47, Tryd.ntmps47
  go_wp2_with (at_builtin; first | refine wpList_append_run rfl _ _ 22 rfl _ _ _ rfl rfl R1.out ?_ | refine wpList_append_run rfl _ _ 22 rfl _ _ _ rfl rfl R2.out ?_)
  go_loopw [4] (fun v wr => ∃ (j : Nat) (d : Option Addr) (cd : Nat), j ≤ zs bs.length ∧ v = .slice d (bs.length + 1 + j) cd ∧ wr.ownsRow w.heap.size 5 1 (.slice d (bs.length + 1 + j) cd) (bs.length + 1 + j) ((bs ++ [0x80] ++ List.replicate j 0).map cellOf) ∧ Below w.heap.size w wr)
    (fun v _ => match v with | .slice _ n _ => bs.length + 1 + zs bs.length - n | _ => 0)
  case atStart => exact ⟨0, d, cd, Nat.zero_le _, rfl, by simpa using ho2, hb2⟩
  case round =>
    obtain ⟨j, d, cd, hj, rfl, ho, hbl⟩ := hrel
    clear ho2 hb2 R1 R2
    have hzl := zs_lt bs.length
    by_cases hlt : j < zs bs.length
    · have hm : (((bs.length : Int) + 1 + (j : Int)) % 64 != 56) = true := by
        simp only [bne_iff_ne]; unfold zs at hlt; omega
      have hsz := hbl.size
      obtain ⟨v, w3, hrun, ho3, hg, _⟩ := run_append_own (P := Tryd.prog) (wr.alloc (.cells #[.int .u8 0] 5)) w.heap.size 22 22 5 i5 (.int .u8 0) 1 1 Tryd.underlying22 hi hz0 hz1 hz2 rfl (by omega) _ _ _ (ho.alloc _) ⟨wr.heap.size, 0, none⟩ 1 1 [.int .u8 0] (by simp) (World.news_of_block (heap_alloc_new wr _)) (by simp [Value.oneCell']) (by unfold maxLen; omega) (by omega) (by simp; omega)
      have ho4 : w3.ownsRow w.heap.size 5 1 v (bs.length + 1 + (j + 1)) ((bs ++ [0x80] ++ List.replicate (j + 1) 0).map cellOf) := by
        rw [List.replicate_succ', ← List.append_assoc, List.map_append]; exact ho3
      have hb3 : Below w.heap.size w w3 := (hbl.alloc hsz _).grown hg (by simp; omega) (fun q h => (ho.lt _ h).1)
      obtain ⟨d2, cd2, rfl, _⟩ := Sees.of_own ho4
      have hlen : (bs ++ [0x80] ++ List.replicate (j + 1) (0 : UInt8)).length = bs.length + 1 + (j + 1) := by simp; omega
      rw [hlen] at hrun ho4
      have HA : Hid ((Builtin.append_ #[22, 22] 22 #[.slice d (bs.length + 1 + j) cd, .slice (some ⟨wr.heap.size, 0, none⟩) 1 1]).run Tryd.prog (wr.alloc (.cells #[.int .u8 0] 5)) = .ok (.slice d2 (bs.length + 1 + (j + 1)) cd2) w3) := hrun
      clear hrun ho3 hg hlen
      go_wp2_with (at_builtin; refine wpList_append_run rfl _ _ 22 rfl _ _ _ rfl rfl HA.out ?_)
      go_roundw
      case rel => exact ⟨j + 1, d2, cd2, by omega, rfl, ho4, hb3⟩
      case measure => simp; omega
    · obtain rfl : j = zs bs.length := by omega
      obtain ⟨d2, cd2, hv, hs⟩ := Sees.of_own ho
      obtain ⟨r, hr⟩ : ∃ r, r = bs ++ [0x80] ++ List.replicate (zs bs.length) (0 : UInt8) := ⟨_, rfl⟩
      rw [← hr] at hs hv
      have hrl : bs.length + 1 + zs bs.length = r.length := by rw [hr]; simp; omega
      have Hr : Hid (r = bs ++ [0x80] ++ List.replicate (zs bs.length) (0 : UInt8)) := hr
      have HRL : Hid (bs.length + 1 + zs bs.length = r.length) := hrl
      rw [hv]
      have hm2 : ((r.length : Int) % 64 != 56) = false := by
        simp only [bne_eq_false_iff_eq]; rw [← hrl]; unfold zs; omega
      have hput := refputlong_any wr d2 cd2 r (8 * bs.length) hs (by omega) (by omega)
      clear ho hv hr hrl hs
      go_wp2_with fail
      refine (show Calls _ _ _ _ _ from by simpa using hput).mono ?_
      rintro e w4 ⟨d3, cd3, r3, HR3, rfl, hs3, hb3⟩
      have hb4 : Below w.heap.size w w4 := hbl.trans (hb3.mono hbl.size)
      have hpad : Hid (r3 = pad bs bs.length) := by rw [HR3.out, Hr.out]; exact rfl
      have hr3l : r3.length % 64 = 0 := by rw [hpad.out]; exact pad_length64 _ _
      have hr3s : r3.length ≤ 1100000 := by rw [hpad.out, pad_length]; omega
      have hr3p : 0 < r3.length := by rw [hpad.out, pad_length]; omega
      have hend : Hid (w4s (runB start r3 (r3.length / 64)).list = shaL bs) := by rw [hpad.out]; exact rfl
      obtain ⟨rb, ro, rfl, _⟩ := hs3.at' (by intro h; rw [h] at hr3p; simp at hr3p)
      have hbeg := begin_any w4
      clear hput hb3 HR3 Hr HRL hbl hm2
      go_wp2_with fail
      refine hbeg.mono ?_
      rintro e w5 ⟨rfl, hW5, hb5⟩
      have hs5 := hs3.below hb5
      have hb5w := hb4.trans (hb5.mono hb4.size)
      have hfit := hs3.fits
      have hroom := hs3.room
      unfold maxLen at hroom
      clear hbeg hs3 hb5 hb4
      go_wp2
      go_loopw [5, 6] (fun v i wr => ∃ (k : Nat) (dd : Option Addr) (c : Nat), 64 * k ≤ r3.length ∧ i = .int .i64 ((64 * k : Nat) : Int) ∧ v = .slice dd 8 c ∧ Words wr dd c (runB start r3 k).list ∧ Sees wr (some ⟨rb, ro, none⟩) cd3 r3 ∧ Below w.heap.size w wr)
        (fun _ i _ => r3.length - (intOf i).toNat)
      case atStart => exact ⟨0, _, 8, by omega, rfl, rfl, hW5, hs5, hb5w⟩
      case round =>
        obtain ⟨k, dd, c, hk, rfl, rfl, hWr, hsr, hblr⟩ := hrel
        clear hW5 hs5 hb5w
        by_cases hlt2 : 64 * k < r3.length
        · have h64 : 64 * k + 64 ≤ r3.length := by omega
          have hblk := (hsr.drop (64 * k) (by omega)).take 64
          have hbl64 : ((r3.drop (64 * k)).take 64).length = 64 := by rw [List.length_take, List.length_drop]; omega
          have hcall := rblock_yes wr dd c (runB start r3 k) (runB_small start_small _ _) hWr _ _ _ hblk hbl64
          have hnx : Hid (mixS (runB start r3 k) ((r3.drop (64 * k)).take 64) = runB start r3 (k + 1)) := rfl
          have hne : ¬ (cd3 = 64 * k) := by omega
          have g1 : ((64 * k : Nat) : Int) + 64 ≤ (cd3 : Int) := by omega
          have hs64 : 64 * k + 64 - 64 * k = 64 := by omega
          have HSR : Hid (Sees wr (some ⟨rb, ro, none⟩) cd3 r3) := hsr
          clear hblk hbl64 hWr hsr
          go_wp2_with fail
          refine hcall.mono ?_
          rintro e w6 ⟨d6, c6, rfl, hW6, hb6⟩
          rw [hnx.out] at hW6
          have hs6 := HSR.out.below hb6
          have hb6w := hblr.trans (hb6.mono hblr.size)
          clear hcall
          go_wp2
          go_roundw
          case rel => exact ⟨k + 1, d6, c6, by omega, by go_num, rfl, hW6, hs6, hb6w⟩
          case measure => simp [intOf]; omega
        · have hkk : r3.length / 64 = k := by omega
          have hpt := refput_own wr none dd 0 c [] (runB start r3 k).list (Sees.nil' _) hWr (by simp) (by simp [S8.list])
          have HE : Hid (w4s (runB start r3 k).list = shaL bs) := by rw [← hkk]; exact hend.out
          clear hWr hsr
          go_wp2_with fail
          refine hpt.mono ?_
          rintro e w7 ⟨d7, c7, r7, HR7, rfl, hs7, hb7, ho7⟩
          clear hpt
          go_wp2
          go_ret2
          exact ⟨d7, c7, r7, by rw [HR7.out, List.nil_append]; exact HE, rfl, hs7, hblr.trans (hb7.mono hblr.size), ho7.mono hblr.size⟩
theorem rof_ok (w : World) (x : Option Addr) (cx : Nat) (bs : List UInt8) (hx : Sees w x cx bs) (hl : bs.length ≤ 1048576) :
    Calls Tryd.prog 47 #[.slice x bs.length cx] w fun e w' => ∃ d cd r, Hid (r = shaL bs) ∧ e = .returned (.tuple #[.slice d r.length cd, .int .i64 0]) ∧ Sees w' d cd r ∧ Below w.heap.size w w' :=
  (rof_own w x cx bs hx hl).mono fun _ _ ⟨d, cd, r, h1, h2, h3, h4, _⟩ => ⟨d, cd, r, h1, h2, h3, h4⟩
end Go.Proofs.YtleedppcandbkaaDoor

namespace Go.Proofs.YtleedppcandbkaaDoor
open Go.ChangeShapes Go.WideShapes Go.ChangeAt Go.RowKit

set_option maxHeartbeats 1600000 in
set_option maxRecDepth 20000 in
theorem rpad_short (w : World) (a : Option Addr) (ca : Nat) (key : List UInt8) (c : UInt8) (ha : Sees w a ca key) (hl : key.length ≤ 1048576) (h64 : ¬ 64 < key.length) :
    Calls Tryd.prog 46 #[.slice a key.length ca, .int .u8 (c.toNat : Int)] w fun e w' => ∃ g, e = .returned (.slice (some ⟨g, 0, none⟩) 64 64) ∧ w'.ownsRow w.heap.size 5 1 (.slice (some ⟨g, 0, none⟩) 64 64) 64 ((padK key c).map cellOf) ∧ Below w.heap.size w w' := by
  obtain ⟨i5, hi, hz0, hz1, hz2⟩ := info_parts Tryd.info5
  obtain ⟨PP, hPP⟩ : ∃ P, P = padK key c := ⟨_, rfl⟩
  have HPl : Hid (PP.length = 64) := by rw [hPP]; exact padK_length key c
  rw [← hPP]
  have hK : keyL key = key := by unfold keyL; rw [if_neg h64]
  obtain ⟨K, hKk⟩ : ∃ K, K = key := ⟨_, rfl⟩
  have hKK : K = keyL key := by rw [hK]; exact hKk
  rw [← hKk] at ha ⊢
  obtain ⟨x, rfl⟩ : ∃ x, x = a := ⟨_, rfl⟩
  have hb1 : Below w.heap.size w w := Below.refl _ _
  have hx : Sees w x ca K := ha
  have h64' : K.length ≤ 64 := by rw [hKk]; omega
  clear ha hKk hK
  have HPat : Hid (∀ i, i < 64 → PP[i]? = some ((K[i]?.getD 0) ^^^ c)) := fun i hi => by rw [hPP, hKK]; exact padK_at key c i hi
  have hK64 : K.length ≤ 64 := by rw [hKK]; exact keyL_le key
  clear hPP hKK
  go_enter Tryd.func46, Tryd.ntmps46
  go_wp2_with (at_make; refine wpList_make_full _ rfl _ _ 22 rfl w.heap.size 5 i5 (.int .u8 0) 1 Tryd.underlying22 hi hz0 hz1 .i64 .i64 _ _ 64 rfl rfl rfl rfl ?b2 ?b3 ?b4 ?_)
  case b2 => rw [hz2]; omega
  case b3 => unfold maxLen; omega
  case b4 => exact hb1.size
  intro w2 hown hgrow
  have hbel : Below w.heap.size w w2 := (Below.refl _ _).grown hgrow (Nat.le_refl _) (by intro k h; cases h)
  have ho0 : w2.ownsRow w.heap.size 5 1 (.slice (some ⟨w.heap.size, 0, none⟩) 64 64) 64 ((PP.take 0 ++ List.replicate (64 - 0) 0).map cellOf) := by simpa [made_bytes] using hown
  clear hgrow hown
  go_wp2
  go_loopw [9] (fun i wr => ∃ k : Nat, k ≤ 64 ∧ i = .int .i64 k ∧ wr.ownsRow w.heap.size 5 1 (.slice (some ⟨w.heap.size, 0, none⟩) 64 64) 64 ((PP.take k ++ List.replicate (64 - k) 0).map cellOf) ∧ Below w.heap.size w wr) (fun i _ => 64 - (intOf i).toNat)
  case atStart => exact ⟨0, by omega, rfl, ho0, hbel⟩
  case round =>
    obtain ⟨k, hk, rfl, ho, hbl⟩ := hrel
    clear ho0 hbel
    by_cases hlt : k < 64
    · have hzk := HPat.out k hlt
      obtain ⟨z, hz⟩ : ∃ z, z = (K[k]?.getD 0) ^^^ c := ⟨_, rfl⟩
      rw [← hz] at hzk
      have hc3 : wr.cell? ⟨w.heap.size, k, none⟩ = some (.int .u8 0) := by rw [ho.cellAt k (by omega)]; exact at_step _ _ k hlt HPl.out
      have hf3 : wr.frozen? ⟨w.heap.size, k, none⟩ = false := ho.frozenAt k
      by_cases hkK : k < K.length
      · obtain ⟨x0, hx0⟩ : ∃ x0, K[k]? = some x0 := ⟨K[k], by simp [hkK]⟩
        rw [hx0] at hz
        obtain ⟨b1, o1, rfl, hcK⟩ := (hx.below hbl).get hx0
        have e1 : bits .xor .u8 (x0.toNat : Int) (c.toNat : Int) = (z.toNat : Int) := by rw [hz]; exact bxor x0 c
        have hb1G : b1 ≠ w.heap.size := by
          have h1 := World.block_lt_of_cell? w ⟨b1, o1 + k, none⟩ (by obtain ⟨b, o, hh, hcc⟩ := hx.get hx0; cases hh; exact hcc)
          intro h
          rw [h] at h1
          exact Nat.lt_irrefl _ h1
        obtain ⟨ho1, _⟩ := ho.stored k (.int .u8 (c.toNat : Int))
        have hs1 : (wr.setCell ⟨w.heap.size, k, none⟩ (.int .u8 (c.toNat : Int))).cell? ⟨w.heap.size, k, none⟩ = some (.int .u8 (c.toNat : Int)) := by
          rw [ho1.cellAt k (by omega), List.getElem?_set_self (by simp [HPl.out]; omega)]
        have hs2 : (wr.setCell ⟨w.heap.size, k, none⟩ (.int .u8 (c.toNat : Int))).cell? ⟨b1, o1 + k, none⟩ = some (.int .u8 (x0.toNat : Int)) := by
          rw [World.cell?_setCell_other _ _ _ _ (by simp)]; exact hcK
        have hs3 : (wr.setCell ⟨w.heap.size, k, none⟩ (.int .u8 (c.toNat : Int))).frozen? ⟨w.heap.size, k, none⟩ = false := ho1.frozenAt k
        obtain ⟨ho2, _⟩ := ho1.stored k (.int .u8 (z.toNat : Int))
        rw [List.set_set, set_step _ _ k z hlt HPl.out hzk] at ho2
        have hbl2 := (hbl.setCell (p := ⟨w.heap.size, k, none⟩) (Nat.le_refl _) (.int .u8 (c.toNat : Int))).setCell (p := ⟨w.heap.size, k, none⟩) (Nat.le_refl _) (.int .u8 (z.toNat : Int))
        clear ho ho1 hz hzk hx0
        go_wp2
        go_roundw
        case rel => exact ⟨k + 1, by omega, by go_num, ho2, hbl2⟩
        case measure => simp [intOf]; omega
      · rw [List.getElem?_eq_none (by omega)] at hz
        have hzc : z = c := by rw [hz]; simp
        obtain ⟨ho1, _⟩ := ho.stored k (.int .u8 (z.toNat : Int))
        rw [set_step _ _ k z hlt HPl.out hzk, hzc] at ho1
        have hbl2 := hbl.setCell (p := ⟨w.heap.size, k, none⟩) (Nat.le_refl _) (.int .u8 (c.toNat : Int))
        clear ho hz hzk hzc
        go_wp2
        go_roundw
        case rel => exact ⟨k + 1, by omega, by go_num, ho1, hbl2⟩
        case measure => simp [intOf]; omega
    · obtain rfl : k = 64 := by omega
      have e : PP.take 64 = PP := by rw [← HPl.out]; exact List.take_length
      rw [e] at ho
      simp only [Nat.sub_self, List.replicate_zero, List.append_nil] at ho
      have hbf : Below w.heap.size w wr := hb1.trans (hbl.mono hb1.size)
      go_wp2
      go_ret
      exact ⟨_, rfl, ho, hbf⟩

set_option maxHeartbeats 1600000 in
set_option maxRecDepth 20000 in
theorem rpad_long (w : World) (a : Option Addr) (ca : Nat) (key : List UInt8) (c : UInt8) (ha : Sees w a ca key) (hl : key.length ≤ 1048576) (h64 : 64 < key.length) :
    Calls Tryd.prog 46 #[.slice a key.length ca, .int .u8 (c.toNat : Int)] w fun e w' => ∃ g, e = .returned (.slice (some ⟨g, 0, none⟩) 64 64) ∧ w'.ownsRow w.heap.size 5 1 (.slice (some ⟨g, 0, none⟩) 64 64) 64 ((padK key c).map cellOf) ∧ Below w.heap.size w w' := by
  obtain ⟨i5, hi, hz0, hz1, hz2⟩ := info_parts Tryd.info5
  obtain ⟨PP, hPP⟩ : ∃ P, P = padK key c := ⟨_, rfl⟩
  have HPl : Hid (PP.length = 64) := by rw [hPP]; exact padK_length key c
  rw [← hPP]
  have hK : keyL key = shaL key := by unfold keyL; rw [if_pos h64]
  have hof := rof_ok w a ca key ha hl
  clear ha
  go_enter Tryd.func46, Tryd.ntmps46
  go_wp2_with fail
  refine hof.mono ?_
  rintro e w1 ⟨x, cx, K, hKe, rfl, hx, hb1⟩
  clear hof
  have hKK : K = keyL key := by rw [hK]; exact hKe.out
  clear hKe hK
  have HPat : Hid (∀ i, i < 64 → PP[i]? = some ((K[i]?.getD 0) ^^^ c)) := fun i hi => by rw [hPP, hKK]; exact padK_at key c i hi
  have hK64 : K.length ≤ 64 := by rw [hKK]; exact keyL_le key
  clear hPP hKK
  go_wp2_with (at_make; refine wpList_make_full _ rfl _ _ 22 rfl w.heap.size 5 i5 (.int .u8 0) 1 Tryd.underlying22 hi hz0 hz1 .i64 .i64 _ _ 64 rfl rfl rfl rfl ?b2 ?b3 ?b4 ?_)
  case b2 => rw [hz2]; omega
  case b3 => unfold maxLen; omega
  case b4 => exact hb1.size
  intro w2 hown hgrow
  have hbel : Below w1.heap.size w1 w2 := (Below.refl _ _).grown hgrow (Nat.le_refl _) (by intro k h; cases h)
  have ho0 : w2.ownsRow w.heap.size 5 1 (.slice (some ⟨w1.heap.size, 0, none⟩) 64 64) 64 ((PP.take 0 ++ List.replicate (64 - 0) 0).map cellOf) := by simpa [made_bytes] using hown
  clear hgrow hown
  go_wp2
  go_loopw [9] (fun i wr => ∃ k : Nat, k ≤ 64 ∧ i = .int .i64 k ∧ wr.ownsRow w.heap.size 5 1 (.slice (some ⟨w1.heap.size, 0, none⟩) 64 64) 64 ((PP.take k ++ List.replicate (64 - k) 0).map cellOf) ∧ Below w1.heap.size w1 wr) (fun i _ => 64 - (intOf i).toNat)
  case atStart => exact ⟨0, by omega, rfl, ho0, hbel⟩
  case round =>
    obtain ⟨k, hk, rfl, ho, hbl⟩ := hrel
    clear ho0 hbel
    by_cases hlt : k < 64
    · have hzk := HPat.out k hlt
      obtain ⟨z, hz⟩ : ∃ z, z = (K[k]?.getD 0) ^^^ c := ⟨_, rfl⟩
      rw [← hz] at hzk
      have hc3 : wr.cell? ⟨w1.heap.size, k, none⟩ = some (.int .u8 0) := by rw [ho.cellAt k (by omega)]; exact at_step _ _ k hlt HPl.out
      have hf3 : wr.frozen? ⟨w1.heap.size, k, none⟩ = false := ho.frozenAt k
      by_cases hkK : k < K.length
      · obtain ⟨x0, hx0⟩ : ∃ x0, K[k]? = some x0 := ⟨K[k], by simp [hkK]⟩
        rw [hx0] at hz
        obtain ⟨b1, o1, rfl, hcK⟩ := (hx.below hbl).get hx0
        have e1 : bits .xor .u8 (x0.toNat : Int) (c.toNat : Int) = (z.toNat : Int) := by rw [hz]; exact bxor x0 c
        have hb1G : b1 ≠ w1.heap.size := by
          have h1 := World.block_lt_of_cell? w1 ⟨b1, o1 + k, none⟩ (by obtain ⟨b, o, hh, hcc⟩ := hx.get hx0; cases hh; exact hcc)
          intro h
          rw [h] at h1
          exact Nat.lt_irrefl _ h1
        obtain ⟨ho1, _⟩ := ho.stored k (.int .u8 (c.toNat : Int))
        have hs1 : (wr.setCell ⟨w1.heap.size, k, none⟩ (.int .u8 (c.toNat : Int))).cell? ⟨w1.heap.size, k, none⟩ = some (.int .u8 (c.toNat : Int)) := by
          rw [ho1.cellAt k (by omega), List.getElem?_set_self (by simp [HPl.out]; omega)]
        have hs2 : (wr.setCell ⟨w1.heap.size, k, none⟩ (.int .u8 (c.toNat : Int))).cell? ⟨b1, o1 + k, none⟩ = some (.int .u8 (x0.toNat : Int)) := by
          rw [World.cell?_setCell_other _ _ _ _ (by simp)]; exact hcK
        have hs3 : (wr.setCell ⟨w1.heap.size, k, none⟩ (.int .u8 (c.toNat : Int))).frozen? ⟨w1.heap.size, k, none⟩ = false := ho1.frozenAt k
        obtain ⟨ho2, _⟩ := ho1.stored k (.int .u8 (z.toNat : Int))
        rw [List.set_set, set_step _ _ k z hlt HPl.out hzk] at ho2
        have hbl2 := (hbl.setCell (p := ⟨w1.heap.size, k, none⟩) (Nat.le_refl _) (.int .u8 (c.toNat : Int))).setCell (p := ⟨w1.heap.size, k, none⟩) (Nat.le_refl _) (.int .u8 (z.toNat : Int))
        clear ho ho1 hz hzk hx0
        go_wp2
        go_roundw
        case rel => exact ⟨k + 1, by omega, by go_num, ho2, hbl2⟩
        case measure => simp [intOf]; omega
      · rw [List.getElem?_eq_none (by omega)] at hz
        have hzc : z = c := by rw [hz]; simp
        obtain ⟨ho1, _⟩ := ho.stored k (.int .u8 (z.toNat : Int))
        rw [set_step _ _ k z hlt HPl.out hzk, hzc] at ho1
        have hbl2 := hbl.setCell (p := ⟨w1.heap.size, k, none⟩) (Nat.le_refl _) (.int .u8 (c.toNat : Int))
        clear ho hz hzk hzc
        go_wp2
        go_roundw
        case rel => exact ⟨k + 1, by omega, by go_num, ho1, hbl2⟩
        case measure => simp [intOf]; omega
    · obtain rfl : k = 64 := by omega
      have e : PP.take 64 = PP := by rw [← HPl.out]; exact List.take_length
      rw [e] at ho
      simp only [Nat.sub_self, List.replicate_zero, List.append_nil] at ho
      have hbf : Below w.heap.size w wr := hb1.trans (hbl.mono hb1.size)
      go_wp2
      go_ret
      exact ⟨_, rfl, ho, hbf⟩

theorem rpad_any (w : World) (a : Option Addr) (ca : Nat) (key : List UInt8) (c : UInt8) (ha : Sees w a ca key) (hl : key.length ≤ 1048576) :
    Calls Tryd.prog 46 #[.slice a key.length ca, .int .u8 (c.toNat : Int)] w fun e w' => ∃ g, e = .returned (.slice (some ⟨g, 0, none⟩) 64 64) ∧ w'.ownsRow w.heap.size 5 1 (.slice (some ⟨g, 0, none⟩) 64 64) 64 ((padK key c).map cellOf) ∧ Below w.heap.size w w' := by
  by_cases h : 64 < key.length
  · exact rpad_long w a ca key c ha hl h
  · exact rpad_short w a ca key c ha hl h

theorem rpad_in (w : World) (a : Option Addr) (ca : Nat) (key : List UInt8) (ha : Sees w a ca key) (hl : key.length ≤ 1048576) :
    Calls Tryd.prog 46 #[.slice a key.length ca, .int .u8 54] w fun e w' => ∃ g, e = .returned (.slice (some ⟨g, 0, none⟩) 64 64) ∧ w'.ownsRow w.heap.size 5 1 (.slice (some ⟨g, 0, none⟩) 64 64) 64 ((inK key).map cellOf) ∧ Below w.heap.size w w' := rpad_any w a ca key 0x36 ha hl
theorem rpad_out (w : World) (a : Option Addr) (ca : Nat) (key : List UInt8) (ha : Sees w a ca key) (hl : key.length ≤ 1048576) :
    Calls Tryd.prog 46 #[.slice a key.length ca, .int .u8 92] w fun e w' => ∃ g, e = .returned (.slice (some ⟨g, 0, none⟩) 64 64) ∧ w'.ownsRow w.heap.size 5 1 (.slice (some ⟨g, 0, none⟩) 64 64) 64 ((outK key).map cellOf) ∧ Below w.heap.size w w' := rpad_any w a ca key 0x5C ha hl

theorem hmacL_def (key b : List UInt8) : hmacL key b = shaL (outK key ++ shaL (inK key ++ b)) := rfl
theorem own_len (l : List UInt8) (h : l.length = 64) {w : World} {B : Nat} {v : Value} (ho : w.ownsRow B 5 1 v 64 (l.map cellOf)) : w.ownsRow B 5 1 v l.length (l.map cellOf) := by rw [h]; exact ho

set_option maxHeartbeats 1600000 in
set_option maxRecDepth 20000 in
theorem rhof_own (w : World) (a : Option Addr) (ca : Nat) (key : List UInt8) (b : Option Addr) (cb : Nat) (bs : List UInt8) (ha : Sees w a ca key) (hb : Sees w b cb bs) (hk : key.length ≤ 1048576) (hl : bs.length ≤ 1048512) :
    Calls Tryd.prog 40 #[.slice a key.length ca, .slice b bs.length cb] w fun e w' => ∃ d cd r, Hid (r = hmacL key bs) ∧ e = .returned (.tuple #[.slice d r.length cd, .int .i64 0]) ∧ Sees w' d cd r ∧ Below w.heap.size w w' ∧ w'.ownsRow w.heap.size 5 1 (.slice d r.length cd) r.length (r.map cellOf) := by
  have hin := rpad_in w a ca key ha hk
  have HA : Hid (Sees w a ca key) := ha
  have HB : Hid (Sees w b cb bs) := hb
  clear ha hb
  go_enter Tryd.func40, Tryd.ntmps40
  go_wp2_with fail
  refine hin.mono ?_
  rintro e w1 ⟨g1, rfl, ho1, hb1⟩
  clear hin
  obtain ⟨I, hI⟩ : ∃ I, I = inK key := ⟨_, rfl⟩
  have hIl : I.length = 64 := by rw [hI]; exact padK_length key _
  rw [← hI] at ho1
  obtain ⟨v2, w2, hrun2, ho2, hk2⟩ := append_own_any w1 w.heap.size _ I (own_len I hIl ho1) b cb bs (HB.out.below hb1) (by omega) hb1.size
  have hb2 : Below w.heap.size w w2 := hk2 _ _ hb1 (Nat.le_refl _)
  obtain ⟨X, hX⟩ : ∃ X, X = I ++ bs := ⟨_, rfl⟩
  have hXl : X.length = 64 + bs.length := by rw [hX, List.length_append, hIl]
  rw [← hX] at ho2
  obtain ⟨x2, c2, rfl, hs2⟩ := Sees.of_own ho2
  have R2 : Hid ((Builtin.append_ #[22, 22] 22 #[.slice (some ⟨g1, 0, none⟩) 64 64, .slice b bs.length cb]).run Tryd.prog w1 = .ok (.slice x2 X.length c2) w2) := hrun2
  have hof := rof_ok w2 x2 c2 X hs2 (by omega)
  clear hXl hIl
  have hX2 : X = inK key ++ bs := by rw [hX, hI]
  have HX : Hid (X = inK key ++ bs) := hX2
  clear hX2
  clear hrun2 ho1 ho2 hk2 hI hX hs2
  go_wp2_with (first | (at_builtin; refine wpList_append_run rfl _ _ 22 rfl _ _ _ rfl rfl R2.out ?_) | fail)
  refine hof.mono ?_
  rintro e w3 ⟨x3, c3, D, hD, rfl, hs3, hb3⟩
  clear hof R2
  have hb3w := hb2.trans (hb3.mono hb2.size)
  have hout := rpad_out w3 a ca key (HA.out.below hb3w) hk
  go_wp2_with fail
  refine hout.mono ?_
  rintro e w4 ⟨g4, rfl, ho4, hb4⟩
  clear hout
  obtain ⟨O, hO⟩ : ∃ O, O = outK key := ⟨_, rfl⟩
  have hOl : O.length = 64 := by rw [hO]; exact padK_length key _
  have hDl : D.length = 32 := by rw [hD.out]; exact shaL_length _
  rw [← hO] at ho4
  have hb4w := hb3w.trans (hb4.mono hb3w.size)
  obtain ⟨v5, w5, hrun5, ho5, hk5⟩ := append_own_any w4 w3.heap.size _ O (own_len O hOl ho4) x3 c3 D (hs3.below hb4) (by omega) hb4.size
  have hb5 : Below w.heap.size w w5 := hk5 _ _ hb4w hb3w.size
  obtain ⟨Y, hY⟩ : ∃ Y, Y = O ++ D := ⟨_, rfl⟩
  have hYl : Y.length = 96 := by rw [hY, List.length_append, hOl, hDl]
  rw [← hY] at ho5
  obtain ⟨x5, c5, rfl, hs5⟩ := Sees.of_own ho5
  have R5 : Hid ((Builtin.append_ #[22, 22] 22 #[.slice (some ⟨g4, 0, none⟩) 64 64, .slice x3 D.length c3]).run Tryd.prog w4 = .ok (.slice x5 Y.length c5) w5) := hrun5
  have hof := rof_own w5 x5 c5 Y hs5 (by omega)
  clear hYl hOl hDl
  have hY2 : shaL Y = hmacL key bs := by rw [hY, hO, hD.out, HX.out, hmacL_def]
  have HY : Hid (shaL Y = hmacL key bs) := hY2
  clear hY2
  clear hrun5 ho4 ho5 hk5 hO hY hs5 hD
  go_wp2_with (first | (at_builtin; refine wpList_append_run rfl _ _ 22 rfl _ _ _ rfl rfl R5.out ?_) | fail)
  refine hof.mono ?_
  rintro e w6 ⟨x6, c6, r, hr, rfl, hs6, hb6, ho6⟩
  have hr6 : r = hmacL key bs := hr.out.trans HY.out
  have HR6 : Hid (r = hmacL key bs) := hr6
  clear hof R5 hr6 hr HY
  go_wp2
  go_ret2
  exact ⟨x6, c6, r, HR6, rfl, hs6, hb5.trans (hb6.mono hb5.size), ho6.mono hb5.size⟩

theorem rhof_ok (w : World) (a : Option Addr) (ca : Nat) (key : List UInt8) (b : Option Addr) (cb : Nat) (bs : List UInt8) (ha : Sees w a ca key) (hb : Sees w b cb bs) (hk : key.length ≤ 1048576) (hl : bs.length ≤ 1048512) :
    Calls Tryd.prog 40 #[.slice a key.length ca, .slice b bs.length cb] w fun e w' => ∃ d cd r, Hid (r = hmacL key bs) ∧ e = .returned (.tuple #[.slice d r.length cd, .int .i64 0]) ∧ Sees w' d cd r ∧ Below w.heap.size w w' :=
  (rhof_own w a ca key b cb bs ha hb hk hl).mono fun _ _ ⟨d, cd, r, h1, h2, h3, h4, _⟩ => ⟨d, cd, r, h1, h2, h3, h4⟩

end Go.Proofs.YtleedppcandbkaaDoor
