/-
  The contracts of the document's pad, Of, Short and Check of layer 3.
-/
import Derived.Test.YtkpaldkmikjpiaaDoorHmacMath
import Derived.Test.YtkpaldkmikjpiaaDoorRefOf
namespace Go.Proofs.YtkpaldkmikjpiaaDoor
open Go.ChangeShapes Go.WideShapes Go.ChangeAt Go.RowKit

set_option maxHeartbeats 1600000 in
set_option maxRecDepth 20000 in
theorem rpad_short (w : World) (a : Option Addr) (ca : Nat) (key : List UInt8) (c : UInt8) (ha : Sees w a ca key) (hl : key.length ≤ 1048576) (h64 : ¬ 64 < key.length) :
    Calls Tryd.prog 40 #[.slice a key.length ca, .int .u8 (c.toNat : Int)] w fun e w' => ∃ g, e = .returned (.slice (some ⟨g, 0, none⟩) 64 64) ∧ w'.ownsRow w.heap.size 5 1 (.slice (some ⟨g, 0, none⟩) 64 64) 64 ((padK key c).map cellOf) ∧ Below w.heap.size w w' := by
  obtain ⟨i5, hi, hz0, hz1, hz2⟩ := info_parts Tryd.info5
  obtain ⟨PP, hPP⟩ : ∃ P, P = padK key c := ⟨_, rfl⟩
  have HPl : Hid (PP.length = 64) := by rw [hPP]; exact padK_length key c
  rw [← hPP]
  have hK : keyL key = key := by unfold keyL; rw [if_neg h64]
  obtain ⟨K, hKk⟩ : ∃ K, K = key := ⟨_, rfl⟩
  have hKK : K = keyL key := by rw [hK]; exact hKk
  rw [← hKk] at ha ⊢
  obtain ⟨x, rfl⟩ : ∃ x, x = a := ⟨_, rfl⟩
  have hb1 : Below w.heap.size w w := Below.refl _ _
  have hx : Sees w x ca K := ha
  have h64' : K.length ≤ 64 := by rw [hKk]; omega
  clear ha hKk hK
  have HPat : Hid (∀ i, i < 64 → PP[i]? = some ((K[i]?.getD 0) ^^^ c)) := fun i hi => by rw [hPP, hKK]; exact padK_at key c i hi
  have hK64 : K.length ≤ 64 := by rw [hKK]; exact keyL_le key
  clear hPP hKK
  go_enter Tryd.func40, Tryd.ntmps40
  go_wp2_with (at_make; refine wpList_make_full _ rfl _ _ 22 rfl w.heap.size 5 i5 (.int .u8 0) 1 Tryd.underlying22 hi hz0 hz1 .i64 .i64 _ _ 64 rfl rfl rfl rfl ?b2 ?b3 ?b4 ?_)
  case b2 => rw [hz2]; omega
  case b3 => unfold maxLen; omega
  case b4 => exact hb1.size
  intro w2 hown hgrow
  have hbel : Below w.heap.size w w2 := (Below.refl _ _).grown hgrow (Nat.le_refl _) (by intro k h; cases h)
  have ho0 : w2.ownsRow w.heap.size 5 1 (.slice (some ⟨w.heap.size, 0, none⟩) 64 64) 64 ((PP.take 0 ++ List.replicate (64 - 0) 0).map cellOf) := by simpa [made_bytes] using hown
  clear hgrow hown
  go_wp2
  go_loopw [9] (fun i wr => ∃ k : Nat, k ≤ 64 ∧ i = .int .i64 k ∧ wr.ownsRow w.heap.size 5 1 (.slice (some ⟨w.heap.size, 0, none⟩) 64 64) 64 ((PP.take k ++ List.replicate (64 - k) 0).map cellOf) ∧ Below w.heap.size w wr) (fun i _ => 64 - (intOf i).toNat)
  case atStart => exact ⟨0, by omega, rfl, ho0, hbel⟩
  case round =>
    obtain ⟨k, hk, rfl, ho, hbl⟩ := hrel
    clear ho0 hbel
    by_cases hlt : k < 64
    · have hzk := HPat.out k hlt
      obtain ⟨z, hz⟩ : ∃ z, z = (K[k]?.getD 0) ^^^ c := ⟨_, rfl⟩
      rw [← hz] at hzk
      have hc3 : wr.cell? ⟨w.heap.size, k, none⟩ = some (.int .u8 0) := by rw [ho.cellAt k (by omega)]; exact at_step _ _ k hlt HPl.out
      have hf3 : wr.frozen? ⟨w.heap.size, k, none⟩ = false := ho.frozenAt k
      by_cases hkK : k < K.length
      · obtain ⟨x0, hx0⟩ : ∃ x0, K[k]? = some x0 := ⟨K[k], by simp [hkK]⟩
        rw [hx0] at hz
        obtain ⟨b1, o1, rfl, hcK⟩ := (hx.below hbl).get hx0
        have e1 : bits .xor .u8 (x0.toNat : Int) (c.toNat : Int) = (z.toNat : Int) := by rw [hz]; exact bxor x0 c
        have hb1G : b1 ≠ w.heap.size := by
          have h1 := World.block_lt_of_cell? w ⟨b1, o1 + k, none⟩ (by obtain ⟨b, o, hh, hcc⟩ := hx.get hx0; cases hh; exact hcc)
          intro h
          rw [h] at h1
          exact Nat.lt_irrefl _ h1
        obtain ⟨ho1, _⟩ := ho.stored k (.int .u8 (c.toNat : Int))
        have hs1 : (wr.setCell ⟨w.heap.size, k, none⟩ (.int .u8 (c.toNat : Int))).cell? ⟨w.heap.size, k, none⟩ = some (.int .u8 (c.toNat : Int)) := by
          rw [ho1.cellAt k (by omega), List.getElem?_set_self (by simp [HPl.out]; omega)]
        have hs2 : (wr.setCell ⟨w.heap.size, k, none⟩ (.int .u8 (c.toNat : Int))).cell? ⟨b1, o1 + k, none⟩ = some (.int .u8 (x0.toNat : Int)) := by
          rw [World.cell?_setCell_other _ _ _ _ (by simp)]; exact hcK
        have hs3 : (wr.setCell ⟨w.heap.size, k, none⟩ (.int .u8 (c.toNat : Int))).frozen? ⟨w.heap.size, k, none⟩ = false := ho1.frozenAt k
        obtain ⟨ho2, _⟩ := ho1.stored k (.int .u8 (z.toNat : Int))
        rw [List.set_set, set_step _ _ k z hlt HPl.out hzk] at ho2
        have hbl2 := (hbl.setCell (p := ⟨w.heap.size, k, none⟩) (Nat.le_refl _) (.int .u8 (c.toNat : Int))).setCell (p := ⟨w.heap.size, k, none⟩) (Nat.le_refl _) (.int .u8 (z.toNat : Int))
        clear ho ho1 hz hzk hx0
        go_wp2
        go_roundw
        case rel => exact ⟨k + 1, by omega, by go_num, ho2, hbl2⟩
        case measure => simp [intOf]; omega
      · rw [List.getElem?_eq_none (by omega)] at hz
        have hzc : z = c := by rw [hz]; simp
        obtain ⟨ho1, _⟩ := ho.stored k (.int .u8 (z.toNat : Int))
        rw [set_step _ _ k z hlt HPl.out hzk, hzc] at ho1
        have hbl2 := hbl.setCell (p := ⟨w.heap.size, k, none⟩) (Nat.le_refl _) (.int .u8 (c.toNat : Int))
        clear ho hz hzk hzc
        go_wp2
        go_roundw
        case rel => exact ⟨k + 1, by omega, by go_num, ho1, hbl2⟩
        case measure => simp [intOf]; omega
    · obtain rfl : k = 64 := by omega
      have e : PP.take 64 = PP := by rw [← HPl.out]; exact List.take_length
      rw [e] at ho
      simp only [Nat.sub_self, List.replicate_zero, List.append_nil] at ho
      have hbf : Below w.heap.size w wr := hb1.trans (hbl.mono hb1.size)
      go_wp2
      go_ret
      exact ⟨_, rfl, ho, hbf⟩

set_option maxHeartbeats 1600000 in
set_option maxRecDepth 20000 in
theorem rpad_long (w : World) (a : Option Addr) (ca : Nat) (key : List UInt8) (c : UInt8) (ha : Sees w a ca key) (hl : key.length ≤ 1048576) (h64 : 64 < key.length) :
    Calls Tryd.prog 40 #[.slice a key.length ca, .int .u8 (c.toNat : Int)] w fun e w' => ∃ g, e = .returned (.slice (some ⟨g, 0, none⟩) 64 64) ∧ w'.ownsRow w.heap.size 5 1 (.slice (some ⟨g, 0, none⟩) 64 64) 64 ((padK key c).map cellOf) ∧ Below w.heap.size w w' := by
  obtain ⟨i5, hi, hz0, hz1, hz2⟩ := info_parts Tryd.info5
  obtain ⟨PP, hPP⟩ : ∃ P, P = padK key c := ⟨_, rfl⟩
  have HPl : Hid (PP.length = 64) := by rw [hPP]; exact padK_length key c
  rw [← hPP]
  have hK : keyL key = shaL key := by unfold keyL; rw [if_pos h64]
  have hof := rof_ok w a ca key ha hl
  clear ha
  go_enter Tryd.func40, Tryd.ntmps40
  go_wp2_with fail
  refine hof.mono ?_
  rintro e w1 ⟨x, cx, K, hKe, rfl, hx, hb1⟩
  clear hof
  have hKK : K = keyL key := by rw [hK]; exact hKe.out
  clear hKe hK
  have HPat : Hid (∀ i, i < 64 → PP[i]? = some ((K[i]?.getD 0) ^^^ c)) := fun i hi => by rw [hPP, hKK]; exact padK_at key c i hi
  have hK64 : K.length ≤ 64 := by rw [hKK]; exact keyL_le key
  clear hPP hKK
  go_wp2_with (at_make; refine wpList_make_full _ rfl _ _ 22 rfl w.heap.size 5 i5 (.int .u8 0) 1 Tryd.underlying22 hi hz0 hz1 .i64 .i64 _ _ 64 rfl rfl rfl rfl ?b2 ?b3 ?b4 ?_)
  case b2 => rw [hz2]; omega
  case b3 => unfold maxLen; omega
  case b4 => exact hb1.size
  intro w2 hown hgrow
  have hbel : Below w1.heap.size w1 w2 := (Below.refl _ _).grown hgrow (Nat.le_refl _) (by intro k h; cases h)
  have ho0 : w2.ownsRow w.heap.size 5 1 (.slice (some ⟨w1.heap.size, 0, none⟩) 64 64) 64 ((PP.take 0 ++ List.replicate (64 - 0) 0).map cellOf) := by simpa [made_bytes] using hown
  clear hgrow hown
  go_wp2
  go_loopw [9] (fun i wr => ∃ k : Nat, k ≤ 64 ∧ i = .int .i64 k ∧ wr.ownsRow w.heap.size 5 1 (.slice (some ⟨w1.heap.size, 0, none⟩) 64 64) 64 ((PP.take k ++ List.replicate (64 - k) 0).map cellOf) ∧ Below w1.heap.size w1 wr) (fun i _ => 64 - (intOf i).toNat)
  case atStart => exact ⟨0, by omega, rfl, ho0, hbel⟩
  case round =>
    obtain ⟨k, hk, rfl, ho, hbl⟩ := hrel
    clear ho0 hbel
    by_cases hlt : k < 64
    · have hzk := HPat.out k hlt
      obtain ⟨z, hz⟩ : ∃ z, z = (K[k]?.getD 0) ^^^ c := ⟨_, rfl⟩
      rw [← hz] at hzk
      have hc3 : wr.cell? ⟨w1.heap.size, k, none⟩ = some (.int .u8 0) := by rw [ho.cellAt k (by omega)]; exact at_step _ _ k hlt HPl.out
      have hf3 : wr.frozen? ⟨w1.heap.size, k, none⟩ = false := ho.frozenAt k
      by_cases hkK : k < K.length
      · obtain ⟨x0, hx0⟩ : ∃ x0, K[k]? = some x0 := ⟨K[k], by simp [hkK]⟩
        rw [hx0] at hz
        obtain ⟨b1, o1, rfl, hcK⟩ := (hx.below hbl).get hx0
        have e1 : bits .xor .u8 (x0.toNat : Int) (c.toNat : Int) = (z.toNat : Int) := by rw [hz]; exact bxor x0 c
        have hb1G : b1 ≠ w1.heap.size := by
          have h1 := World.block_lt_of_cell? w1 ⟨b1, o1 + k, none⟩ (by obtain ⟨b, o, hh, hcc⟩ := hx.get hx0; cases hh; exact hcc)
          intro h
          rw [h] at h1
          exact Nat.lt_irrefl _ h1
        obtain ⟨ho1, _⟩ := ho.stored k (.int .u8 (c.toNat : Int))
        have hs1 : (wr.setCell ⟨w1.heap.size, k, none⟩ (.int .u8 (c.toNat : Int))).cell? ⟨w1.heap.size, k, none⟩ = some (.int .u8 (c.toNat : Int)) := by
          rw [ho1.cellAt k (by omega), List.getElem?_set_self (by simp [HPl.out]; omega)]
        have hs2 : (wr.setCell ⟨w1.heap.size, k, none⟩ (.int .u8 (c.toNat : Int))).cell? ⟨b1, o1 + k, none⟩ = some (.int .u8 (x0.toNat : Int)) := by
          rw [World.cell?_setCell_other _ _ _ _ (by simp)]; exact hcK
        have hs3 : (wr.setCell ⟨w1.heap.size, k, none⟩ (.int .u8 (c.toNat : Int))).frozen? ⟨w1.heap.size, k, none⟩ = false := ho1.frozenAt k
        obtain ⟨ho2, _⟩ := ho1.stored k (.int .u8 (z.toNat : Int))
        rw [List.set_set, set_step _ _ k z hlt HPl.out hzk] at ho2
        have hbl2 := (hbl.setCell (p := ⟨w1.heap.size, k, none⟩) (Nat.le_refl _) (.int .u8 (c.toNat : Int))).setCell (p := ⟨w1.heap.size, k, none⟩) (Nat.le_refl _) (.int .u8 (z.toNat : Int))
        clear ho ho1 hz hzk hx0
        go_wp2
        go_roundw
        case rel => exact ⟨k + 1, by omega, by go_num, ho2, hbl2⟩
        case measure => simp [intOf]; omega
      · rw [List.getElem?_eq_none (by omega)] at hz
        have hzc : z = c := by rw [hz]; simp
        obtain ⟨ho1, _⟩ := ho.stored k (.int .u8 (z.toNat : Int))
        rw [set_step _ _ k z hlt HPl.out hzk, hzc] at ho1
        have hbl2 := hbl.setCell (p := ⟨w1.heap.size, k, none⟩) (Nat.le_refl _) (.int .u8 (c.toNat : Int))
        clear ho hz hzk hzc
        go_wp2
        go_roundw
        case rel => exact ⟨k + 1, by omega, by go_num, ho1, hbl2⟩
        case measure => simp [intOf]; omega
    · obtain rfl : k = 64 := by omega
      have e : PP.take 64 = PP := by rw [← HPl.out]; exact List.take_length
      rw [e] at ho
      simp only [Nat.sub_self, List.replicate_zero, List.append_nil] at ho
      have hbf : Below w.heap.size w wr := hb1.trans (hbl.mono hb1.size)
      go_wp2
      go_ret
      exact ⟨_, rfl, ho, hbf⟩

theorem rpad_any (w : World) (a : Option Addr) (ca : Nat) (key : List UInt8) (c : UInt8) (ha : Sees w a ca key) (hl : key.length ≤ 1048576) :
    Calls Tryd.prog 40 #[.slice a key.length ca, .int .u8 (c.toNat : Int)] w fun e w' => ∃ g, e = .returned (.slice (some ⟨g, 0, none⟩) 64 64) ∧ w'.ownsRow w.heap.size 5 1 (.slice (some ⟨g, 0, none⟩) 64 64) 64 ((padK key c).map cellOf) ∧ Below w.heap.size w w' := by
  by_cases h : 64 < key.length
  · exact rpad_long w a ca key c ha hl h
  · exact rpad_short w a ca key c ha hl h

theorem rpad_in (w : World) (a : Option Addr) (ca : Nat) (key : List UInt8) (ha : Sees w a ca key) (hl : key.length ≤ 1048576) :
    Calls Tryd.prog 40 #[.slice a key.length ca, .int .u8 54] w fun e w' => ∃ g, e = .returned (.slice (some ⟨g, 0, none⟩) 64 64) ∧ w'.ownsRow w.heap.size 5 1 (.slice (some ⟨g, 0, none⟩) 64 64) 64 ((inK key).map cellOf) ∧ Below w.heap.size w w' := rpad_any w a ca key 0x36 ha hl
theorem rpad_out (w : World) (a : Option Addr) (ca : Nat) (key : List UInt8) (ha : Sees w a ca key) (hl : key.length ≤ 1048576) :
    Calls Tryd.prog 40 #[.slice a key.length ca, .int .u8 92] w fun e w' => ∃ g, e = .returned (.slice (some ⟨g, 0, none⟩) 64 64) ∧ w'.ownsRow w.heap.size 5 1 (.slice (some ⟨g, 0, none⟩) 64 64) 64 ((outK key).map cellOf) ∧ Below w.heap.size w w' := rpad_any w a ca key 0x5C ha hl

theorem hmacL_def (key b : List UInt8) : hmacL key b = shaL (outK key ++ shaL (inK key ++ b)) := rfl
theorem own_len (l : List UInt8) (h : l.length = 64) {w : World} {B : Nat} {v : Value} (ho : w.ownsRow B 5 1 v 64 (l.map cellOf)) : w.ownsRow B 5 1 v l.length (l.map cellOf) := by rw [h]; exact ho

set_option maxHeartbeats 1600000 in
set_option maxRecDepth 20000 in
theorem rhof_own (w : World) (a : Option Addr) (ca : Nat) (key : List UInt8) (b : Option Addr) (cb : Nat) (bs : List UInt8) (ha : Sees w a ca key) (hb : Sees w b cb bs) (hk : key.length ≤ 1048576) (hl : bs.length ≤ 1048512) :
    Calls Tryd.prog 27 #[.slice a key.length ca, .slice b bs.length cb] w fun e w' => ∃ d cd r, Hid (r = hmacL key bs) ∧ e = .returned (.tuple #[.slice d r.length cd, .int .i64 0]) ∧ Sees w' d cd r ∧ Below w.heap.size w w' ∧ w'.ownsRow w.heap.size 5 1 (.slice d r.length cd) r.length (r.map cellOf) := by
  have hin := rpad_in w a ca key ha hk
  have HA : Hid (Sees w a ca key) := ha
  have HB : Hid (Sees w b cb bs) := hb
  clear ha hb
  go_enter Tryd.func27, Tryd.ntmps27
  go_wp2_with fail
  refine hin.mono ?_
  rintro e w1 ⟨g1, rfl, ho1, hb1⟩
  clear hin
  obtain ⟨I, hI⟩ : ∃ I, I = inK key := ⟨_, rfl⟩
  have hIl : I.length = 64 := by rw [hI]; exact padK_length key _
  rw [← hI] at ho1
  obtain ⟨v2, w2, hrun2, ho2, hk2⟩ := append_own_any w1 w.heap.size _ I (own_len I hIl ho1) b cb bs (HB.out.below hb1) (by omega) hb1.size
  have hb2 : Below w.heap.size w w2 := hk2 _ _ hb1 (Nat.le_refl _)
  obtain ⟨X, hX⟩ : ∃ X, X = I ++ bs := ⟨_, rfl⟩
  have hXl : X.length = 64 + bs.length := by rw [hX, List.length_append, hIl]
  rw [← hX] at ho2
  obtain ⟨x2, c2, rfl, hs2⟩ := Sees.of_own ho2
  have R2 : Hid ((Builtin.append_ #[22, 22] 22 #[.slice (some ⟨g1, 0, none⟩) 64 64, .slice b bs.length cb]).run Tryd.prog w1 = .ok (.slice x2 X.length c2) w2) := hrun2
  have hof := rof_ok w2 x2 c2 X hs2 (by omega)
  clear hXl hIl
  have hX2 : X = inK key ++ bs := by rw [hX, hI]
  have HX : Hid (X = inK key ++ bs) := hX2
  clear hX2
  clear hrun2 ho1 ho2 hk2 hI hX hs2
  go_wp2_with (first | (at_builtin; refine wpList_append_run rfl _ _ 22 rfl _ _ _ rfl rfl R2.out ?_) | fail)
  refine hof.mono ?_
  rintro e w3 ⟨x3, c3, D, hD, rfl, hs3, hb3⟩
  clear hof R2
  have hb3w := hb2.trans (hb3.mono hb2.size)
  have hout := rpad_out w3 a ca key (HA.out.below hb3w) hk
  go_wp2_with fail
  refine hout.mono ?_
  rintro e w4 ⟨g4, rfl, ho4, hb4⟩
  clear hout
  obtain ⟨O, hO⟩ : ∃ O, O = outK key := ⟨_, rfl⟩
  have hOl : O.length = 64 := by rw [hO]; exact padK_length key _
  have hDl : D.length = 32 := by rw [hD.out]; exact shaL_length _
  rw [← hO] at ho4
  have hb4w := hb3w.trans (hb4.mono hb3w.size)
  obtain ⟨v5, w5, hrun5, ho5, hk5⟩ := append_own_any w4 w3.heap.size _ O (own_len O hOl ho4) x3 c3 D (hs3.below hb4) (by omega) hb4.size
  have hb5 : Below w.heap.size w w5 := hk5 _ _ hb4w hb3w.size
  obtain ⟨Y, hY⟩ : ∃ Y, Y = O ++ D := ⟨_, rfl⟩
  have hYl : Y.length = 96 := by rw [hY, List.length_append, hOl, hDl]
  rw [← hY] at ho5
  obtain ⟨x5, c5, rfl, hs5⟩ := Sees.of_own ho5
  have R5 : Hid ((Builtin.append_ #[22, 22] 22 #[.slice (some ⟨g4, 0, none⟩) 64 64, .slice x3 D.length c3]).run Tryd.prog w4 = .ok (.slice x5 Y.length c5) w5) := hrun5
  have hof := rof_own w5 x5 c5 Y hs5 (by omega)
  clear hYl hOl hDl
  have hY2 : shaL Y = hmacL key bs := by rw [hY, hO, hD.out, HX.out, hmacL_def]
  have HY : Hid (shaL Y = hmacL key bs) := hY2
  clear hY2
  clear hrun5 ho4 ho5 hk5 hO hY hs5 hD
  go_wp2_with (first | (at_builtin; refine wpList_append_run rfl _ _ 22 rfl _ _ _ rfl rfl R5.out ?_) | fail)
  refine hof.mono ?_
  rintro e w6 ⟨x6, c6, r, hr, rfl, hs6, hb6, ho6⟩
  have hr6 : r = hmacL key bs := hr.out.trans HY.out
  have HR6 : Hid (r = hmacL key bs) := hr6
  clear hof R5 hr6 hr HY
  go_wp2
  go_ret2
  exact ⟨x6, c6, r, HR6, rfl, hs6, hb5.trans (hb6.mono hb5.size), ho6.mono hb5.size⟩

theorem rhof_ok (w : World) (a : Option Addr) (ca : Nat) (key : List UInt8) (b : Option Addr) (cb : Nat) (bs : List UInt8) (ha : Sees w a ca key) (hb : Sees w b cb bs) (hk : key.length ≤ 1048576) (hl : bs.length ≤ 1048512) :
    Calls Tryd.prog 27 #[.slice a key.length ca, .slice b bs.length cb] w fun e w' => ∃ d cd r, Hid (r = hmacL key bs) ∧ e = .returned (.tuple #[.slice d r.length cd, .int .i64 0]) ∧ Sees w' d cd r ∧ Below w.heap.size w w' :=
  (rhof_own w a ca key b cb bs ha hb hk hl).mono fun _ _ ⟨d, cd, r, h1, h2, h3, h4, _⟩ => ⟨d, cd, r, h1, h2, h3, h4⟩

end Go.Proofs.YtkpaldkmikjpiaaDoor
