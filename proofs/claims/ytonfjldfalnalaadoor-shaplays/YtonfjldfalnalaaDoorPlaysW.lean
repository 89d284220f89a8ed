/-
  Slices of slices of bytes; the walk of ShaPlays.
-/
import Derived.Test.YtonfjldfalnalaaDoorAv
import Derived.Test.YtonfjldfalnalaaDoorRefOf
import Derived.Deep.Matrix
namespace Go.Proofs.YtonfjldfalnalaaDoor
open Go.ChangeShapes Go.WideShapes Go.ChangeAt Go.RowKit

/-- The slice '.slice a L.length cap' reads as lists of bytes. -/
structure Rowss (w : World) (a : Option Addr) (cap : Nat) (L : List (List UInt8)) : Prop where
  fits : L.length ≤ cap
  room : cap ≤ maxLen
  at' : ∀ (r : Nat) (bs : List UInt8), L[r]? = some bs → ∃ b off, a = some ⟨b, off, none⟩ ∧ ∃ x cx, w.cell? ⟨b, off + r, none⟩ = some (.slice x bs.length cx) ∧ Sees w x cx bs

theorem rowss_of_arg {H : Type} {enc : TypeId × Value → H} {W : World} {fuel : Nat} {a : Option Addr} {len cap : Nat} {d : DataW H} {p : List MemPlace}
    (hf : DataW.trod enc Tryd.prog W 0 (fun _ => true) true fuel 42 (Value.slice a len cap).cells.toList = some (d, p)) :
    ∃ L : List (List UInt8), len = L.length ∧ Rowss W a cap L ∧ True := by
  rcases Deep.open_int_rows Tryd.underlying42 Tryd.underlying22 Tryd.underlying5 (by kernel_rfl) (by kernel_rfl) hf with ⟨hcs, _⟩ | ⟨ad, l, c, A, Ln, C, Z, hcs, _, hl, hm, _, hrow⟩
  · simp [Value.cells] at hcs
    obtain ⟨rfl, rfl, rfl⟩ := hcs
    exact ⟨[], rfl, ⟨by simp, by simp, fun r bs h => by simp at h⟩, trivial⟩
  · simp [Value.cells] at hcs
    obtain ⟨rfl, rfl, rfl⟩ := hcs
    refine ⟨(List.range len).map fun r => ((Z r).take (Ln r)).map fun z => UInt8.ofNat z.toNat, by simp, ⟨by simpa using hl, hm, fun r bs hr => ?_⟩, trivial⟩
    have hrl : r < len := by have := (List.getElem?_eq_some_iff.1 hr).1; simpa using this
    have hbs : bs = ((Z r).take (Ln r)).map fun z => UInt8.ofNat z.toNat := by
      simp [hrl] at hr; rw [← hr, List.map_take]
    obtain ⟨hc, h1, h2, h3, h4, h5, h6⟩ := hrow r (by omega)
    obtain ⟨b, off, spot⟩ := ad
    have hspot : spot = none := by
      have := World.cell?_spot (hrow 0 (by omega)).1
      simpa [Addr.add] using this
    subst hspot
    rw [Addr.add_lit] at hc
    have hbl : bs.length = Ln r := by rw [hbs]; simp; omega
    refine ⟨b, off, rfl, A r, C r, by rw [hbl]; exact hc, ⟨by omega, h2, h5, fun hne => ?_⟩⟩
    have h0 : 0 < Ln r := by rw [← hbl]; exact List.length_pos_iff.2 hne
    cases hA : A r with
    | none => have := h5 hA; omega
    | some a' =>
      obtain ⟨_, hcc⟩ := h6 a' hA
      obtain ⟨b2, o2, sp2⟩ := a'
      have hsp2 : sp2 = none := by
        have := World.cell?_spot (hcc 0 (by omega))
        simpa [Addr.add] using this
      subst hsp2
      refine ⟨b2, o2, rfl, fun i y hy => ?_⟩
      have hi : i < Ln r := by rw [← hbl]; exact (List.getElem?_eq_some_iff.1 hy).1
      have hci := hcc i (by omega)
      rw [Addr.add_lit] at hci
      rw [hci]
      have hb := bounds_u8 (h4 ((Z r).getD i 0) (by rw [List.getD_eq_getElem?_getD, List.getElem?_eq_getElem (by omega)]; exact List.getElem_mem _))
      have e1 : y = UInt8.ofNat ((Z r).getD i 0).toNat := by
        rw [hbs] at hy
        simp [hi] at hy
        obtain ⟨q, hq, rfl⟩ := hy
        simp [hq]
      rw [e1]
      congr 2
      rw [UInt8.toNat_ofNat']
      omega

set_option maxHeartbeats 8000000 in
set_option maxRecDepth 20000 in
theorem plays_walk (a : Option Addr) (ca : Nat) (L : List (List UInt8)) (y : Int) (w : World) (hTab : FTab w ∧ KTab w) (hr : Rowss w a ca L) (_ : True) (wy : (Lit.int .u8 y).wf = true) :
    Calls Tryd.prog 6 #[.slice a L.length ca, .int .u8 y] w fun e w' => e = .returned (.bool true) ∧ Below w.heap.size w w' := by
  obtain ⟨n, rfl, hn⟩ : ∃ n : Nat, y = n ∧ n < 256 := ⟨y.toNat, by have := bounds_u8 wy; omega, by have := bounds_u8 wy; omega⟩
  have HF : Hid (FTab w) := hTab.1
  have HK : Hid (KTab w) := hTab.2
  have HRR : Hid (Rowss w a ca L) := hr
  have hlm : L.length ≤ 9223372036854775807 := by have := hr.fits; have := hr.room; unfold maxLen at this; omega
  have hnew := new_any w hTab.1
  clear hTab hr wy
  go_enter Tryd.func6, Tryd.ntmps6
  go_wp2_with fail
  refine hnew.mono ?_
  rintro e w1 ⟨rfl, hD1, hb1⟩
  have av1 : Av w1 w.heap.size [] (.slice none 0 0) := by
    obtain ⟨a, ho, hs⟩ := hD1.obj
    exact ⟨a, ho, hs, fun _ _ _ h => absurd rfl h⟩
  have own1 : w1.ownsRow (w.heap.size + 1) 5 1 (.slice none 0 0) ([] : List UInt8).length (([] : List UInt8).map cellOf) := World.ownsRow_nil _ _ _ _
  clear hnew hD1
  go_wp2
  go_loopw [6, 7] (fun v i wr => ∃ (k : Nat) (acc : List UInt8) (d : Option Addr) (cd : Nat), k ≤ L.length ∧ k ≤ 20 ∧ i = .int .i64 k ∧ v = .slice d acc.length cd ∧ acc.length ≤ 1000 * k ∧
      wr.ownsRow (w.heap.size + 1) 5 1 (.slice d acc.length cd) acc.length (acc.map cellOf) ∧ Av wr w.heap.size acc (.slice d acc.length cd) ∧ Below w.heap.size w wr)
    (fun _ i _ => 20 - (intOf i).toNat)
  case atStart => exact ⟨0, [], none, 0, Nat.zero_le _, by omega, rfl, rfl, by simp, own1, av1, hb1⟩
  case round =>
    obtain ⟨k, acc, d, cd, hkL, hk20, rfl, rfl, hal, own, av, bel⟩ := hrel
    clear own1 av1 hb1
    by_cases hlt : k < L.length ∧ k < 20
    · obtain ⟨hlt1, hlt2⟩ := hlt
      obtain ⟨p, hp⟩ : ∃ p, L[k]? = some p := ⟨L[k], by simp [hlt1]⟩
      obtain ⟨rb, ro, rfl, x, cx, hcell, hsee⟩ := HRR.out.at' k p hp
      have hlt5 : rb < w.heap.size := World.block_lt_of_cell? w _ hcell
      have hcellr : wr.cell? ⟨rb, ro + k, none⟩ = some (.slice x p.length cx) := by rw [bel.cell (p := ⟨rb, ro + k, none⟩) hlt5]; exact hcell
      have hpm : p.length ≤ 9223372036854775807 := by have := hsee.fits; have := hsee.room; unfold maxLen at this; omega
      have t1 : decide ((k : Int) < (L.length : Int)) = true := by simp; omega
      have t2 : decide ((k : Int) < 20) = true := by simp; omega
      clear hp
      by_cases hbig : 1000 < p.length
      · have haw := awake_any wr (HF.out.below bel) (HK.out.below bel)
        clear own av
        go_wp2_with fail
        refine haw.mono ?_
        rintro e w3 ⟨rfl, hb3⟩
        go_wp2
        go_ret
        exact ⟨rfl, bel.trans (hb3.mono bel.size)⟩
      · have dp : decide ((1000 : Int) < (p.length : Int)) = false := by simp; omega
        have hp1000 : p.length ≤ 1000 := by omega
        clear hbig
        by_cases hq : k = n % 8
        · have hqq : ((k : Int) == (n : Int) % 8) = true := by simp; omega
          have HQ : Hid (k = n % 8) := hq
          have hcp := copy_yes wr w.heap.size acc (av.dig (by omega))
          clear hq
          go_wp2_with fail
          refine hcp.mono ?_
          rintro e w2 ⟨rfl, hD2, hb2⟩
          have hb3 : Below w2.heap.size w2 (w2.alloc (.cells #[.int .u8 1, .int .u8 2, .int .u8 3] 5)) := (Below.refl _ _).alloc (Nat.le_refl _) _
          have hsx : Sees (w2.alloc (.cells #[.int .u8 1, .int .u8 2, .int .u8 3] 5)) (some ⟨w2.heap.size, 0, none⟩) 3 [1, 2, 3] :=
            ⟨by simp, by unfold maxLen; omega, by simp, fun _ => ⟨w2.heap.size, 0, rfl, fun i x hx => by
              rw [cell_of_row _ _ (0 + i) _ _ _ (heap_alloc_new w2 _), Nat.zero_add]
              match i, hx with
              | 0, hx => simp at hx; subst hx; rfl
              | 1, hx => simp at hx; subst hx; rfl
              | 2, hx => simp at hx; subst hx; rfl
              | k + 3, hx => simp at hx⟩⟩
          have bel2 := bel.trans (hb2.mono bel.size)
          have bel2a := bel2.trans (hb3.mono bel2.size)
          have hwc := write_any (w2.alloc (.cells #[.int .u8 1, .int .u8 2, .int .u8 3] 5)) wr.heap.size acc (hD2.below hb3) _ 3 [1, 2, 3] hsx (HK.out.below bel2a) (by simp; omega)
          have own2 := own_below (own_below own hb2) hb3
          have av2 := (av.below hb2).below hb3
          have hD2a := hD2.below hb3
          have hDlt := (av.dig (by omega)).lt
          have hownlt : ∀ g, (Value.slice d acc.length cd).ownBlock = some g → g < wr.heap.size := fun g h => (own.lt _ h).2
          clear hcp own av hb3 hsx hb2 hD2 bel2
          go_wp2_with fail
          refine hwc.mono ?_
          rintro e w3 ⟨rfl, hD3, hbt3⟩
          have own3 := own_but own2 hbt3 (fun h => by have := hownlt _ h; omega)
          have av3 := av2.but hD2a hbt3 (by omega)
          have bel3 : Below w.heap.size w w3 := hbt3.below bel2a (by omega)
          have hlc := len_yes w3 wr.heap.size (acc ++ [1, 2, 3]) hD3
          rw [List.length_append, show ([1, 2, 3] : List UInt8).length = 3 from rfl] at hlc
          have hcell3 : w3.cell? ⟨rb, ro + k, none⟩ = some (.slice x p.length cx) := by rw [bel3.cell (p := ⟨rb, ro + k, none⟩) hlt5]; exact hcell
          clear hwc own2 av2 hD2a hbt3 hownlt bel2a
          go_wp2_with fail
          refine hlc.mono ?_
          rintro e w9 ⟨rfl, hw9⟩
          rw [hw9]
          clear hlc hw9 w9 hD3
          have hfit : acc.length + p.length ≤ 1048576 := by omega
          have hwr := write_av w3 w.heap.size (w.heap.size + 1) acc (.slice d acc.length cd) acc.length (acc.map cellOf) own3 av3 (by omega) x cx p (hsee.below bel3) (HK.out.below bel3) hfit
          go_wp2_with fail
          refine hwr.mono ?_
          rintro e w4 ⟨rfl, av4, hbt4⟩
          have hneD : (Value.slice d acc.length cd).ownBlock ≠ some w.heap.size := fun h => by have := (own3.lt _ h).1; omega
          have own4 := own_but own3 hbt4 hneD
          have bel4 := hbt4.below bel3 (Nat.le_refl _)
          have hcell4 : w4.cell? ⟨rb, ro + k, none⟩ = some (.slice x p.length cx) := by rw [bel4.cell (p := ⟨rb, ro + k, none⟩) hlt5]; exact hcell
          have hsz4 : w.heap.size + 1 ≤ w4.heap.size := by have := av4.dig (by rw [List.length_append]; exact hfit); exact this.lt
          obtain ⟨d5, cd5, w5, hrun, own5, av5, hk5⟩ := append_av w4 w.heap.size (w.heap.size + 1) (by omega) _ acc (acc ++ p) own4 av4 x cx p (hsee.below bel4) (by omega) hsz4
          have bel5 := hk5 _ _ bel4 (by omega)
          obtain ⟨A, hA⟩ : ∃ A, A = acc ++ p := ⟨_, rfl⟩
          rw [← hA] at hrun own5 av5
          have hAl : A.length = acc.length + p.length := by rw [hA, List.length_append]
          have HAl : Hid (A.length = acc.length + p.length) := hAl
          have R5 : Hid ((Builtin.append_ #[22, 22] 22 #[.slice d acc.length cd, .slice x p.length cx]).run Tryd.prog w4 = .ok (.slice d5 A.length cd5) w5) := hrun
          have dig5 := av5.dig (by omega)
          have hsum := sum_yes w5 w.heap.size A dig5 (HK.out.below bel5)
          clear hwr hrun hbt4 own3 av3 own4 av4 hk5 hA hAl hneD
          go_wp2_with (at_builtin; refine wpList_append_run rfl _ _ 22 rfl _ _ _ rfl rfl R5.out ?_)
          refine hsum.mono ?_
          rintro e w6 ⟨d6, c6, r6, hr6, rfl, hs6, hb6⟩
          have own6 := own_below own5 hb6
          have av6 := av5.below hb6
          have bel6 := bel5.trans (hb6.mono bel5.size)
          obtain ⟨dd, cc, hvv, hse6⟩ := Sees.of_own own6
          simp only [Value.slice.injEq] at hvv
          obtain ⟨rfl, _, rfl⟩ := hvv
          have hof := rof_ok w6 d5 cd5 A hse6 (by have := HAl.out; omega)
          clear hsum own5 av5 dig5 R5
          go_wp2_with fail
          refine hof.mono ?_
          rintro e w7 ⟨d7, c7, r7, hr7, rfl, hs7, hb7⟩
          have own7 := own_below own6 hb7
          have av7 := av6.below hb7
          have bel7 := bel6.trans (hb7.mono bel6.size)
          have hs67 := hs6.below hb7
          have hrr : r7 = r6 := by rw [hr7.out, hr6.out]
          subst hrr
          have e1 := hs67.convert (P := Tryd.prog) 22 5 9 Tryd.underlying22 Tryd.underlying5 Tryd.underlying9
          have e2 := hs7.convert (P := Tryd.prog) 22 5 9 Tryd.underlying22 Tryd.underlying5 Tryd.underlying9
          have hlen7 := len_yes w7 w.heap.size A (av7.dig (by have := HAl.out; omega))
          clear hof own6 av6 hse6
          go_wp2_with fail
          refine hlen7.mono ?_
          rintro e w8 ⟨rfl, hw8⟩
          rw [hw8]
          clear hlen7 hw8 w8
          go_wp2
          go_roundw
          case rel => exact ⟨k + 1, A, d5, cd5, by omega, by omega, by go_num, rfl, by have := HAl.out; omega, own7, av7, bel7⟩
          case measure => simp [intOf]; omega
        · have hqq : ((k : Int) == (n : Int) % 8) = false := by simp; omega
          have HQ : Hid (¬ k = n % 8) := hq
          have own3 := own
          have av3 := av
          have bel3 := bel
          clear hq own av
          have hfit : acc.length + p.length ≤ 1048576 := by omega
          have hwr := write_av wr w.heap.size (w.heap.size + 1) acc (.slice d acc.length cd) acc.length (acc.map cellOf) own3 av3 (by omega) x cx p (hsee.below bel3) (HK.out.below bel3) hfit
          go_wp2_with fail
          refine hwr.mono ?_
          rintro e w4 ⟨rfl, av4, hbt4⟩
          have hneD : (Value.slice d acc.length cd).ownBlock ≠ some w.heap.size := fun h => by have := (own3.lt _ h).1; omega
          have own4 := own_but own3 hbt4 hneD
          have bel4 := hbt4.below bel3 (Nat.le_refl _)
          have hcell4 : w4.cell? ⟨rb, ro + k, none⟩ = some (.slice x p.length cx) := by rw [bel4.cell (p := ⟨rb, ro + k, none⟩) hlt5]; exact hcell
          have hsz4 : w.heap.size + 1 ≤ w4.heap.size := by have := av4.dig (by rw [List.length_append]; exact hfit); exact this.lt
          obtain ⟨d5, cd5, w5, hrun, own5, av5, hk5⟩ := append_av w4 w.heap.size (w.heap.size + 1) (by omega) _ acc (acc ++ p) own4 av4 x cx p (hsee.below bel4) (by omega) hsz4
          have bel5 := hk5 _ _ bel4 (by omega)
          obtain ⟨A, hA⟩ : ∃ A, A = acc ++ p := ⟨_, rfl⟩
          rw [← hA] at hrun own5 av5
          have hAl : A.length = acc.length + p.length := by rw [hA, List.length_append]
          have HAl : Hid (A.length = acc.length + p.length) := hAl
          have R5 : Hid ((Builtin.append_ #[22, 22] 22 #[.slice d acc.length cd, .slice x p.length cx]).run Tryd.prog w4 = .ok (.slice d5 A.length cd5) w5) := hrun
          have dig5 := av5.dig (by omega)
          have hsum := sum_yes w5 w.heap.size A dig5 (HK.out.below bel5)
          clear hwr hrun hbt4 own3 av3 own4 av4 hk5 hA hAl hneD
          go_wp2_with (at_builtin; refine wpList_append_run rfl _ _ 22 rfl _ _ _ rfl rfl R5.out ?_)
          refine hsum.mono ?_
          rintro e w6 ⟨d6, c6, r6, hr6, rfl, hs6, hb6⟩
          have own6 := own_below own5 hb6
          have av6 := av5.below hb6
          have bel6 := bel5.trans (hb6.mono bel5.size)
          obtain ⟨dd, cc, hvv, hse6⟩ := Sees.of_own own6
          simp only [Value.slice.injEq] at hvv
          obtain ⟨rfl, _, rfl⟩ := hvv
          have hof := rof_ok w6 d5 cd5 A hse6 (by have := HAl.out; omega)
          clear hsum own5 av5 dig5 R5
          go_wp2_with fail
          refine hof.mono ?_
          rintro e w7 ⟨d7, c7, r7, hr7, rfl, hs7, hb7⟩
          have own7 := own_below own6 hb7
          have av7 := av6.below hb7
          have bel7 := bel6.trans (hb7.mono bel6.size)
          have hs67 := hs6.below hb7
          have hrr : r7 = r6 := by rw [hr7.out, hr6.out]
          subst hrr
          have e1 := hs67.convert (P := Tryd.prog) 22 5 9 Tryd.underlying22 Tryd.underlying5 Tryd.underlying9
          have e2 := hs7.convert (P := Tryd.prog) 22 5 9 Tryd.underlying22 Tryd.underlying5 Tryd.underlying9
          have hlen7 := len_yes w7 w.heap.size A (av7.dig (by have := HAl.out; omega))
          clear hof own6 av6 hse6
          go_wp2_with fail
          refine hlen7.mono ?_
          rintro e w8 ⟨rfl, hw8⟩
          rw [hw8]
          clear hlen7 hw8 w8
          go_wp2
          go_roundw
          case rel => exact ⟨k + 1, A, d5, cd5, by omega, by omega, by go_num, rfl, by have := HAl.out; omega, own7, av7, bel7⟩
          case measure => simp [intOf]; omega
    · have hend : k = acc.length ∨ True := .inr trivial
      have hlen := len_yes wr w.heap.size acc (av.dig (by omega))
      have haw := awake_any wr (HF.out.below bel) (HK.out.below bel)
      clear own av hend
      by_cases h1 : k < L.length
      · have h20 : k = 20 := by omega
        have t2 : decide ((k : Int) < 20) = false := by simp; omega
        clear hlt
        go_wp2_with fail
        refine hlen.mono ?_
        rintro e w3 ⟨rfl, hw3⟩
        rw [hw3]
        clear hlen hw3 w3
        go_wp2_with fail
        refine haw.mono ?_
        rintro e w4 ⟨rfl, hb4⟩
        go_wp2
        go_ret
        exact ⟨rfl, bel.trans (hb4.mono bel.size)⟩
      · have t1 : decide ((k : Int) < (L.length : Int)) = false := by simp; omega
        clear hlt
        go_wp2_with fail
        refine hlen.mono ?_
        rintro e w3 ⟨rfl, hw3⟩
        rw [hw3]
        clear hlen hw3 w3
        go_wp2_with fail
        refine haw.mono ?_
        rintro e w4 ⟨rfl, hb4⟩
        go_wp2
        go_ret
        exact ⟨rfl, bel.trans (hb4.mono bel.size)⟩
end Go.Proofs.YtonfjldfalnalaaDoor
