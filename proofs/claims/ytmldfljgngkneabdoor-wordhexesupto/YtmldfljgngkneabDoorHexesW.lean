/-
  The walk of WordHexes.
-/
import Derived.Test.YtmldfljgngkneabDoorTurn
import Derived.Test.YtmldfljgngkneabDoorHexc
namespace Go.Proofs.YtmldfljgngkneabDoor
open Go.ChangeShapes Go.WideShapes Go.ChangeAt Go.RowKit

set_option maxHeartbeats 1600000 in
theorem hexes_walk (a : Option Addr) (ca : Nat) (bs : List UInt8) (cs : List UInt8) (w : World) (ha : Sees w a ca bs) (hT : Tab w) (hb : bs.length ≤ 1048576) (hs : cs.length ≤ 1048576) :
    Calls Tryd.prog 3 #[.slice a bs.length ca, .string ⟨cs.toArray⟩] w fun e w' => e = .returned (.bool true) ∧ Below w.heap.size w w' := by
  have hpos := hT.pos
  have HT : Hid (Tab w) := hT
  clear hT
  obtain ⟨hx1, hx2⟩ := hex_unhex bs
  have HX1 : Hid (∀ c ∈ hexL bs, isD c = true) := hx1
  have HX2 : Hid (part ((hexL bs).map valD) = bs) := hx2
  have HXl : Hid ((hexL bs).length = 2 * bs.length) := hexL_length bs
  clear hx1 hx2
  obtain ⟨H, hH⟩ : ∃ H, H = hexL bs := ⟨_, rfl⟩
  have HH : Hid (H = hexL bs) := hH
  clear hH
  go_enter Tryd.func3, Tryd.ntmps3
  go_wp2_with fail
  refine (hex_any w a ca bs ha HT.out hb).mono ?_
  rintro e w1 ⟨rfl, hb1⟩
  rw [← HH.out]
  have hT1 := HT.out.below hb1 hpos
  have ha1 := ha.below hb1
  go_wp2_with fail
  refine (unhex_any w1 ⟨H.toArray⟩ H rfl hT1 (by show H.length ≤ _; rw [HH.out, HXl.out]; omega)).mono ?_
  rintro e w2 ⟨c, n, cc, m, f, rfl, hU, hb2⟩
  have hm : m = 2 * bs.length := by rw [hU.place, HH.out, badAt_none _ HX1.out, HXl.out]
  obtain ⟨hf, hn, hse⟩ := hU.good (by rw [hm, HH.out, HXl.out]) (by rw [HH.out, HXl.out]; omega)
  rw [HH.out, HX2.out] at hn hse
  subst hm hf hn
  have hT2 := hT1.below hb2 (Nat.lt_of_lt_of_le hpos hb1.size)
  have ha2 := ha1.below hb2
  have hbw : Below w.heap.size w w2 := hb1.trans (hb2.mono hb1.size)
  have e1 := hse.convert (P := Tryd.prog) 22 5 9 Tryd.underlying22 Tryd.underlying5 Tryd.underlying9
  have e2 := ha2.convert (P := Tryd.prog) 22 5 9 Tryd.underlying22 Tryd.underlying5 Tryd.underlying9
  have q1 : (((2 * bs.length : Nat) : Int) != 2 * (bs.length : Int)) = false := by simp
  clear hU
  go_wp2_with fail
  refine (unhex_any w2 ⟨cs.toArray⟩ cs (by simp) hT2 (by show cs.length ≤ _; omega)).mono ?_
  rintro e w3 ⟨d, n, cd, m, f, rfl, hU, hb3⟩
  have hT3 := hT2.below hb3 (Nat.lt_of_lt_of_le hpos hbw.size)
  have hbz : Below w.heap.size w w3 := hbw.trans (hb3.mono hbw.size)
  have hml : m ≤ cs.length := by rw [hU.place]; exact List.findIdx_le_length
  clear e1 e2
  by_cases hgood : m = cs.length ∧ cs.length % 2 = 0
  · obtain ⟨hf, hn, hsd⟩ := hU.good hgood.1 hgood.2
    have hda : ∀ x ∈ cs, isD x = true := by
      have hp := hU.place
      rw [hgood.1] at hp
      intro x hx
      have := List.findIdx_eq_length.1 hp.symm x hx
      simpa using this
    have HE : Hid (hexL (part (cs.map valD)) = cs) := unhex_hex cs hda hgood.2
    have hpl : (part (cs.map valD)).length ≤ 1048576 := by rw [part_length, List.length_map]; omega
    subst hf hn
    clear hU hda hgood
    go_wp2_with fail
    refine (hex_any w3 d cd _ hsd hT3 hpl).mono ?_
    rintro e w4 ⟨rfl, hb4⟩
    rw [HE.out]
    go_wp2_with fail
    refine (awake_any _).mono ?_
    rintro e w' ⟨rfl, rfl⟩
    go_wp2
    go_ret
    exact ⟨rfl, hbz.trans (hb4.mono hbz.size)⟩
  · have hbad : f = 4 ∧ n = 0 ∧ d = none ∧ cd = 0 := by
      by_cases h1 : m = cs.length
      · exact hU.odd h1 (by omega)
      · exact hU.bad (by omega)
    obtain ⟨rfl, rfl, rfl, rfl⟩ := hbad
    clear hU hgood
    go_wp2_with fail
    refine (awake_any _).mono ?_
    rintro e w' ⟨rfl, rfl⟩
    go_wp2
    go_ret
    exact ⟨rfl, hbz⟩
end Go.Proofs.YtmldfljgngkneabDoor
