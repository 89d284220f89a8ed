/-
  The walk of WordDigits.
-/
import Derived.Test.YtmldfljgngkneaaDoorRefHexB
namespace Go.Proofs.YtmldfljgngkneaaDoor
open Go.ChangeShapes Go.WideShapes Go.ChangeAt Go.RowKit

set_option maxHeartbeats 1600000 in
theorem digits_walk (a : Option Addr) (ca : Nat) (bs : List UInt8) (cs : List UInt8) (w : World) (ha : Sees w a ca bs) (hT : Tab w) (hb : bs.length ≤ 1048576) (hs : cs.length ≤ 1048576) :
    Calls Tryd.prog 3 #[.slice a bs.length ca, .string ⟨cs.toArray⟩] w fun e w' => e = .returned (.bool true) ∧ Below w.heap.size w w' := by
  have hpos := hT.pos
  have HT : Hid (Tab w) := hT
  clear hT
  go_enter Tryd.func3, Tryd.ntmps3
  go_wp2_with fail
  refine (unhex_any w ⟨cs.toArray⟩ cs (by simp) HT.out (by show cs.length ≤ _; omega)).mono ?_
  rintro e w1 ⟨d1, n1, c1, m1, f1, rfl, hU1, hb1⟩
  go_wp2_with fail
  refine (refunhex_any w1 ⟨cs.toArray⟩ cs (by simp) (by show cs.length ≤ _; omega)).mono ?_
  rintro e w2 ⟨d2, n2, c2, m2, f2, rfl, hU2, hb2⟩
  have hT2 := (HT.out.below hb1 hpos).below hb2 (Nat.lt_of_lt_of_le hpos hb1.size)
  have hbw : Below w.heap.size w w2 := hb1.trans (hb2.mono hb1.size)
  have ha2 := ha.below hbw
  go_wp2_with fail
  refine (hex_any w2 a ca bs ha2 hT2 hb).mono ?_
  rintro e w3 ⟨rfl, hb3⟩
  have ha3 := ha2.below hb3
  have hbx : Below w.heap.size w w3 := hbw.trans (hb3.mono hbw.size)
  go_wp2_with fail
  refine (refhex_any w3 a ca bs ha3 hb).mono ?_
  rintro e w4 ⟨rfl, hb4⟩
  have hbz : Below w.heap.size w w4 := hbx.trans (hb4.mono hbx.size)
  have hmm : m1 = m2 := by rw [hU1.place, hU2.place]
  have h24 : Below w2.heap.size w2 w4 := hb3.trans (hb4.mono hb3.size)
  have h14 : Below w1.heap.size w1 w4 := hb2.trans (h24.mono hb2.size)
  have hml : m1 ≤ cs.length := by rw [hU1.place]; exact List.findIdx_le_length
  subst hmm
  by_cases hgood : m1 = cs.length ∧ cs.length % 2 = 0
  · obtain ⟨hf1, hn1, hs1⟩ := hU1.good hgood.1 hgood.2
    obtain ⟨hf2, hn2, hs2⟩ := hU2.good hgood.1 hgood.2
    have e1 := (hs1.below h14).convert (P := Tryd.prog) 22 5 9 Tryd.underlying22 Tryd.underlying5 Tryd.underlying9
    have e2 := (hs2.below h24).convert (P := Tryd.prog) 22 5 9 Tryd.underlying22 Tryd.underlying5 Tryd.underlying9
    rw [← hn1] at e1
    rw [← hn2] at e2
    obtain ⟨P, hP⟩ : ∃ P, P = part (cs.map valD) := ⟨_, rfl⟩
    rw [← hP] at e1 e2
    subst hf1 hf2
    clear hU1 hU2 hn1 hn2 hs1 hs2 hgood hP
    go_wp2_with fail
    refine (awake_any _).mono ?_
    rintro e w' ⟨rfl, rfl⟩
    go_wp2
    go_ret
    exact ⟨rfl, hbz⟩
  · have hbad1 : f1 = 4 ∧ n1 = 0 ∧ d1 = none ∧ c1 = 0 := by
      by_cases h1 : m1 = cs.length
      · exact hU1.odd h1 (by omega)
      · exact hU1.bad (by omega)
    have hbad2 : f2 = 4 ∧ n2 = 0 ∧ d2 = none ∧ c2 = 0 := by
      by_cases h1 : m1 = cs.length
      · exact hU2.odd h1 (by omega)
      · exact hU2.bad (by omega)
    obtain ⟨rfl, rfl, rfl, rfl⟩ := hbad1
    obtain ⟨rfl, rfl, rfl, rfl⟩ := hbad2
    have e1 : (convert 22 9 (.slice none 0 0)).run Tryd.prog w4 = .ok (.string ⟨#[]⟩) w4 := (Sees.nil' w4).convert (P := Tryd.prog) 22 5 9 Tryd.underlying22 Tryd.underlying5 Tryd.underlying9
    clear hU1 hU2 hgood
    go_wp2_with fail
    refine (awake_any _).mono ?_
    rintro e w' ⟨rfl, rfl⟩
    go_wp2
    go_ret
    exact ⟨rfl, hbz⟩
end Go.Proofs.YtmldfljgngkneaaDoor
