/-
  The contracts of hmac.Of, Short and Check.
-/
import Derived.Test.YtgojemhbkhjffaaDoorHmacMac
import Derived.Test.YtgojemhbkhjffaaDoorSame
namespace Go.Proofs.YtgojemhbkhjffaaDoor
open Go.ChangeShapes Go.WideShapes Go.ChangeAt Go.RowKit

set_option maxHeartbeats 800000 in
theorem hof_own (w : World) (a : Option Addr) (ca : Nat) (key : List UInt8) (b : Option Addr) (cb : Nat) (bs : List UInt8) (hF : FTab w) (hT : KTab w) (ha : Sees w a ca key) (hb : Sees w b cb bs) (hk : key.length ≤ 1048576) (hl : 64 + bs.length ≤ 1048576) :
    Calls Tryd.prog 10 #[.slice a key.length ca, .slice b bs.length cb] w fun e w' => ∃ d cd r, Hid (r = hmacL key bs) ∧ e = .returned (.tuple #[.slice d r.length cd, .int .i64 0]) ∧ Sees w' d cd r ∧ Below w.heap.size w w' ∧ w'.ownsRow w.heap.size 5 1 (.slice d r.length cd) r.length (r.map cellOf) := by
  have HT : Hid (KTab w) := hT
  have HB : Hid (Sees w b cb bs) := hb
  have hnew := hnew_ok w a ca key ha hF hT hk
  clear hF hT ha hb
  go_enter Tryd.func10, Tryd.ntmps10
  go_wp2_with fail
  refine hnew.mono ?_
  rintro e w1 ⟨m, rfl, hm, hM1, hb1⟩
  have hw := hwrite_ok w1 m key [] _ hM1 b cb bs (HB.out.below hb1) (HT.out.below hb1) (by simp; omega)
  rw [List.nil_append] at hw
  clear hnew
  go_wp2_with fail
  refine hw.mono ?_
  rintro e w2 ⟨F2, rfl, hM2, hbt2, _⟩
  have hb2 : Below w.heap.size w w2 := hbt2.below hb1 hm
  obtain ⟨a2, hD1⟩ := hM1.dig
  obtain ⟨n, s, v, ho1⟩ := hD1.obj'
  have hsum := hsum_own w2 m key bs F2 hM2 ((HT.out.below hb1).but ho1 hbt2)
  clear hw ho1 hD1 hM1 hM2
  go_wp2_with fail
  refine hsum.mono ?_
  rintro e w3 ⟨d, cd, r, hr, rfl, hs3, hb3, ho3⟩
  clear hsum
  go_wp2
  go_ret2
  exact ⟨d, cd, r, hr, rfl, hs3, hb2.trans (hb3.mono hb2.size), ho3.mono hb2.size⟩

theorem hof_ok : HofOk := fun w a ca key b cb bs hF hT ha hb hk hl =>
  (hof_own w a ca key b cb bs hF hT ha hb (by omega) (by omega)).mono fun _ _ ⟨d, cd, r, h1, h2, h3, h4, _⟩ => ⟨d, cd, r, h1, h2, h3, h4⟩

theorem fresh_of_own {w w' : World} {d : Option Addr} {cd n : Nat} {r : List UInt8} (h : w'.ownsRow w.heap.size 5 1 (.slice d n cd) r.length (r.map cellOf)) (h0 : r ≠ []) : Fresh w w' d := by
  rcases h.2 with ⟨h1, h2⟩ | ⟨g, cap, cur, hv, hlow, hg, _⟩
  · exact absurd (List.eq_nil_of_length_eq_zero h2) h0
  · simp only [Value.slice.injEq] at hv
    exact ⟨g, 0, hv.1, hlow, fun i => frozen_of_row w' g i _ _ hg⟩

set_option maxHeartbeats 800000 in
theorem hshort_ok : HshortOk := by
  intro w a ca key b cb bs n hF hT ha hb hk hl h1 h32
  have hof := hof_own w a ca key b cb bs hF hT ha hb (by omega) (by omega)
  have d1 : decide ((n : Int) < 1) = false := by simp; omega
  have d2 : decide ((32 : Int) < (n : Int)) = false := by simp; omega
  clear hF hT ha hb
  go_enter Tryd.func12, Tryd.ntmps12
  go_wp2_with fail
  refine hof.mono ?_
  rintro e w1 ⟨d, cd, r, hr, rfl, hs1, hb1, ho1⟩
  have hrl : r.length = 32 := by rw [hr.out]; exact hmacL_length _ _
  have hfr : Fresh w w1 d := fresh_of_own ho1 (by intro h; rw [h] at hrl; cases hrl)
  obtain ⟨g, off, rfl, hg1, hg2⟩ := hfr
  have hse := hs1.take n
  have hnl : (r.take n).length = n := by rw [List.length_take]; omega
  have hse2 : Sees w1 (some ⟨g, off, none⟩) n (r.take n) := ⟨by rw [hnl]; exact Nat.le_refl _, by unfold maxLen; omega, by simp, hse.at'⟩
  have hfc := hs1.fits
  have hn1 : (n : Int) ≤ (cd : Int) := by omega
  have hn0 : (0 : Int) ≤ (n : Int) := by omega
  have HRL : Hid (r.length = 32) := hrl
  have HNL : Hid ((r.take n).length = n) := hnl
  have HSE : Hid (Sees w1 (some ⟨g, off, none⟩) n (r.take n)) := hse2
  clear hof hs1 ho1 hse hse2 hrl hnl
  go_wp2
  go_ret2
  exact ⟨some ⟨g, off, none⟩, n, r.take n, by rw [hr.out]; rfl, rfl, HNL.out, HSE.out, hb1, ⟨g, off, rfl, hg1, hg2⟩⟩

set_option maxHeartbeats 400000 in
theorem hshort_arg : HshortArg := by
  intro w a ca n1 b cb n2 n hn
  by_cases h1 : n < 1
  · have d1 : decide (n < 1) = true := by simp; omega
    go_enter Tryd.func12, Tryd.ntmps12
    go_wp2
    go_ret2
    exact ⟨rfl, Below.refl _ _⟩
  · have d1 : decide (n < 1) = false := by simp; omega
    have d2 : decide (32 < n) = true := by simp; omega
    go_enter Tryd.func12, Tryd.ntmps12
    go_wp2
    go_ret2
    exact ⟨rfl, Below.refl _ _⟩

set_option maxHeartbeats 800000 in
theorem hcheck_any : HcheckAny := by
  intro w a ca key b cb bs c cc tag hF hT ha hb hc hk hl
  have htm : tag.length ≤ 9223372036854775807 := by have := hc.fits; have := hc.room; unfold maxLen at this; omega
  by_cases h4 : tag.length < 4
  · have h1 : chkL key bs tag = false := by unfold chkL; simp; omega
    have d1 : decide ((tag.length : Int) < 4) = true := by simp; omega
    rw [h1]
    clear hF hT ha hb hc
    go_enter Tryd.func14, Tryd.ntmps14
    go_wp2
    go_ret
    exact ⟨rfl, Below.refl _ _⟩
  · have d1 : decide ((tag.length : Int) < 4) = false := by simp; omega
    by_cases h32 : 32 < tag.length
    · have h1 : chkL key bs tag = false := by unfold chkL; simp; omega
      have hs := hshort_arg w a ca key.length b cb bs.length (tag.length : Int) (.inr (by omega))
      rw [h1]
      clear hF hT ha hb hc
      go_enter Tryd.func14, Tryd.ntmps14
      go_wp2_with fail
      refine hs.mono ?_
      rintro e w1 ⟨rfl, hb1⟩
      clear hs
      go_wp2
      go_ret
      exact ⟨rfl, hb1⟩
    · have h1 : chkL key bs tag = decide ((hmacL key bs).take tag.length = tag) := by
        unfold chkL; simp [show 4 ≤ tag.length by omega, show tag.length ≤ 32 by omega]
      have hs := hshort_ok w a ca key b cb bs tag.length hF hT ha hb hk hl (by omega) (by omega)
      have HC : Hid (Sees w c cc tag) := hc
      rw [h1]
      clear hF hT ha hb hc h1
      go_enter Tryd.func14, Tryd.ntmps14
      go_wp2_with fail
      refine hs.mono ?_
      rintro e w1 ⟨d, cd, r, hr, rfl, hrl, hs1, hb1, _⟩
      have hsm := same_any w1 d c cd cc r tag hs1 (HC.out.below hb1)
      rw [hrl] at hsm
      have HRL : Hid (r.length = tag.length) := hrl
      clear hs hrl
      go_wp2_with fail
      refine hsm.mono ?_
      rintro e w2 ⟨rfl, rfl⟩
      clear hsm
      go_wp2
      go_ret
      exact ⟨by rw [hr.out]; rfl, hb1⟩
end Go.Proofs.YtgojemhbkhjffaaDoor
