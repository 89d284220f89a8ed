/-
  The contracts of hmac.Short, of the program and of the document.
-/
import Derived.Test.YtaihjnaggmmiiaaGreatDoorHmacB
import Derived.Test.YtaihjnaggmmiiaaGreatDoorRefB
namespace Go.Proofs.YtaihjnaggmmiiaaGreatDoor
open Go.ChangeShapes Go.WideShapes Go.ChangeAt Go.RowKit

/-- New memory that may be written. -/
def Fresh (w w' : World) (d : Option Addr) : Prop := ∃ g off, d = some ⟨g, off, none⟩ ∧ w.heap.size ≤ g ∧ ∀ i, w'.frozen? ⟨g, i, none⟩ = false

def HshortOk : Prop := ∀ (w : World) (a : Option Addr) (ca : Nat) (key : List UInt8) (b : Option Addr) (cb : Nat) (bs : List UInt8) (n : Nat), FTab w → KTab w → Sees w a ca key → Sees w b cb bs → key.length ≤ 2000 → bs.length ≤ 10000 → 1 ≤ n → n ≤ 32 →
  Calls Tryz.prog 39 #[.slice a key.length ca, .slice b bs.length cb, .int .i64 (n : Int)] w fun e w' => ∃ d cd r, Hid (r = (hmacL key bs).take n) ∧ e = .returned (.tuple #[.slice d n cd, .int .i64 0]) ∧ r.length = n ∧ Sees w' d cd r ∧ Below w.heap.size w w' ∧ Fresh w w' d
theorem fresh_of_own {w w' : World} {d : Option Addr} {cd n : Nat} {r : List UInt8} (h : w'.ownsRow w.heap.size 5 1 (.slice d n cd) r.length (r.map cellOf)) (h0 : r ≠ []) : Fresh w w' d := by
  rcases h.2 with ⟨h1, h2⟩ | ⟨g, cap, cur, hv, hlow, hg, _⟩
  · exact absurd (List.eq_nil_of_length_eq_zero h2) h0
  · simp only [Value.slice.injEq] at hv
    exact ⟨g, 0, hv.1, hlow, fun i => frozen_of_row w' g i _ _ hg⟩

set_option maxHeartbeats 800000 in
set_option maxRecDepth 20000 in
theorem hshort_ok : HshortOk := by
  intro w a ca key b cb bs n hF hT ha hb hk hl h1 h32
  have hof := hof_own w a ca key b cb bs hF hT ha hb (by omega) (by omega)
  have d1 : decide ((n : Int) < 1) = false := by simp; omega
  have d2 : decide ((32 : Int) < (n : Int)) = false := by simp; omega
  clear hF hT ha hb
  go_enter Tryz.func39, Tryz.ntmps39
  go_wp2_with fail
  refine hof.mono ?_
  rintro e w1 ⟨d, cd, r, hr, rfl, hs1, hb1, ho1⟩
  have hrl : r.length = 32 := by rw [hr.out]; exact hmacL_length _ _
  have hfr : Fresh w w1 d := fresh_of_own ho1 (by intro h; rw [h] at hrl; cases hrl)
  obtain ⟨g, off, rfl, hg1, hg2⟩ := hfr
  have hse := hs1.take n
  have hnl : (r.take n).length = n := by rw [List.length_take]; omega
  have hse2 : Sees w1 (some ⟨g, off, none⟩) n (r.take n) := ⟨by rw [hnl]; exact Nat.le_refl _, by unfold maxLen; omega, by simp, hse.at'⟩
  have hfc := hs1.fits
  have hn1 : (n : Int) ≤ (cd : Int) := by omega
  have hn0 : (0 : Int) ≤ (n : Int) := by omega
  have HRL : Hid (r.length = 32) := hrl
  have HNL : Hid ((r.take n).length = n) := hnl
  have HSE : Hid (Sees w1 (some ⟨g, off, none⟩) n (r.take n)) := hse2
  clear hof hs1 ho1 hse hse2 hrl hnl
  go_wp2
  go_ret2
  exact ⟨some ⟨g, off, none⟩, n, r.take n, by rw [hr.out]; rfl, rfl, HNL.out, HSE.out, hb1, ⟨g, off, rfl, hg1, hg2⟩⟩

set_option maxHeartbeats 800000 in
set_option maxRecDepth 20000 in
theorem rhshort_ok (w : World) (a : Option Addr) (ca : Nat) (key : List UInt8) (b : Option Addr) (cb : Nat) (bs : List UInt8) (n : Nat) (ha : Sees w a ca key) (hb : Sees w b cb bs) (hk : key.length ≤ 1048576) (hl : bs.length ≤ 1048512) (h1 : 1 ≤ n) (h2 : n ≤ 32) :
    Calls Tryz.prog 23 #[.slice a key.length ca, .slice b bs.length cb, .int .i64 (n : Int)] w fun e w' => ∃ d cd r, Hid (r = (hmacL key bs).take n) ∧ e = .returned (.tuple #[.slice d n cd, .int .i64 0]) ∧ r.length = n ∧ Sees w' d cd r ∧ Below w.heap.size w w' := by
  have hof := rhof_ok w a ca key b cb bs ha hb hk hl
  have d1 : decide ((n : Int) < 1) = false := by simp; omega
  have d2 : decide ((32 : Int) < (n : Int)) = false := by simp; omega
  clear ha hb
  go_enter Tryz.func23, Tryz.ntmps23
  go_wp2_with fail
  refine hof.mono ?_
  rintro e w1 ⟨d, cd, r, hr, rfl, hs, hb1⟩
  have hrl : r.length = 32 := by rw [hr.out]; exact hmacL_length _ _
  have hs2 := hs.take n
  have hrl2 : (r.take n).length = n := by rw [List.length_take, hrl]; omega
  have hcd := hs.fits
  obtain ⟨rb, ro, rfl, _⟩ := hs.at' (by intro h; rw [h] at hrl; simp at hrl)
  have hnc : n ≤ cd := by omega
  have hR : r.take n = (hmacL key bs).take n := by rw [hr.out]
  have HR : Hid (r.take n = (hmacL key bs).take n) := hR
  clear hR
  clear hof hr
  rw [hrl]
  go_wp2
  go_ret2
  exact ⟨_, cd, r.take n, HR, rfl, hrl2, hs2, hb1⟩

end Go.Proofs.YtaihjnaggmmiiaaGreatDoor
