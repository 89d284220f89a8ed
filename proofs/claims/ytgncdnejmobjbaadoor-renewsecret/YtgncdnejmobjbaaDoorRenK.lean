/-
  What a chain of the law's config tells, in plain numbers.
-/
import Derived.Test.YtgncdnejmobjbaaDoorRenX
namespace Go.Proofs.YtgncdnejmobjbaaDoor
open Go.ChangeShapes Go.WideShapes Go.ChangeAt Go.RowKit
set_option maxRecDepth 20000

theorem bounds_u8 {n : Int} (h : (Lit.int .u8 n).wf = true) : 0 ≤ n ∧ n < 256 := by
  simp [Lit.wf, IntKind.min, IntKind.max, IntKind.signed, IntKind.bits] at h
  omega
/-- A chain of the law's config, begun. -/
def rnS (own : List UInt8) (sl ep st : Int) : Rn := ⟨rnC, own, sl, ep, st⟩
theorem rn_mac (own : List UInt8) (sl ep : Int) (st M R : Nat) (h : 0 ≤ ep) (hs : st < 256) (hM : M < 16) (hR : R = st + (M + 1)) : (rnS own sl ep st).mac (R : Int) = (((M + 1 : Nat) : Int), (rnS own sl ep st).key (M + 1), 0) ∧ (rnS own sl ep st).told (R : Int) = ((M : Int), (rnS own sl ep st).key M, 0) := by
  have e : (R : Int) = (st : Int) + ((M + 1 : Nat) : Int) := by omega
  obtain ⟨h1, h2⟩ := rn_idx (st := (st : Int)) (i := ((M + 1 : Nat) : Int)) ⟨by omega, by omega⟩ ⟨by omega, by omega⟩
  constructor
  · show (if ep < 0 then _ else (rnS own sl ep st).tell (idxP rnC (st : Int) (R : Int))) = _
    rw [if_neg (by omega), e, h1]
    rfl
  · show (if ep < 0 then _ else (rnS own sl ep st).tell (tolP rnC (st : Int) (R : Int))) = _
    rw [if_neg (by omega), e, h2, show ((M + 1 : Nat) : Int) - 1 = (M : Int) by omega]
    rfl
theorem rn_kn (own : List UInt8) (ep : Int) (st M R Z : Nat) (hs : st < 256) (hM : M < 16) (hR : R = st + (M + 1)) (hZ : Z = R * 1200) (p : Int × Int) (h : KnIs (rnS own 0 ep st) (Z : Int) p) : p = ((M : Int), 0) := by
  have e : (Z : Int) = ((st : Int) + ((M + 1 : Nat) : Int)) * 1200 := by omega
  have hk := rn_known (st := (st : Int)) (i := ((M + 1 : Nat) : Int)) ⟨by omega, by omega⟩ ⟨by omega, by omega⟩
  rw [← e, show ((M + 1 : Nat) : Int) - 1 = (M : Int) by omega] at hk
  rcases h with ⟨h1, _⟩ | ⟨_, h2, h3⟩
  · exfalso
    have : knB rnC 0 (st : Int) (Z : Int) = true := by
      simp only [knB, placeB, timeB, roundB, Bool.and_eq_true, decide_eq_true_eq]
      exact ⟨⟨⟨⟨rnC_ok, by omega⟩, by rw [rnC_rnd]; omega⟩, by omega⟩, by decide⟩
    have h1' : knB rnC 0 (st : Int) (Z : Int) = false := h1
    rw [this] at h1'
    cases h1'
  · exact Prod.ext (Kn.one rnC_ok h3 hk) h2
theorem rn_fol (own : List UInt8) (sl ep st : Int) (M : Nat) (hM : M < 16) : folP (M : Int) ((rnS own sl ep st).key M) ((M + 1 : Nat) : Int) ((rnS own sl ep st).key (M + 1)) = 0 :=
  rn_leads _ (lastL_len _) (Nat.le_succ M) (by omega)
theorem rn_beg (own : List UInt8) (sl : Int) (e t : Nat) (he : e ≤ 65535) (ht : t < 256) : (rnNew rnC own sl).begE (e : Int) (t : Int) = 0 ∧ (rnNew rnC own sl).begV (e : Int) (t : Int) = rnS own sl (e : Int) (t : Int) := by
  have h : (rnNew rnC own sl).begE (e : Int) (t : Int) = 0 := Rn.begE_zero.2 ⟨⟨by omega, by omega, by omega, by omega⟩, by show ¬ (e : Int) ≤ -1; omega⟩
  exact ⟨h, if_pos h⟩
theorem rn_again (own : List UInt8) (sl : Int) (e f t u : Nat) (he : e ≤ 65535) (ht : u < 256) (hf : e ≤ f) : (rnS own sl (f : Int) (t : Int)).begE (e : Int) (u : Int) = 5 ∧ (rnS own sl (f : Int) (t : Int)).begV (e : Int) (u : Int) = rnS own sl (f : Int) (t : Int) := by
  have h : (rnS own sl (f : Int) (t : Int)).begE (e : Int) (u : Int) = 5 := by
    unfold Rn.begE
    rw [if_pos ⟨by omega, by omega, by omega, by omega⟩, if_pos (by show (e : Int) ≤ (f : Int); omega)]
  exact ⟨h, if_neg (by rw [h]; decide)⟩
end Go.Proofs.YtgncdnejmobjbaaDoor
