/-
  What RenewLeads and RenewSecret say, over plain values. No contract here.
-/
import Derived.Test.YtgncdnejmobjbaaGreatDoorRenM
namespace Go.Proofs.YtgncdnejmobjbaaGreatDoor
set_option maxRecDepth 20000

/-- The law's config. -/
def rnC : Cf := ⟨3, 0, 400, 1, 16, 400, 400, 1, 2, 8⟩
theorem rnC_ok : okB rnC = true := by decide
theorem rnC_rnd : rndN rnC = 1200 := by decide
theorem rn_idx {st i : Int} (h0 : 0 ≤ st ∧ st < 256) (h1 : 1 ≤ i ∧ i ≤ 16) : idxP rnC st (st + i) = (i, 0) ∧ tolP rnC st (st + i) = (i - 1, 0) := by
  have e : st + i - st = i := by omega
  have hs : sinB rnC st (st + i) = true := by
    simp only [sinB, roundB, Bool.and_eq_true, decide_eq_true_eq]
    exact ⟨⟨rnC_ok, by omega⟩, by omega⟩
  have hk : keyB rnC i = true := by
    show decide (1 ≤ i ∧ i ≤ 16) = true
    exact decide_eq_true h1
  unfold idxP tolP
  rw [if_pos hs, if_pos hs, e, if_pos hk, if_pos h1.1]
  refine ⟨rfl, ?_⟩
  show (mnN (mxN (i - 1) 0) 16, (0 : Int)) = _
  unfold mnN mxN
  congr 1
  split <;> split <;> omega
/-- The key that is told leads to the key of the round. -/
theorem rn_leads (last : List UInt8) (hl : last.length = 16) {j i : Nat} (h : j ≤ i) (hi : i ≤ 16) : folP (j : Int) (backL (16 - j) last) (i : Int) (backL (16 - i) last) = 0 := by
  have l1 : (backL (16 - j) last).length = 16 := backL_len _ _ hl
  have l2 : (backL (16 - i) last).length = 16 := backL_len _ _ hl
  unfold folP
  rw [if_pos ⟨by omega, by omega, by omega, by omega, l1, l2⟩, if_neg (by omega), if_pos]
  rw [← backL_add, show ((i : Int) - (j : Int)).toNat + (16 - i) = 16 - j by omega]
/-- When the slot of node 0 begins in a round, the key that is told in it is the greatest that is known. -/
theorem rn_known {st i : Int} (h0 : 0 ≤ st ∧ st < 256) (h1 : 1 ≤ i ∧ i ≤ 16) : Kn rnC 0 st ((st + i) * 1200) (i - 1) := by
  have hw : ∀ j, whN rnC 0 st j = (st + j + 1) * 1200 := fun j => by
    unfold whN atN
    rw [rnC_rnd, show rnC.d = 1 from rfl, show rnC.s = 400 from rfl]
    omega
  refine ⟨by omega, by show i - 1 ≤ 16; omega, fun j j0 j1 => ⟨by show st + j + 1 < _; omega, by rw [hw]; omega⟩, fun _ hg => ?_⟩
  have := hg.2
  rw [hw] at this
  omega
end Go.Proofs.YtgncdnejmobjbaaGreatDoor
