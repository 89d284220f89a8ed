/-
  What EchoTrue holds, over plain values.
-/
import Derived.Test.YtahnbljbhfpldaaGreatDoorPeT
namespace Go.Proofs.YtahnbljbhfpldaaGreatDoor
set_option maxRecDepth 20000
structure TrueS (own : List UInt8) (A0 B0 A1 : Ec) (x : List UInt8) (P : Fr) : Prop where
  askE : A0.askE 1 1000000 = 0
  askR : A0.askR 1 1000000 = x
  askV : A0.askV 1 1000000 = A1
  opE : B0.opE x = 0
  opF : B0.opF x = P
  pn : P.n < 18446744073709551616
  xl : x.length = 21
  rep : ∀ st, 0 ≤ st → st ≤ 1099511627776 → ∃ y Q, B0.repE P st 1 0 0 own = 0 ∧ B0.repR P st 1 0 0 own = y ∧ A1.opE y = 0 ∧ A1.opF y = Q ∧ y.length ≤ 53 ∧
    ∀ now, 1000000 ≤ now → now ≤ 1099511627776 → A1.heE Q now = (if 400 < now - 1000000 then 12 else 0) ∧ (A1.heE Q now = 0 → A1.heA Q now = ⟨1, st - now, st + mostN (now - 1000000) 3 - now, 1, 0, 0, own⟩)
theorem trueS (own : List UInt8) (h : own.length = 16) : ∃ A1 x P, TrueS own (ecNew usE own 0 1) (ecNew usE own 1 1) A1 x P := by
  have hD := usE_duet h
  have hc0 : (ecNew usE own 0 1).ct < 4294967295 := show (0 : Nat) < 4294967295 by omega
  obtain ⟨a1, a2, a3⟩ := hD.asked 1000000 (by decide) hc0
  refine ⟨_, _, _, ⟨a1, rfl, rfl, a2, a3, (Ec.non_lt hD.ao hc0).2, ?_, ?_⟩⟩
  · rw [show (ecNew usE own 0 1).askR 1 1000000 = sealR (pairK own 0 1) (ecPing 0 1 (ecNew usE own 0 1).non) from if_pos a1]
    exact eping_len (hD.ping _)
  · intro st h1 h2
    obtain ⟨r1, r2, r3⟩ := hD.replied hc0 st 1 0 0 own h ⟨h1, h2⟩ (by decide) (by decide) (by decide) _ rfl ((ecNew usE own 0 1).askV 1 1000000) (by
      have : (ecNew usE own 0 1).askV 1 1000000 = { ecNew usE own 0 1 with ct := (ecNew usE own 0 1).ct + 1, ws := (ecNew usE own 0 1).ws.set (1 : Int).toNat (some ((ecNew usE own 0 1).non, 1000000)) } := if_pos a1
      rw [this]
      exact ⟨rfl, rfl⟩)
    refine ⟨_, _, r1, rfl, r2, r3, ?_, ?_⟩
    · have hb := hD.pong (ecNew usE own 0 1).non st 1 0 0 own h ⟨h1, h2⟩ (by decide) (by decide) (by decide)
      have hR : (ecNew usE own 1 1).repR (sealF (pairK (ecNew usE own 0 1).ms (ecNew usE own 0 1).i (ecNew usE own 1 1).i) (ecPing (ecNew usE own 0 1).i (ecNew usE own 1 1).i (ecNew usE own 0 1).non)) st 1 0 0 own = putL (sealF (pairK own 0 1) (ecPong 1 0 (ecNew usE own 0 1).non st 1 0 0 own)) := by
        unfold Ec.repR
        have hr : (ecNew usE own 1 1).repB (sealF (pairK (ecNew usE own 0 1).ms (ecNew usE own 0 1).i (ecNew usE own 1 1).i) (ecPing (ecNew usE own 0 1).i (ecNew usE own 1 1).i (ecNew usE own 0 1).non)) = true := by
          unfold Ec.repB
          rw [eseal_right (hD.ping _)]
          rfl
        rw [if_pos hr]
        unfold sealR
        exact if_pos hb
      rw [hR]
      exact (put_len (sealF (pairK own 0 1) (ecPong 1 0 (ecNew usE own 0 1).non st 1 0 0 own)) (eseal_right hb)).2.1
    · intro now n1 n2
      obtain ⟨e1, e2⟩ := hD.heard 1000000 (by decide) hc0 st 1 0 0 own h ⟨h1, h2⟩ (by decide) (by decide) (by decide) _ rfl now (timeB_iff.2 ⟨by omega, n2⟩)
      refine ⟨?_, fun h0 => ?_⟩
      · refine e1.trans ?_
        rw [if_neg (show ¬ now < 1000000 by omega)]
        rfl
      · exact e2.trans (if_pos h0)
end Go.Proofs.YtahnbljbhfpldaaGreatDoor
