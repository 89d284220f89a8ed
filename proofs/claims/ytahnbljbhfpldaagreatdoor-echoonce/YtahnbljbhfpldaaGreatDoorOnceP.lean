/-
  What EchoOnce holds, over plain values.
-/
import Derived.Test.YtahnbljbhfpldaaGreatDoorPeT
namespace Go.Proofs.YtahnbljbhfpldaaGreatDoor
set_option maxRecDepth 20000
structure OnceS (own : List UInt8) (A0 B0 A1 : Ec) (x y : List UInt8) (P Q : Fr) : Prop where
  ok1 : A1.ok
  askE : A0.askE 1 5000 = 0
  askR : A0.askR 1 5000 = x
  askV : A0.askV 1 5000 = A1
  opE : B0.opE x = 0
  opF : B0.opF x = P
  repE : B0.repE P 70 1 0 0 own = 0
  repR : B0.repR P 70 1 0 0 own = y
  op2E : A1.opE y = 0
  op2F : A1.opF y = Q
  pn : P.n < 18446744073709551616
  before : A1.heE Q 4999 = 6
  at_ : ∀ t, 5000 ≤ t → t ≤ 1099511627776 → A1.heE Q t = if 400 < t - 5000 then 12 else 0
  once : ∀ t, 5000 ≤ t → t ≤ 1099511627776 → (A1.heV Q t).heE Q t = 6 ∧ (A1.heV Q t).asB 1 = false
  again : (A1.askV 1 5000).heE Q 5000 = 6 ∧ (A1.askV 1 5000).asB 1 = true ∧ A1.askE 1 5000 = 0
  xl : x.length = 21
  yl : y.length ≤ 53
theorem Ec.heV_at {s : Ec} {F : Fr} {now : Int} (h : s.heE F now = 0 ∨ s.heE F now = 12) : s.heV F now = { s with ws := s.ws.set F.f.toNat none } := if_pos h
theorem onceS (own : List UInt8) (h : own.length = 16) : ∃ A1 x y P Q, OnceS own (ecNew usE own 0 1) (ecNew usE own 1 1) A1 x y P Q := by
  have hD := usE_duet h
  have hc0 : (ecNew usE own 0 1).ct < 4294967295 := show (0 : Nat) < 4294967295 by omega
  have hnon : (ecNew usE own 0 1).non = 4294967297 := by
    show (1 : Int).toNat * 4294967296 + (0 + 1) = 4294967297
    rw [show (1 : Int).toNat = 1 from rfl]
  obtain ⟨a1, a2, a3⟩ := hD.asked 5000 (by decide) hc0
  rw [hnon] at a3
  have hP : sealF (pairK own 0 1) (ecPing 0 1 4294967297) = sealF (pairK (ecNew usE own 0 1).ms (ecNew usE own 0 1).i (ecNew usE own 1 1).i) (ecPing (ecNew usE own 0 1).i (ecNew usE own 1 1).i (ecNew usE own 0 1).non) := by rw [hnon]; rfl
  have hQ : sealF (pairK own 0 1) (ecPong 1 0 4294967297 70 1 0 0 own) = sealF (pairK (ecNew usE own 0 1).ms (ecNew usE own 0 1).i (ecNew usE own 1 1).i) (ecPong (ecNew usE own 1 1).i (ecNew usE own 0 1).i (ecNew usE own 0 1).non 70 1 0 0 own) := by rw [hnon]; rfl
  obtain ⟨r1, r2, r3⟩ := hD.replied hc0 70 1 0 0 own h (by decide) (by decide) (by decide) (by decide) _ hP ((ecNew usE own 0 1).askV 1 5000) (by
    have : (ecNew usE own 0 1).askV 1 5000 = { ecNew usE own 0 1 with ct := (ecNew usE own 0 1).ct + 1, ws := (ecNew usE own 0 1).ws.set (1 : Int).toNat (some ((ecNew usE own 0 1).non, 5000)) } := if_pos a1
    rw [this]
    exact ⟨rfl, rfl⟩)
  rw [hnon] at r3
  have hV : (ecNew usE own 0 1).askV 1 5000 = ⟨usE, own, 0, 1, 1, [none, some (4294967297, 5000), none]⟩ := by
    have e : (ecNew usE own 0 1).askV 1 5000 = { ecNew usE own 0 1 with ct := 0 + 1, ws := (ecNew usE own 0 1).ws.set (1 : Int).toNat (some ((ecNew usE own 0 1).non, 5000)) } := if_pos a1
    rw [e, hnon]
    rfl
  have hQf : (sealF (pairK own 0 1) (ecPong 1 0 4294967297 70 1 0 0 own)).f = 1 := rfl
  have hrd : rightB (sealF (pairK own 0 1) (ecPong 1 0 4294967297 70 1 0 0 own)) = true := eseal_right (hD.pong _ 70 1 0 0 own h (by decide) (by decide) (by decide) (by decide))
  have hh := fun now hN => (hD.heard 5000 (by decide) hc0 70 1 0 0 own h (by decide) (by decide) (by decide) (by decide) _ hQ now hN).1
  have hat : ∀ t, 5000 ≤ t → t ≤ 1099511627776 → ((ecNew usE own 0 1).askV 1 5000).heE (sealF (pairK own 0 1) (ecPong 1 0 4294967297 70 1 0 0 own)) t = if 400 < t - 5000 then 12 else 0 := fun t h1 h2 => by
    refine (hh t (timeB_iff.2 ⟨by omega, h2⟩)).trans ?_
    rw [if_neg (show ¬ t < 5000 by omega)]
    rfl
  refine ⟨_, _, _, _, _, ⟨Ec.askV_ok hD.ao 1 5000, a1, rfl, rfl, a2, a3, r1, rfl, r2, r3, ?_, ?_, hat, ?_, ?_, ?_, ?_⟩⟩
  · show (4294967297 : Nat) < 18446744073709551616; omega
  · exact (hh 4999 (by decide)).trans (if_pos (by decide))
  · intro t h1 h2
    have h0 : ((ecNew usE own 0 1).askV 1 5000).heE (sealF (pairK own 0 1) (ecPong 1 0 4294967297 70 1 0 0 own)) t = 0 ∨ ((ecNew usE own 0 1).askV 1 5000).heE (sealF (pairK own 0 1) (ecPong 1 0 4294967297 70 1 0 0 own)) t = 12 := by
      rw [hat t h1 h2]
      split
      · exact .inr rfl
      · exact .inl rfl
    have hVV := Ec.heV_at h0
    rw [hV] at hVV
    have hVV2 : (⟨usE, own, 0, 1, 1, [none, some (4294967297, 5000), none]⟩ : Ec).heV (sealF (pairK own 0 1) (ecPong 1 0 4294967297 70 1 0 0 own)) t = ⟨usE, own, 0, 1, 1, [none, none, none]⟩ := hVV
    refine ⟨heard_once h0 t ?_, ?_⟩
    · rw [hV]
      show Ec.heB (Ec.heV _ (sealF (pairK own 0 1) (ecPong 1 0 4294967297 70 1 0 0 own)) t) (sealF (pairK own 0 1) (ecPong 1 0 4294967297 70 1 0 0 own)) t = true
      rw [hVV2]
      unfold Ec.heB
      rw [hrd, timeB_iff.2 ⟨by omega, h2⟩]
      rfl
    · rw [hV]
      show Ec.asB (Ec.heV _ (sealF (pairK own 0 1) (ecPong 1 0 4294967297 70 1 0 0 own)) t) 1 = false
      rw [hVV2]
      rfl
  · have hE2 : (⟨usE, own, 0, 1, 1, [none, some (4294967297, 5000), none]⟩ : Ec).askE 1 5000 = 0 := rfl
    have hV2 : (⟨usE, own, 0, 1, 1, [none, some (4294967297, 5000), none]⟩ : Ec).askV 1 5000 = ⟨usE, own, 0, 1, 2, [none, some (4294967298, 5000), none]⟩ := by
      have e : (⟨usE, own, 0, 1, 1, [none, some (4294967297, 5000), none]⟩ : Ec).askV 1 5000 = ⟨usE, own, 0, 1, 1 + 1, [none, some (4294967297, 5000), none].set (1 : Int).toNat (some ((⟨usE, own, 0, 1, 1, [none, some (4294967297, 5000), none]⟩ : Ec).non, 5000))⟩ := if_pos hE2
      have e2 : (⟨usE, own, 0, 1, 1, [none, some (4294967297, 5000), none]⟩ : Ec).non = 4294967298 := by
        show (1 : Int).toNat * 4294967296 + (1 + 1) = 4294967298
        rw [show (1 : Int).toNat = 1 from rfl]
      rw [e, e2]
      rfl
    rw [hV]
    refine ⟨?_, ?_, hE2⟩
    · show Ec.heE (Ec.askV _ 1 5000) (sealF (pairK own 0 1) (ecPong 1 0 4294967297 70 1 0 0 own)) 5000 = 6
      rw [hV2]
      have hB : (⟨usE, own, 0, 1, 2, [none, some (4294967298, 5000), none]⟩ : Ec).heB (sealF (pairK own 0 1) (ecPong 1 0 4294967297 70 1 0 0 own)) 5000 = true := by
        unfold Ec.heB
        rw [hrd]
        rfl
      unfold Ec.heE
      rw [if_pos hB]
      rfl
    · show Ec.asB (Ec.askV _ 1 5000) 1 = true
      rw [hV2]
      rfl
  · rw [show (ecNew usE own 0 1).askR 1 5000 = sealR (pairK own 0 1) (ecPing 0 1 (ecNew usE own 0 1).non) from if_pos a1]
    exact eping_len (hD.ping _)
  · have h53 := (put_len (sealF (pairK own 0 1) (ecPong 1 0 4294967297 70 1 0 0 own)) hrd).2.1
    have hb := hD.pong 4294967297 70 1 0 0 own h (by decide) (by decide) (by decide) (by decide)
    have hR : (ecNew usE own 1 1).repR (sealF (pairK own 0 1) (ecPing 0 1 4294967297)) 70 1 0 0 own = putL (sealF (pairK own 0 1) (ecPong 1 0 4294967297 70 1 0 0 own)) := by
      unfold Ec.repR
      have hr : (ecNew usE own 1 1).repB (sealF (pairK own 0 1) (ecPing 0 1 4294967297)) = true := by
        unfold Ec.repB
        have hpr : rightB (sealF (pairK own 0 1) (ecPing 0 1 4294967297)) = true := eseal_right (hD.ping 4294967297)
        rw [hpr]
        rfl
      rw [if_pos hr]
      unfold sealR
      exact if_pos hb
    show ((ecNew usE own 1 1).repR (sealF (pairK own 0 1) (ecPing 0 1 4294967297)) 70 1 0 0 own).length ≤ 53
    rw [hR]
    exact h53
end Go.Proofs.YtahnbljbhfpldaaGreatDoor
