/-
  What the hand that writes makes of a right frame.
-/
import Derived.Test.YtoggjpkbbncbbaaFrameKinds
import Derived.Test.YtoggjpkbbncbbaaBitsLaws
namespace Go.Proofs.Ytoggjpkbbncbbaa
open Go.ChangeShapes Go.WideShapes Go.ChangeAt Go.RowKit

theorem putB_fits (bs : List Bool) (n V : Nat) (hV : V ≤ 64) (hn : n < 2 ^ V) (hl : bs.length + V ≤ 8192) : putB bs n (V : Int) = bs ++ bitsN n V := by
  have h0 : putP bs.length n (V : Int) = 0 := by
    unfold putP
    rw [if_neg (by simp only [Int.toNat_natCast]; omega), if_neg (by simp only [Int.toNat_natCast]; omega)]
  unfold putB
  rw [if_pos h0, Int.toNat_natCast]
theorem bytesB_fits (bs : List Bool) (l : List UInt8) (h1 : l.length ≤ 1024) (hl : bs.length + 8 * l.length ≤ 8192) : bytesB bs l = bs ++ bitsOf l := by
  have h0 : bytesP bs.length l.length = 0 := by unfold bytesP; rw [if_neg (by omega)]
  unfold bytesB
  rw [if_pos h0]

/-- A right frame has numbers that a hand takes. -/
theorem core_inr (F : Fr) (hn : F.n < 18446744073709551616) (hr : coreB F = true) : InR0 F ∧ F.body.length ≤ 16 ∧ (F.k = 1 ∨ F.k = 2 ∨ F.k = 3) ∧ (F.k = 1 ∨ F.k = 3 → F.key.length = 16) := by
  unfold coreB at hr
  simp only [Bool.and_eq_true, decide_eq_true_eq] at hr
  obtain ⟨⟨hN, hB⟩, hK⟩ := hr
  obtain ⟨hf, ht, he, hs, hrr, hm, hv, hi⟩ := (numsB_iff F).1 hN
  have hk : (F.k = 1 ∨ F.k = 2 ∨ F.k = 3) ∧ (F.k = 1 ∨ F.k = 3 → F.key.length = 16) := by
    by_cases k1 : F.k = 1
    · rw [if_pos k1] at hK; simp only [decide_eq_true_eq] at hK; exact ⟨.inl k1, fun _ => hK.1⟩
    · rw [if_neg k1] at hK
      by_cases k2 : F.k = 2
      · exact ⟨.inr (.inl k2), fun h => by omega⟩
      · rw [if_neg k2] at hK
        by_cases k3 : F.k = 3
        · rw [if_pos k3] at hK; simp only [decide_eq_true_eq] at hK; exact ⟨.inr (.inr k3), fun _ => hK.2.1⟩
        · rw [if_neg k3] at hK; cases hK
  exact ⟨⟨by omega, by omega, by omega, by omega, by omega, by omega, hn, by omega, by omega, by omega⟩, hB, hk⟩

theorem wcore_bits (F : Fr) (hn : F.n < 18446744073709551616) (hr : coreB F = true) :
    coreG (fun _ n _ => n) (fun bs n V => putB bs n (V : Int)) (fun _ l _ => l) (fun bs l _ => bytesB bs l) [] F = (F, coreBits F) ∧ (coreBits F).length ≤ 333 := by
  obtain ⟨hI, hB, hk3, hkey⟩ := core_inr F hn hr
  unfold coreB at hr
  simp only [Bool.and_eq_true, decide_eq_true_eq] at hr
  obtain ⟨⟨hN, _⟩, _⟩ := hr
  obtain ⟨hf, ht, he, hs, hrr, hm, hv, hi⟩ := (numsB_iff F).1 hN
  have tk : ((F.k.toNat : Nat) : Int) = F.k := by omega
  have tf : ((F.f.toNat : Nat) : Int) = F.f := by omega
  have tt : ((F.t.toNat : Nat) : Int) = F.t := by omega
  have te : ((F.e.toNat : Nat) : Int) = F.e := by omega
  have ts : ((F.s.toNat : Nat) : Int) = F.s := by omega
  have tr : ((F.r.toNat : Nat) : Int) = F.r := by omega
  have tm : ((F.m.toNat : Nat) : Int) = F.m := by omega
  have tv : ((F.v.toNat : Nat) : Int) = F.v := by omega
  have ti : ((F.i.toNat : Nat) : Int) = F.i := by omega
  have e1 := putB_fits [] F.k.toNat 4 (by omega) (by omega) (by simp)
  have e2 := putB_fits ([] ++ bitsN F.k.toNat 4) F.f.toNat 4 (by omega) (by omega) (by simp [bitsN_length])
  obtain ⟨B, hBB⟩ : ∃ B, B = [] ++ bitsN F.k.toNat 4 ++ bitsN F.f.toNat 4 := ⟨_, rfl⟩
  have hBl : B.length = 8 := by rw [hBB]; simp [bitsN_length]
  have hcg : coreG (fun _ n _ => n) (fun bs n V => putB bs n (V : Int)) (fun _ l _ => l) (fun bs l _ => bytesB bs l) [] F = if F.k = 1 then dataG (fun _ n _ => n) (fun bs n V => putB bs n (V : Int)) (fun _ l _ => l) (fun bs l _ => bytesB bs l) B F else if F.k = 2 then pingG (fun _ n _ => n) (fun bs n V => putB bs n (V : Int)) B F else if F.k = 3 then pongG (fun _ n _ => n) (fun bs n V => putB bs n (V : Int)) (fun _ l _ => l) (fun bs l _ => bytesB bs l) B F else (F, B) := by
    unfold coreG
    simp only [tk, tf]
    rw [hBB, ← e2, ← e1]
  rw [hcg]
  have hcb : coreBits F = B ++ kindBits F := by rw [hBB]; rfl
  rw [hcb]
  clear hcb hcg hBB e1 e2
  by_cases k1 : F.k = 1
  · have hky := hkey (.inl k1)
    rw [if_pos k1]
    unfold kindBits
    rw [if_pos k1]
    have a1 := putB_fits B F.e.toNat 16 (by omega) (by omega) (by omega)
    have a2 := putB_fits (B ++ bitsN F.e.toNat 16) F.r.toNat 24 (by omega) (by omega) (by simp [bitsN_length]; omega)
    have a3 := putB_fits (B ++ bitsN F.e.toNat 16 ++ bitsN F.r.toNat 24) F.v.toNat 8 (by omega) (by omega) (by simp [bitsN_length]; omega)
    have a4 := putB_fits (B ++ bitsN F.e.toNat 16 ++ bitsN F.r.toNat 24 ++ bitsN F.v.toNat 8) F.i.toNat 16 (by omega) (by omega) (by simp [bitsN_length]; omega)
    have a5 := bytesB_fits (B ++ bitsN F.e.toNat 16 ++ bitsN F.r.toNat 24 ++ bitsN F.v.toNat 8 ++ bitsN F.i.toNat 16) F.key (by omega) (by simp [bitsN_length]; omega)
    have a6 := putB_fits (B ++ bitsN F.e.toNat 16 ++ bitsN F.r.toNat 24 ++ bitsN F.v.toNat 8 ++ bitsN F.i.toNat 16 ++ bitsOf F.key) F.body.length 5 (by omega) (by omega) (by simp [bitsN_length, bitsOf_length]; omega)
    have a7 := bytesB_fits (B ++ bitsN F.e.toNat 16 ++ bitsN F.r.toNat 24 ++ bitsN F.v.toNat 8 ++ bitsN F.i.toNat 16 ++ bitsOf F.key ++ bitsN F.body.length 5) F.body (by omega) (by simp [bitsN_length, bitsOf_length]; omega)
    constructor
    · unfold dataG dataBits
      simp only [a1, a2, a3, a4, a5, a6, a7, te, tr, tv, ti]
      simp only [List.append_assoc]
    · simp only [dataBits, List.length_append, bitsN_length, bitsOf_length]; omega
  · rw [if_neg k1]
    by_cases k2 : F.k = 2
    · rw [if_pos k2]
      unfold kindBits
      rw [if_neg k1, if_pos k2]
      have a1 := putB_fits B F.t.toNat 4 (by omega) (by omega) (by omega)
      have a2 := putB_fits (B ++ bitsN F.t.toNat 4) F.n 64 (by omega) (by omega) (by simp [bitsN_length]; omega)
      constructor
      · unfold pingG pingBits
        simp only [a1, a2, tt]
        simp only [List.append_assoc]
      · simp only [pingBits, List.length_append, bitsN_length]; omega
    · have k3 : F.k = 3 := by omega
      have hky := hkey (.inr k3)
      rw [if_neg k2, if_pos k3]
      unfold kindBits
      rw [if_neg k1, if_neg k2]
      have a1 := putB_fits B F.t.toNat 4 (by omega) (by omega) (by omega)
      have a2 := putB_fits (B ++ bitsN F.t.toNat 4) F.n 64 (by omega) (by omega) (by simp [bitsN_length]; omega)
      have a3 := putB_fits (B ++ bitsN F.t.toNat 4 ++ bitsN F.n 64) F.m.toNat 48 (by omega) (by omega) (by simp [bitsN_length]; omega)
      have a4 := putB_fits (B ++ bitsN F.t.toNat 4 ++ bitsN F.n 64 ++ bitsN F.m.toNat 48) F.e.toNat 16 (by omega) (by omega) (by simp [bitsN_length]; omega)
      have a5 := putB_fits (B ++ bitsN F.t.toNat 4 ++ bitsN F.n 64 ++ bitsN F.m.toNat 48 ++ bitsN F.e.toNat 16) F.s.toNat 24 (by omega) (by omega) (by simp [bitsN_length]; omega)
      have a6 := putB_fits (B ++ bitsN F.t.toNat 4 ++ bitsN F.n 64 ++ bitsN F.m.toNat 48 ++ bitsN F.e.toNat 16 ++ bitsN F.s.toNat 24) F.i.toNat 16 (by omega) (by omega) (by simp [bitsN_length]; omega)
      have a7 := bytesB_fits (B ++ bitsN F.t.toNat 4 ++ bitsN F.n 64 ++ bitsN F.m.toNat 48 ++ bitsN F.e.toNat 16 ++ bitsN F.s.toNat 24 ++ bitsN F.i.toNat 16) F.key (by omega) (by simp [bitsN_length]; omega)
      constructor
      · unfold pongG pingG pongBits pingBits
        simp only [a1, a2, a3, a4, a5, a6, a7, tt, tm, te, ts, ti]
        simp only [List.append_assoc]
      · simp only [pongBits, pingBits, List.length_append, bitsN_length, bitsOf_length]; omega
theorem wwhole_bits (F : Fr) (hn : F.n < 18446744073709551616) (hr : rightB F = true) :
    wholeG (fun _ n _ => n) (fun bs n V => putB bs n (V : Int)) (fun _ l _ => l) (fun bs l _ => bytesB bs l) [] F = (F, coreBits F ++ bitsOf F.tag) ∧ (coreBits F ++ bitsOf F.tag).length ≤ 397 := by
  unfold rightB at hr
  simp only [Bool.and_eq_true, decide_eq_true_eq] at hr
  obtain ⟨h1, h2⟩ := wcore_bits F hn hr.1
  have hT := hr.2
  have a := bytesB_fits (coreBits F) F.tag (by omega) (by omega)
  constructor
  · unfold wholeG
    rw [h1]
    simp only [a]
  · rw [List.length_append, bitsOf_length]; omega
end Go.Proofs.Ytoggjpkbbncbbaa
