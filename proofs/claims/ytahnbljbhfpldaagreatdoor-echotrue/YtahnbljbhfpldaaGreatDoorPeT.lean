/-
  What the walks of two nodes share: frames, answers and configs that are kept; two nodes made.
-/
import Derived.Test.YtahnbljbhfpldaaGreatDoorPeS
import Derived.Test.YtahnbljbhfpldaaGreatDoorPeZ
import Derived.Test.YtahnbljbhfpldaaGreatDoorEchoT
namespace Go.Proofs.YtahnbljbhfpldaaGreatDoor
open Go.ChangeShapes Go.WideShapes Go.ChangeAt Go.RowKit
set_option maxRecDepth 20000
theorem cf_laid (W : World) (c : Cf) : ∃ W', (Instr.storeAt 23 (.pointer (some ⟨W.heap.size, 0, none⟩)) (.agg (cfC c))).run Tryz.prog (W.alloc (.cells (cfC Cf.zero) 23)) = .ok () W' ∧ CfAt W' W.heap.size c ∧ Below W.heap.size W W' := by
  have h0 : CfAt (W.alloc (.cells (cfC Cf.zero) 23)) W.heap.size Cf.zero := CfAt.new W _
  exact ⟨_, h0.stores c, h0.stored c, below_setRow (Go.Joins.below_alloc1 _ _) (Nat.le_refl _) _⟩
structure FBox (w : World) (k : Nat) (F : Fr) (A : At) : Prop where
  at' : FrAt w k F A
  seen : Seen w F A
theorem FBox.below {w w' : World} {k : Nat} {F : Fr} {A : At} (h : FBox w k F A) (hb : Below w.heap.size w w') : FBox w' k F A := ⟨h.at'.below hb, h.seen.below hb⟩
theorem FBox.apart {w0 w w' : World} {R k : Nat} {s : Ec} {ma : Option Addr} {mc : Nat} {F : Fr} {A : At} (h : FBox w k F A) (g : ESolo w0 w R s ma mc) (ha : Apart (fun k => k = R) w w') (hk : k ≠ R) : FBox w' k F A :=
  ⟨(ha.block _ h.at'.lt hk).trans h.at', ⟨g.all.at'.aside ha h.seen.key, g.all.at'.aside ha h.seen.body, g.all.at'.aside ha h.seen.tag⟩⟩
theorem fbox_laid {W : World} {F : Fr} {A : At} (hs : Seen W F A) : ∃ W', (Instr.storeAt 40 (.pointer (some ⟨W.heap.size, 0, none⟩)) (.agg (frC F A))).run Tryz.prog (W.alloc (.cells (frC Fr.zero At.zero) 40)) = .ok () W' ∧ FBox W' W.heap.size F A ∧ Below W.heap.size W W' := by
  obtain ⟨W', h1, h2, h3, h4⟩ := pfr_laid hs
  exact ⟨W', h1, ⟨h2, h3⟩, h4⟩
theorem CfAt.apart {w w' : World} {g R : Nat} {c : Cf} (h : CfAt w g c) (ha : Apart (fun k => k = R) w w') (hg : g ≠ R) : CfAt w' g c := (ha.block _ h.lt hg).trans h
theorem usE_new {own : List UInt8} {i inc : Int} (h : own.length = 16) (hi : 0 ≤ i ∧ i < 3) (hc : 0 ≤ inc ∧ inc ≤ 65535) : ecB usE own i inc = true := ecB_iff.2 ⟨usE_ok, hi.1, hi.2, hc.1, hc.2, h⟩
theorem usE_no {own : List UInt8} {i inc : Int} (h : ¬ own.length = 16) : ecB usE own i inc = false := by
  rw [Bool.eq_false_iff]
  intro hh
  exact h (ecB_iff.1 hh).2.2.2.2.2
theorem usE_duet {own : List UInt8} (h : own.length = 16) : Duet (ecNew usE own 0 1) (ecNew usE own 1 1) :=
  ⟨ecNew_ok (usE_new h (by decide) (by decide)), ecNew_ok (usE_new h (by decide) (by decide)), rfl, rfl, by show (0 : Int) ≠ 1; decide⟩
end Go.Proofs.YtahnbljbhfpldaaGreatDoor
