/-
  A tag under way in memory; the contract of hmac.New.
-/
import Derived.Test.YtkpaldkmikjpiaaDoorHmacBegun
namespace Go.Proofs.YtkpaldkmikjpiaaDoor
open Go.ChangeShapes Go.WideShapes Go.ChangeAt Go.RowKit

/-- The outer digest's cells. -/
def outR (key : List UInt8) (a : Option Addr) : List Value := digL [] 64 (stOf (outK key)) (.slice a 0 0)
theorem outR_none (key : List UInt8) (a : Option Addr) : NoBytes (outR key a) := fun u hu x => by
  simp only [outR, digL, List.mem_cons, List.not_mem_nil, or_false] at hu
  rcases hu with rfl | rfl | rfl | rfl | rfl | rfl | rfl | rfl | rfl | rfl | rfl <;> simp

/-- A tag under way at block b, of that key and those bytes, lying in the blocks of F. -/
def MacAt (w : World) (b : Nat) (key bs : List UInt8) (F : Nat → Prop) : Prop :=
  ∃ a2 a, ObjAt (outR key a2) 81 w b (inK key ++ bs).length (stOf (inK key ++ bs)) (.slice a (leftOf (inK key ++ bs)).length (leftOf (inK key ++ bs)).length) ∧
    Sees w a (leftOf (inK key ++ bs)).length (leftOf (inK key ++ bs)) ∧ (inK key ++ bs).length ≤ 1048576 ∧ F b ∧ (∀ b' off, a = some ⟨b', off, none⟩ → leftOf (inK key ++ bs) ≠ [] → F b') ∧ ∀ k, F k → k < w.heap.size

theorem MacAt.dig {w : World} {b : Nat} {key bs : List UInt8} {F : Nat → Prop} (h : MacAt w b key bs F) : ∃ a2, Dig (outR key a2) 81 w b (inK key ++ bs) := by
  obtain ⟨a2, a, ho, hs, hl, _⟩ := h
  exact ⟨a2, hl, a, ho, hs⟩
theorem MacAt.lt {w : World} {b : Nat} {key bs : List UInt8} {F : Nat → Prop} (h : MacAt w b key bs F) : ∀ k, F k → k < w.heap.size := by
  obtain ⟨_, _, _, _, _, _, _, h7⟩ := h; exact h7
theorem MacAt.keep {w w' : World} {b : Nat} {key bs : List UInt8} {F : Nat → Prop} (h : MacAt w b key bs F) (hk : ∀ k, F k → w'.heap[k]? = w.heap[k]?) : MacAt w' b key bs F := by
  obtain ⟨a2, a, ho, hs, hl, hb, hf, hlt⟩ := h
  refine ⟨a2, a, ho.keep (hk b hb), ⟨hs.fits, hs.room, hs.bare, fun hne => ?_⟩, hl, hb, hf, fun k hFk => ?_⟩
  · obtain ⟨g, off, ha, hc⟩ := hs.at' hne
    exact ⟨g, off, ha, fun i x hx => by rw [World.cell?_of_block (w := w) (hk g (hf g off ha hne)), hc i x hx]⟩
  · have h1 := hlt k hFk
    have h2 : w'.heap[k]? = some w.heap[k] := by rw [hk k hFk]; simp [h1]
    exact (Array.getElem?_eq_some_iff.1 h2).1

/-- A struct made of parts, its run known. -/
theorem wpList_build_run {P : Program} {ops : Array Oper} {rest : List Oper} {o : Oper} {a : Act} {w : World} {Q : Exit → Act → World → Prop} (hgd : o.guard = none) (t : TypeId) (parts : Array (Nat × Operand)) (ho : o.op = .build t parts)
    (vs : List (Nat × Value)) (r : Value) (hp : parts.toList.map (fun p => (p.1, a.eval p.2)) = vs) (hrun : (Instr.build t vs.toArray).run P w = .ok r w) (h : wpList P ops Q rest (a.put o.dst r) w) : wpList P ops Q (o :: rest) a w := by
  refine wpList_plain hgd fun K hK => ?_
  have hq : parts.map (fun p => (p.1, a.eval p.2)) = vs.toArray := by rw [← hp, ← Array.toList_map, Array.toArray_toList]
  unfold Oper.wp execOp
  simp only [ho, hq, Sem.run_bind, hrun, Result.andThen_ok, Sem.run_pure]
  exact hK _ _ h

/-- Making the struct of two digests. -/
theorem build_two (w : World) (S1 S2 : S8) (a1 a2 : Option Addr) :
    (Instr.build 79 #[(0, .agg (digL [] 64 S1 (.slice a1 0 0)).toArray), (1, .agg (digL [] 64 S2 (.slice a2 0 0)).toArray)]).run Tryd.prog w = .ok (.agg (digL (digL [] 64 S2 (.slice a2 0 0)) 64 S1 (.slice a1 0 0)).toArray) w :=
  run_build w 79 _ _ (by kernel_rfl)
theorem build_mac (w : World) (S1 S2 : S8) (a1 a2 : Option Addr) :
    (Instr.build 81 #[(0, .agg (digL (digL [] 64 S2 (.slice a2 0 0)) 64 S1 (.slice a1 0 0)).toArray)]).run Tryd.prog w = .ok (.agg (digL (digL [] 64 S2 (.slice a2 0 0)) 64 S1 (.slice a1 0 0)).toArray) w :=
  run_build w 81 _ _ (by kernel_rfl)

set_option maxHeartbeats 1600000 in
set_option maxRecDepth 20000 in
theorem hnew_ok (w : World) (a : Option Addr) (ca : Nat) (key : List UInt8) (ha : Sees w a ca key) (hF : FTab w) (hT : KTab w) (hl : key.length ≤ 1048576) :
    Calls Tryd.prog 36 #[.slice a key.length ca] w fun e w' => ∃ b, e = .returned (.tuple #[.pointer (some ⟨b, 0, none⟩), .int .i64 0]) ∧ w.heap.size ≤ b ∧ MacAt w' b key [] (fun k => k = b) ∧ Below w.heap.size w w' := by
  have HF : Hid (FTab w) := hF
  have HT : Hid (KTab w) := hT
  have hfit := fit_ok w a ca key ha hF hT hl
  obtain ⟨C, hC⟩ : ∃ C, C = brow (fillK key) := ⟨_, rfl⟩
  rw [← hC] at hfit
  have hCs : C.size = 64 := by rw [hC, brow_size, fillK_length]
  have hC1 : C.all (·.oneCell') = true := by rw [hC]; exact brow_one _
  have HC : Hid (C = brow (fillK key)) := hC
  have HST : Hid (∀ w1 : World, (Instr.storeAt 71 (.pointer (some ⟨w1.heap.size, 0, none⟩)) (.agg C)).run Tryd.prog (w1.alloc (.cells (brow z64) 71)) = .ok () ((w1.alloc (.cells (brow z64) 71)).setRow w1.heap.size C)) := fun w1 =>
    storeAt_row (P := Tryd.prog) (w1.alloc (.cells (brow z64) 71)) w1.heap.size 71 71 _ C (heap_alloc_new w1 _) (by rw [hCs]; kernel_rfl) (by rw [hCs, brow_size]; rfl) hC1
  have hmf : ∀ (fn : Fn) (first cap : Array Value) (w : World), (Instr.makeFunc fn first cap).run Tryd.prog w = .ok (.func fn first cap) w := fun _ _ _ _ => rfl
  clear ha hF hT hC hCs hC1
  go_enter Tryd.func36, Tryd.ntmps36
  go_wp2_with fail
  refine hfit.mono ?_
  rintro e w1 ⟨rfl, hb1⟩
  have hst1 := HST.out w1
  have hrow : ((w1.alloc (.cells (brow z64) 71)).setRow w1.heap.size C).heap[w1.heap.size]? = some (.cells C 71 (0, 0)) := setRow_heap _ _ _ C 71 _ (heap_alloc_new w1 _)
  have hbb : Below w.heap.size w ((w1.alloc (.cells (brow z64) 71)).setRow w1.heap.size C) := below_setRow (hb1.alloc hb1.size _) hb1.size C
  obtain ⟨W, hW⟩ : ∃ W, W = (w1.alloc (.cells (brow z64) 71)).setRow w1.heap.size C := ⟨_, rfl⟩
  rw [← hW] at hst1 hrow hbb
  have HST1 : Hid ((Instr.storeAt 71 (.pointer (some ⟨w1.heap.size, 0, none⟩)) (.agg C)).run Tryd.prog (w1.alloc (.cells (brow z64) 71)) = .ok () W) := hst1
  rw [HC.out] at hrow
  have hg1 := begun_any W w1.heap.size (fillK key) 54 (fillK_length key) hrow (HF.out.below hbb) (HT.out.below hbb)
  clear hfit hst1 hW
  go_wp2_with (first | refine wpList_store_run rfl 71 _ _ rfl _ _ rfl rfl HST1.out ?_ | fail)
  refine hg1.mono ?_
  rintro e w2 ⟨a1, rfl, hb2⟩
  have hbel2 : Below w.heap.size w w2 := hbb.trans (hb2.mono hbb.size)
  have hrow2 : w2.heap[w1.heap.size]? = some (.cells (brow (fillK key)) 71 (0, 0)) := by rw [hb2.block _ (Array.getElem?_eq_some_iff.1 hrow).1]; exact hrow
  have hg2 := begun_any w2 w1.heap.size (fillK key) 92 (fillK_length key) hrow2 (HF.out.below hbel2) (HT.out.below hbel2)
  clear hg1
  go_wp2_with fail
  refine hg2.mono ?_
  rintro e w3 ⟨a2, rfl, hb3⟩
  have hbel3 : Below w.heap.size w w3 := hbel2.trans (hb3.mono hbel2.size)
  obtain ⟨S1, hS1⟩ : ∃ S1, S1 = stOf ((fillK key).map (· ^^^ 54)) := ⟨_, rfl⟩
  obtain ⟨S2, hS2⟩ : ∃ S2, S2 = stOf ((fillK key).map (· ^^^ 92)) := ⟨_, rfl⟩
  rw [← hS1, ← hS2]
  have B1 := build_two w3 S1 S2 a1 a2
  have B2 := build_mac w3 S1 S2 a1 a2
  obtain ⟨D1, hD1⟩ : ∃ D1, D1 = (digL [] 64 S1 (.slice a1 0 0)).toArray := ⟨_, rfl⟩
  obtain ⟨D2, hD2⟩ : ∃ D2, D2 = (digL [] 64 S2 (.slice a2 0 0)).toArray := ⟨_, rfl⟩
  obtain ⟨D, hD⟩ : ∃ D, D = (digL (digL [] 64 S2 (.slice a2 0 0)) 64 S1 (.slice a1 0 0)).toArray := ⟨_, rfl⟩
  rw [← hD1, ← hD2, ← hD] at B1
  rw [← hD] at B2
  rw [← hD1, ← hD2]
  have HD : Hid (D = (digL (digL [] 64 S2 (.slice a2 0 0)) 64 S1 (.slice a1 0 0)).toArray) := hD
  have HB1 : Hid ((Instr.build 79 #[(0, .agg D1), (1, .agg D2)]).run Tryd.prog w3 = .ok (.agg D) w3) := B1
  have HB2 : Hid ((Instr.build 81 #[(0, .agg D)]).run Tryd.prog w3 = .ok (.agg D) w3) := B2
  have HS1 : Hid (S1 = stOf ((fillK key).map (· ^^^ 54))) := hS1
  have HS2 : Hid (S2 = stOf ((fillK key).map (· ^^^ 92))) := hS2
  clear hg2 hD hD1 hD2 B1 B2 hS1 hS2 hmf
  go_wp2_with (first | (refine wpList_build_run rfl 79 _ rfl [(0, .agg D1), (1, .agg D2)] _ rfl HB1.out ?_) | refine wpList_build_run rfl 81 _ rfl [(0, .agg D)] _ rfl HB2.out ?_)
  go_ret2
  have hin : S1 = stOf (inK key) := HS1.out
  have hout : S2 = stOf (outK key) := HS2.out
  have hnil : leftOf (inK key) = [] := leftOf_64 _ (padK_length key _)
  have hlen : (inK key).length = 64 := padK_length key _
  have hobj : ObjAt (outR key a2) 81 (w3.alloc (.cells D 81)) w3.heap.size 64 (stOf (inK key)) (.slice a1 0 0) :=
    ⟨by rw [heap_alloc_new, HD.out, hin, hout]; rfl, outR_none key a2⟩
  refine ⟨w3.heap.size, rfl, hbel3.size, ⟨a2, a1, ?_, ?_, ?_, rfl, ?_, ?_⟩, hbel3.alloc hbel3.size _⟩
  · rw [List.append_nil, hnil, hlen]; exact hobj
  · rw [List.append_nil, hnil]; exact ⟨Nat.le_refl _, by simp, fun _ => rfl, fun h => absurd rfl h⟩
  · rw [List.append_nil, hlen]; omega
  · intro b' off _ h; rw [List.append_nil] at h; exact absurd hnil h
  · rintro k rfl; simp
end Go.Proofs.YtkpaldkmikjpiaaDoor
