/-
  The walk of SealOpens.
-/
import Derived.Test.YtaihjnaggmmiiaaGreatDoorSealROpen
import Derived.Test.YtaihjnaggmmiiaaGreatDoorFrameGetsW
namespace Go.Proofs.YtaihjnaggmmiiaaGreatDoor
open Go.ChangeShapes Go.WideShapes Go.ChangeAt Go.RowKit

set_option maxHeartbeats 1600000 in
set_option maxRecDepth 20000 in
theorem opens_walk (x : Option Addr) (cx : Nat) (l : List UInt8) (k : Option Addr) (ck : Nat) (key : List UInt8) (w : World) (hT : Tabs w) (hx : Sees w x cx l) (hcx : cx ≤ 140737488351232) (hk : Sees w k ck key) :
    Calls Tryz.prog 4 #[.slice x l.length cx, .slice k key.length ck] w fun e w' => e = .returned (.bool true) ∧ Below w.heap.size w w' := by
  have hl : l.length ≤ 140737488351232 := Nat.le_trans hx.fits hcx
  have ho := open_any w x cx l k ck key hT hx hl hk
  have HK : Hid (Tabs w ∧ Sees w x cx l ∧ Sees w k ck key ∧ l.length ≤ 140737488351232) := ⟨hT, hx, hk, hl⟩
  have HR : Hid (∀ w1, Below w.heap.size w w1 → Calls Tryz.prog 15 #[.slice x l.length cx, .slice k key.length ck] w1 fun e w' => Got w1 w' e (openF l key) ((openE l key : Nat) : Int)) := fun w1 hb1 => ropen_any w1 x cx l k ck key (HK.out.2.1.below hb1) hl (HK.out.2.2.1.below hb1)
  generalize openE l key = E at *
  generalize openF l key = G at *
  clear hT hx hcx hk hl
  go_enter Tryz.func4, Tryz.ntmps4
  go_wp2_with fail
  refine ho.mono ?_
  rintro e w1 ⟨A1, rfl, hs1, hb1⟩
  obtain ⟨W1, hst1, f1, s1, b1⟩ := fr_laid hs1
  have hb1w : Below w.heap.size w W1 := hb1.trans (b1.mono hb1.size)
  have HST1 : Hid ((Instr.storeAt 25 (.pointer (some ⟨w1.heap.size, 0, none⟩)) (.agg (frC G A1))).run Tryz.prog (w1.alloc (.cells (frC Fr.zero At.zero) 25)) = .ok () W1) := hst1
  have H1 : Hid (FrAt W1 w1.heap.size G A1 ∧ Seen W1 G A1 ∧ Below w.heap.size w W1) := ⟨f1, s1, hb1w⟩
  have hr := HR.out W1 hb1w
  clear ho hs1 hb1 hst1 f1 s1 b1 hb1w HR
  go_wp2_with (first | (refine wpList_store_run rfl 25 _ _ rfl _ _ rfl rfl HST1.out ?_) | fail)
  refine hr.mono ?_
  rintro e w2 ⟨A2, rfl, hs2, hb2⟩
  obtain ⟨W2, hst2, f2, s2, b2⟩ := fr_laid hs2
  have hbW1 : Below W1.heap.size W1 W2 := hb2.trans (b2.mono hb2.size)
  have hb2w : Below w.heap.size w W2 := H1.out.2.2.trans (hbW1.mono H1.out.2.2.size)
  have HST2 : Hid ((Instr.storeAt 25 (.pointer (some ⟨w2.heap.size, 0, none⟩)) (.agg (frC G A2))).run Tryz.prog (w2.alloc (.cells (frC Fr.zero At.zero) 25)) = .ok () W2) := hst2
  have HL1 : Hid ((Instr.loadAt 25 (.pointer (some ⟨w1.heap.size, 0, none⟩))).run Tryz.prog W2 = .ok (.agg (frC G A1)) W2) := (H1.out.1.below hbW1).loads
  have HL2 : Hid ((Instr.loadAt 25 (.pointer (some ⟨w2.heap.size, 0, none⟩))).run Tryz.prog W2 = .ok (.agg (frC G A2)) W2) := f2.loads
  have hsm := rsame_any W2 G A1 G A2 (H1.out.2.1.below hbW1) s2 true (sameB_refl G)
  have H2 : Hid (Below w.heap.size w W2) := hb2w
  clear hr hs2 hb2 hst2 f2 s2 b2 hbW1 hb2w HST1 H1
  go_wp2_with (first | (refine wpList_store_run rfl 25 _ _ rfl _ _ rfl rfl HST2.out ?_) | (refine wpList_gload_run rfl 25 _ rfl _ _ rfl HL1.out ?_) | (refine wpList_gload_run rfl 25 _ rfl _ _ rfl HL2.out ?_) | fail)
  refine hsm.mono ?_
  rintro e w3 ⟨rfl, hb3⟩
  have H3 : Hid (Below w.heap.size w w3) := H2.out.trans (hb3.mono H2.out.size)
  have haw := awake_ok w3 (HK.out.1.below H3.out)
  have eE : ((E : Int) == (E : Int)) = true := by simp
  clear hsm hb3 H2 HST2 HL1 HL2 HK
  go_wp2_with fail
  refine haw.mono ?_
  rintro e w4 ⟨rfl, hb4⟩
  have HE : Hid (Below w.heap.size w w4) := H3.out.trans (hb4.mono H3.out.size)
  clear haw hb4 H3
  go_wp2
  go_ret
  exact ⟨rfl, HE.out⟩
end Go.Proofs.YtaihjnaggmmiiaaGreatDoor
