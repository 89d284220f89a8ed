/-
  The walk of FrameCore.
-/
import Derived.Test.YtoggjpkbbncbbaaFrameLaws
namespace Go.Proofs.Ytoggjpkbbncbbaa
open Go.ChangeShapes Go.WideShapes Go.ChangeAt Go.RowKit

theorem core_tag (w W : World) (F : Fr) (A : At) (x : Option Addr) (cx : Nat) (l : List UInt8) (hF : Seen w F A) (hx : Sees w x cx l) (h1 : FrAt W w.heap.size F A) (h2 : FrAt W (w.heap.size + 1) F A) (hb : Below w.heap.size w W) :
    FrAt (W.setCell ⟨w.heap.size + 1, 12, none⟩ (.slice x l.length cx)) w.heap.size F A ∧ FrAt (W.setCell ⟨w.heap.size + 1, 12, none⟩ (.slice x l.length cx)) (w.heap.size + 1) { F with tag := l } { A with ta := x, tc := cx } ∧
      Seen (W.setCell ⟨w.heap.size + 1, 12, none⟩ (.slice x l.length cx)) F A ∧ Seen (W.setCell ⟨w.heap.size + 1, 12, none⟩ (.slice x l.length cx)) { F with tag := l } { A with ta := x, tc := cx } ∧ Below w.heap.size w (W.setCell ⟨w.heap.size + 1, 12, none⟩ (.slice x l.length cx)) := by
  have hbv : Below w.heap.size w (W.setCell ⟨w.heap.size + 1, 12, none⟩ (.slice x l.length cx)) := hb.setCell (p := ⟨w.heap.size + 1, 12, none⟩) (by simp) _
  exact ⟨h1.keep (heap_setCell_other _ _ _ _ (by simp)), h2.put 12 _ rfl, hF.below hbv, ⟨hF.key.below hbv, hF.body.below hbv, hx.below hbv⟩, hbv⟩

set_option maxHeartbeats 3200000 in
set_option maxRecDepth 20000 in
theorem core_walk (F : Fr) (A : At) (x : Option Addr) (cx : Nat) (l : List UInt8) (w : World) (hF : Seen w F A) (hn : F.n < 18446744073709551616) (hx : Sees w x cx l) :
    Calls Try.prog 7 #[.agg (frC F A), .slice x l.length cx] w fun e w' => e = .returned (.bool true) ∧ Below w.heap.size w w' := by
  obtain ⟨W, hst, _, h1, h2, hb⟩ := rcore_copy w F A
  have HL : Hid ((Instr.loadAt 25 (.pointer (some ⟨w.heap.size, 0, none⟩))).run Try.prog (w.alloc (.cells (frC F A) 25)) = .ok (.agg (frC F A)) (w.alloc (.cells (frC F A) 25))) := (FrAt.new w F A).loads
  have HST : Hid ((Instr.storeAt 25 (.pointer (some ⟨w.heap.size + 1, 0, none⟩)) (.agg (frC F A))).run Try.prog ((w.alloc (.cells (frC F A) 25)).alloc (.cells (frC Fr.zero At.zero) 25)) = .ok () W) := hst
  have c12 := h2.c12
  have z12 := h2.fz 12
  obtain ⟨k1, k2, k3, k4, k5⟩ := core_tag w W F A x cx l hF hx h1 h2 hb
  obtain ⟨V, hV⟩ : ∃ V, V = W.setCell ⟨w.heap.size + 1, 12, none⟩ (.slice x l.length cx) := ⟨_, rfl⟩
  obtain ⟨A2, hA2⟩ : ∃ A2 : At, A2 = { A with ta := x, tc := cx } := ⟨_, rfl⟩
  obtain ⟨G, hG⟩ : ∃ G : Fr, G = { F with tag := l } := ⟨_, rfl⟩
  rw [← hV] at k1 k2 k3 k4 k5
  rw [← hA2, ← hG] at k2 k4
  have hGn : G.n < 18446744073709551616 := by rw [hG]; exact hn
  have eR : coreR' G = coreR' F := by rw [hG]; rfl
  have eE : coreE G = coreE F := by rw [hG]; rfl
  have hc1 := core_any V F A k3 hn
  have HC2 : Hid (∀ w1, Below V.heap.size V w1 → Calls Try.prog 10 #[.agg (frC G A2)] w1 fun e w' => Tells w1 w' e (coreR' F) (coreE F)) := fun w1 hb1 => by
    have := core_any w1 G A2 (k4.below hb1) hGn
    rw [eR, eE] at this
    exact this
  have HLV : Hid ((Instr.loadAt 25 (.pointer (some ⟨w.heap.size, 0, none⟩))).run Try.prog V = .ok (.agg (frC F A)) V) := k1.loads
  have HL2 : Hid (∀ w1, Below V.heap.size V w1 → (Instr.loadAt 25 (.pointer (some ⟨w.heap.size + 1, 0, none⟩))).run Try.prog w1 = .ok (.agg (frC G A2)) w1) := fun w1 hb1 => (k2.below hb1).loads
  have HV : Hid (V = W.setCell ⟨w.heap.size + 1, 12, none⟩ (.slice x l.length cx)) := hV
  have HB : Hid (Below w.heap.size w V) := k5
  generalize coreR' F = R at *
  generalize coreE F = E at *
  clear hst h1 h2 hb hF hn hx k1 k2 k3 k4 k5 hV hA2 hG hGn eR eE
  go_enter Try.func7, Try.ntmps7
  go_upto_region 3 with (first | (refine wpList_gload_run rfl 25 _ rfl _ _ rfl HL.out ?_) | (refine wpList_store_run rfl 25 _ _ rfl _ _ rfl rfl HST.out ?_) | fail)
  clear c12 z12 HL HST
  rw [← HV.out]
  clear HV
  go_wp2_with (first | (refine wpList_gload_run rfl 25 _ rfl _ _ rfl HLV.out ?_) | fail)
  refine hc1.mono ?_
  rintro e w1 ⟨d1, cd1, rfl, hs1, hb1⟩
  have hc2 := HC2.out w1 hb1
  have HLW : Hid ((Instr.loadAt 25 (.pointer (some ⟨w.heap.size + 1, 0, none⟩))).run Try.prog w1 = .ok (.agg (frC G A2)) w1) := HL2.out w1 hb1
  have H1 : Hid (Sees w1 d1 cd1 R ∧ Below w.heap.size w w1) := ⟨hs1, HB.out.trans (hb1.mono HB.out.size)⟩
  clear hc1 HLV HC2 HL2 hs1 hb1
  go_wp2_with (first | (refine wpList_gload_run rfl 25 _ rfl _ _ rfl HLW.out ?_) | fail)
  refine hc2.mono ?_
  rintro e w2 ⟨d2, cd2, rfl, hs2, hb2⟩
  have e1 := (H1.out.1.below hb2).convert (P := Try.prog) 23 5 9 Try.underlying23 Try.underlying5 Try.underlying9
  have e2 := hs2.convert (P := Try.prog) 23 5 9 Try.underlying23 Try.underlying5 Try.underlying9
  have haw := awake_ok w2
  have H2 : Hid (Below w.heap.size w w2) := H1.out.2.trans (hb2.mono H1.out.2.size)
  clear hc2 HLW hs2 hb2 H1
  go_wp2_with fail
  refine haw.mono ?_
  rintro e w3 ⟨rfl, hb3⟩
  have HE : Hid (Below w.heap.size w w3) := H2.out.trans (hb3.mono H2.out.size)
  clear haw hb3 H2 e1 e2
  go_wp2
  go_ret
  exact ⟨rfl, HE.out⟩
end Go.Proofs.Ytoggjpkbbncbbaa
