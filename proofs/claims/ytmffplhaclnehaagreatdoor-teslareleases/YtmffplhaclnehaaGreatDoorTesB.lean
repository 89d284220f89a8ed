/-
  The law's frames: two lists of the same frames are told to be the same.
-/
import Derived.Test.YtmffplhaclnehaaGreatDoorTesN
import Derived.Test.YtmffplhaclnehaaGreatDoorChainC
import Derived.Test.YtmffplhaclnehaaGreatDoorTesG
import Derived.Test.YtmffplhaclnehaaGreatDoorFrameRGet
import Derived.Test.YtmffplhaclnehaaGreatDoorDisA
import Derived.Test.YtmffplhaclnehaaGreatDoorSchedC
import Derived.Test.YtmffplhaclnehaaGreatDoorTesJ
import Derived.Test.YtmffplhaclnehaaGreatDoorSealB
import Derived.Test.YtmffplhaclnehaaGreatDoorTesC
import Derived.Test.YtmffplhaclnehaaGreatDoorTesQ
namespace Go.Proofs.YtmffplhaclnehaaGreatDoor
open Go.ChangeShapes Go.WideShapes Go.ChangeAt Go.RowKit
set_option maxRecDepth 20000
theorem sameB_self (F : Fr) : sameB F F = true := by simp [sameB]
theorem Row.frame {w : World} {a : Option Addr} {n c : Nat} {os : List (Fr × At)} (h : Row EFr w (.slice a n c) os) {j : Nat} {p : Fr × At} (hp : os[j]? = some p) : ∃ q, a = some ⟨q, 0, none⟩ ∧ (Instr.loadAt 61 (.pointer (some ⟨q, j * 13, none⟩))).run Tryz.prog w = .ok (.agg (frC p.1 p.2)) w := by
  obtain ⟨_, q, rfl, hc⟩ := h.get hp
  exact ⟨q, rfl, run_loadAt_mid w q (j * 13) 61 (frL p.1 p.2) _ (fun t v hv => hc t v hv) Tryz.underlying61 rfl (by kernel_rfl)⟩
set_option maxHeartbeats 1600000 in
theorem frames_ok (w : World) (a b : Option Addr) (n m c d : Nat) (L : List Fr) (ha : Frs w (.slice a n c) L) (hb : Frs w (.slice b m d) L) (hl : L.length ≤ 900) : Calls Tryz.prog 17 #[.slice a n c, .slice b m d] w fun e w' => e = .returned (.bool true) ∧ Below w.heap.size w w' := by
  obtain ⟨_, _, e1⟩ := ha.shape
  obtain ⟨_, _, e2⟩ := hb.shape
  cases e1
  cases e2
  have hfm : Tryz.prog.follows .mixedOrders = true := by kernel_rfl
  obtain ⟨os, r1, s1, m1⟩ := ha
  obtain ⟨ps, r2, s2, m2⟩ := hb
  have HA : Hid (Row EFr w (.slice a L.length c) os ∧ (∀ p ∈ os, Seen w p.1 p.2) ∧ os.map Prod.fst = L) := ⟨r1, s1, m1⟩
  have HB : Hid (Row EFr w (.slice b L.length d) ps ∧ (∀ p ∈ ps, Seen w p.1 p.2) ∧ ps.map Prod.fst = L) := ⟨r2, s2, m2⟩
  clear r1 s1 m1 r2 s2 m2
  go_enter Tryz.func17, Tryz.ntmps17
  go_wp2
  go_loopw [5] (fun iv wr => ∃ (t : Nat), t ≤ L.length ∧ iv = .int .i64 (t : Int) ∧ Below w.heap.size w wr) (fun iv _ => (L.length - intOf iv).toNat)
  case atStart => exact ⟨0, by omega, rfl, Below.refl _ _⟩
  case round =>
    obtain ⟨t, ht, rfl, hbr⟩ := hrel
    by_cases htc : t < L.length
    · obtain ⟨F, hF⟩ : ∃ F, L[t]? = some F := ⟨L[t]'htc, List.getElem?_eq_getElem htc⟩
      have hbd : Below wr.heap.size wr wr.drew := (Below.refl _ _).drew
      have hbrd := hbr.trans (hbd.mono hbr.size)
      obtain ⟨⟨F1, A1⟩, hp1⟩ : ∃ p, os[t]? = some p := ⟨os[t]'(by have := congrArg List.length HA.out.2.2; simp at this; omega), List.getElem?_eq_getElem _⟩
      obtain ⟨⟨F2, A2⟩, hp2⟩ : ∃ p, ps[t]? = some p := ⟨ps[t]'(by have := congrArg List.length HB.out.2.2; simp at this; omega), List.getElem?_eq_getElem _⟩
      have e1 : F1 = F := by
        have h := hF
        rw [← HA.out.2.2, List.getElem?_map, hp1] at h
        exact Option.some.inj h
      have e2 : F2 = F := by
        have h := hF
        rw [← HB.out.2.2, List.getElem?_map, hp2] at h
        exact Option.some.inj h
      subst e1
      subst e2
      obtain ⟨q1, rfl, -⟩ := HA.out.1.frame hp1
      obtain ⟨q2, rfl, -⟩ := HB.out.1.frame hp2
      have HS : Hid (∀ V, Below w.heap.size w V → (fun V => (Instr.loadAt 61 (.pointer (some ⟨q1, t * 13, none⟩))).run Tryz.prog V = .ok (.agg (frC F2 A1)) V ∧ (Instr.loadAt 61 (.pointer (some ⟨q2, t * 13, none⟩))).run Tryz.prog V = .ok (.agg (frC F2 A2)) V) V) := fun V hv => by
        obtain ⟨_, e1, l1⟩ := (HA.out.1.below hv).frame hp1
        obtain ⟨_, e2, l2⟩ := (HB.out.1.below hv).frame hp2
        cases e1
        cases e2
        exact ⟨l1, l2⟩
      have KS := rsame_any wr.drew F2 A1 F2 A2 ((HA.out.2.1 _ (List.mem_of_getElem? hp1)).below hbrd) ((HB.out.2.1 _ (List.mem_of_getElem? hp2)).below hbrd) true (sameB_self F2)
      have hS0 := HS.out _ hbrd
      have HBR : Hid (Below w.heap.size w wr.drew) := hbrd
      clear hbd hbr hbrd hF hp1 hp2
      go_wp2_with fail
      refine wp_region_noPanic ?_
      refine wp_region_held (S := fun V => (Instr.loadAt 61 (.pointer (some ⟨q1, t * 13, none⟩))).run Tryz.prog V = .ok (.agg (frC F2 A1)) V ∧ (Instr.loadAt 61 (.pointer (some ⟨q2, t * 13, none⟩))).run Tryz.prog V = .ok (.agg (frC F2 A2)) V) (by kernel_rfl) ?_
      have hS := hS0
      refine tk 0 hS ?_
      refine tk 1 hS ?_
      refine tk 2 hS ?_
      refine tk 3 (v := Value.agg (frC F2 A1)) (hv := fun W hW => exec_load 61 (.tmp 19) rfl _ _ rfl hW.1) hS ?_
      refine tk 4 hS ?_
      refine tk 5 hS ?_
      refine tk 6 hS ?_
      refine tk 7 (v := Value.agg (frC F2 A2)) (hv := fun W hW => exec_load 61 (.tmp 23) rfl _ _ rfl hW.2) hS ?_
      refine any_one 8 rfl (by kernel_rfl) (by rfl) (fun K hK => ?_)
      clear hS
      go_simp
      refine KS.mono ?_
      rintro ev w2 ⟨rfl, hb2⟩
      have HB2 : Hid (Below w.heap.size w w2) := HBR.out.trans (hb2.mono HBR.out.size)
      clear hb2 KS
      refine hK.out _ _ (HS.out _ HB2.out) (fun hS => ?_)
      clear hK
      (try simp only [Act.put, sT])
      refine tk 9 hS ?_
      refine wpAnyH_done (by kernel_rfl) ?_ _
      refine NoPanic.normal ?_
      clear hS hS0
      go_wp2
      go_roundw
      case rel => exact ⟨t + 1, by omega, by go_num, HB2.out⟩
      case measure => simp [intOf]; omega
    · have hdt : decide ((t : Int) < (L.length : Int)) = false := decide_eq_false (by omega)
      have HBR : Hid (Below w.heap.size w wr) := hbr
      clear hbr
      go_wp2
      go_ret
      exact ⟨rfl, HBR.out⟩
end Go.Proofs.YtmffplhaclnehaaGreatDoor
