/-
  The document's Open.
-/
import Derived.Test.YtaihjnaggmmiiaaGreatDoorSealOpen
import Derived.Test.YtaihjnaggmmiiaaGreatDoorSealRef
import Derived.Test.YtaihjnaggmmiiaaGreatDoorFrameRGet
namespace Go.Proofs.YtaihjnaggmmiiaaGreatDoor
open Go.ChangeShapes Go.WideShapes Go.ChangeAt Go.RowKit

set_option maxHeartbeats 1600000 in
set_option maxRecDepth 20000 in
theorem ropen_bytes (w : World) (x : Option Addr) (cx : Nat) (l : List UInt8) (k : Option Addr) (ck : Nat) (key : List UInt8) (hx : Sees w x cx l) (hl : l.length ≤ 140737488351232) (hE : ¬ getE l = 0) :
    Calls Tryz.prog 15 #[.slice x l.length cx, .slice k key.length ck] w fun e w' => Got w w' e Fr.zero ((getE l : Nat) : Int) := by
  have h0 : FrAt (w.alloc (.cells (frC Fr.zero At.zero) 25)) w.heap.size Fr.zero At.zero := FrAt.new w _ _
  have hb0 : Below w.heap.size w (w.alloc (.cells (frC Fr.zero At.zero) 25)) := Go.Joins.below_alloc1 _ _
  have hg := rget_any2 (w.alloc (.cells (frC Fr.zero At.zero) 25)) x cx l (hx.below hb0) hl
  rw [getF_bad hE] at hg
  obtain ⟨E, hEE⟩ : ∃ E, E = getE l := ⟨_, rfl⟩
  rw [← hEE] at hg hE ⊢
  have d0 : ((E : Int) != 0) = true := by simp; omega
  have H0 : Hid (∀ w1, Below (w.alloc (.cells (frC Fr.zero At.zero) 25)).heap.size (w.alloc (.cells (frC Fr.zero At.zero) 25)) w1 → FrAt w1 w.heap.size Fr.zero At.zero ∧ Below w.heap.size w w1) := fun w1 hb1 => ⟨h0.below hb1, hb0.trans (hb1.mono hb0.size)⟩
  clear hEE h0 hb0 hx hE
  go_enter Tryz.func15, Tryz.ntmps15
  go_wp2_with fail
  refine hg.mono ?_
  rintro e w1 ⟨A1, rfl, hs1, hb1⟩
  obtain ⟨h1, hb⟩ := H0.out w1 hb1
  obtain ⟨W1, hst1, f1, s1, b1⟩ := fr_laid hs1
  have HST1 : Hid ((Instr.storeAt 25 (.pointer (some ⟨w1.heap.size, 0, none⟩)) (.agg (frC Fr.zero A1))).run Tryz.prog (w1.alloc (.cells (frC Fr.zero At.zero) 25)) = .ok () W1) := hst1
  obtain ⟨W, hst, hW, hs, hbW⟩ := got_stored (w := w) (h1.below b1) (hb.trans (b1.mono hb.size)) Fr.zero At.zero (Seen.zero _)
  have HB : Hid ((Instr.build 25 #[]).run Tryz.prog W1 = .ok (.agg (frC Fr.zero At.zero)) W1) := build_zero _
  have HST : Hid ((Instr.storeAt 25 (.pointer (some ⟨w.heap.size, 0, none⟩)) (.agg (frC Fr.zero At.zero))).run Tryz.prog W1 = .ok () W) := hst
  have HE : Hid (FrAt W w.heap.size Fr.zero At.zero ∧ Seen W Fr.zero At.zero ∧ Below w.heap.size w W) := ⟨hW, hs, hbW⟩
  clear hg hb1 H0 h1 hb hst hW hs hbW hst1 f1 s1 b1 hs1
  go_wp2_with (first | (refine wpList_build_run rfl 25 _ rfl [] _ rfl HB.out ?_) | (refine wpList_store_run rfl 25 _ _ rfl _ _ rfl rfl HST1.out ?_) | (refine wpList_store_run rfl 25 _ _ rfl _ _ rfl rfl HST.out ?_) | fail)
  refine bodyPost_ret (res_fr_tmp rfl rfl HE.out.1) rfl ?_
  exact ⟨At.zero, rfl, HE.out.2⟩

set_option maxHeartbeats 1600000 in
set_option maxRecDepth 20000 in
theorem ropen_good (w : World) (x : Option Addr) (cx : Nat) (l : List UInt8) (k : Option Addr) (ck : Nat) (key : List UInt8) (hx : Sees w x cx l) (hl : l.length ≤ 140737488351232) (hk : Sees w k ck key) (hE : getE l = 0) (b : Bool) (hb : holdsB key (getF l) = b) (G : Fr) (hG : getF l = G) (R : Ending → World → Prop)
    (hR : ∀ e w', R e w' ↔ Got w w' e (if b = true then G else Fr.zero) (((if b = true then 0 else 13) : Nat) : Int)) :
    Calls Tryz.prog 15 #[.slice x l.length cx, .slice k key.length ck] w R := by
  have h0 : FrAt (w.alloc (.cells (frC Fr.zero At.zero) 25)) w.heap.size Fr.zero At.zero := FrAt.new w _ _
  have hb0 : Below w.heap.size w (w.alloc (.cells (frC Fr.zero At.zero) 25)) := Go.Joins.below_alloc1 _ _
  have hg := rget_any2 (w.alloc (.cells (frC Fr.zero At.zero) 25)) x cx l (hx.below hb0) hl
  rw [hE] at hg
  have HK : Hid (Sees w k ck key ∧ (getF l).n < 18446744073709551616 ∧ holdsB key (getF l) = b) := ⟨hk, getF_n l, hb⟩
  have H0 : Hid (∀ w1, Below (w.alloc (.cells (frC Fr.zero At.zero) 25)).heap.size (w.alloc (.cells (frC Fr.zero At.zero) 25)) w1 → FrAt w1 w.heap.size Fr.zero At.zero ∧ Below w.heap.size w w1) := fun w1 hb1 => ⟨h0.below hb1, hb0.trans (hb1.mono hb0.size)⟩
  rw [hG] at hg HK
  have HR : Hid (∀ e w', R e w' ↔ Got w w' e (if b = true then G else Fr.zero) (((if b = true then 0 else 13) : Nat) : Int)) := hR
  clear h0 hb0 hx hE hk hb hG hR
  go_enter Tryz.func15, Tryz.ntmps15
  go_wp2_with fail
  refine hg.mono ?_
  rintro e w1 ⟨A1, rfl, hs1, hb1⟩
  obtain ⟨h1, hb⟩ := H0.out w1 hb1
  obtain ⟨W1, hst1, f1, s1, b1⟩ := fr_laid hs1
  have hb1w : Below w.heap.size w W1 := hb.trans (b1.mono hb.size)
  have HST1 : Hid ((Instr.storeAt 25 (.pointer (some ⟨w1.heap.size, 0, none⟩)) (.agg (frC G A1))).run Tryz.prog (w1.alloc (.cells (frC Fr.zero At.zero) 25)) = .ok () W1) := hst1
  have HL1 : Hid ((Instr.loadAt 25 (.pointer (some ⟨w1.heap.size, 0, none⟩))).run Tryz.prog W1 = .ok (.agg (frC G A1)) W1) := f1.loads
  have hh := rholds_any W1 G A1 k ck key s1 HK.out.2.1 (HK.out.1.below hb1w) b HK.out.2.2
  have H1 : Hid (FrAt W1 w.heap.size Fr.zero At.zero ∧ FrAt W1 w1.heap.size G A1 ∧ Seen W1 G A1 ∧ Below w.heap.size w W1) := ⟨h1.below b1, f1, s1, hb1w⟩
  clear hg hb1 H0 h1 hb hst1 f1 s1 b1 hs1 HK hb1w
  go_wp2_with (first | (refine wpList_store_run rfl 25 _ _ rfl _ _ rfl rfl HST1.out ?_) | (refine wpList_gload_run rfl 25 _ rfl _ _ rfl HL1.out ?_) | fail)
  refine hh.mono ?_
  rintro e w2 ⟨rfl, hb2⟩
  have hbw : Below w.heap.size w w2 := H1.out.2.2.2.trans (hb2.mono H1.out.2.2.2.size)
  cases b
  · obtain ⟨W, hst, hW, hs, hbW⟩ := got_stored (w := w) (H1.out.1.below hb2) hbw Fr.zero At.zero (Seen.zero _)
    have HB : Hid ((Instr.build 25 #[]).run Tryz.prog w2 = .ok (.agg (frC Fr.zero At.zero)) w2) := build_zero _
    have HST : Hid ((Instr.storeAt 25 (.pointer (some ⟨w.heap.size, 0, none⟩)) (.agg (frC Fr.zero At.zero))).run Tryz.prog w2 = .ok () W) := hst
    have HE : Hid (FrAt W w.heap.size Fr.zero At.zero ∧ Seen W Fr.zero At.zero ∧ Below w.heap.size w W) := ⟨hW, hs, hbW⟩
    clear hh hb2 hbw HST1 HL1 H1 hst hW hs hbW
    go_wp2_with (first | (refine wpList_build_run rfl 25 _ rfl [] _ rfl HB.out ?_) | (refine wpList_store_run rfl 25 _ _ rfl _ _ rfl rfl HST.out ?_) | fail)
    refine bodyPost_ret (res_fr_tmp rfl rfl HE.out.1) rfl ?_
    exact (HR.out _ _).2 ⟨At.zero, rfl, HE.out.2⟩
  · obtain ⟨W, hst, hW, hs, hbW⟩ := got_stored (w := w) (H1.out.1.below hb2) hbw G A1 (H1.out.2.2.1.below hb2)
    have HL2 : Hid ((Instr.loadAt 25 (.pointer (some ⟨w1.heap.size, 0, none⟩))).run Tryz.prog w2 = .ok (.agg (frC G A1)) w2) := (H1.out.2.1.below hb2).loads
    have HST : Hid ((Instr.storeAt 25 (.pointer (some ⟨w.heap.size, 0, none⟩)) (.agg (frC G A1))).run Tryz.prog w2 = .ok () W) := hst
    have HE : Hid (FrAt W w.heap.size G A1 ∧ Seen W G A1 ∧ Below w.heap.size w W) := ⟨hW, hs, hbW⟩
    clear hh hb2 hbw HST1 HL1 H1 hst hW hs hbW
    go_wp2_with (first | (refine wpList_gload_run rfl 25 _ rfl _ _ rfl HL2.out ?_) | (refine wpList_store_run rfl 25 _ _ rfl _ _ rfl rfl HST.out ?_) | fail)
    refine bodyPost_ret (res_fr_tmp rfl rfl HE.out.1) rfl ?_
    exact (HR.out _ _).2 ⟨A1, rfl, HE.out.2⟩

theorem ropen_any (w : World) (x : Option Addr) (cx : Nat) (l : List UInt8) (k : Option Addr) (ck : Nat) (key : List UInt8) (hx : Sees w x cx l) (hl : l.length ≤ 140737488351232) (hk : Sees w k ck key) :
    Calls Tryz.prog 15 #[.slice x l.length cx, .slice k key.length ck] w fun e w' => Got w w' e (openF l key) ((openE l key : Nat) : Int) := by
  by_cases hE : getE l = 0
  · have e1 : openE l key = if holdsB key (getF l) = true then 0 else 13 := if_pos hE
    have e2 : openF l key = if holdsB key (getF l) = true then getF l else Fr.zero := by
      unfold openF
      rw [e1]
      by_cases hh : holdsB key (getF l) = true
      · rw [if_pos hh, if_pos hh]; rfl
      · rw [if_neg hh, if_neg hh]; rfl
    rw [e1, e2]
    exact ropen_good w x cx l k ck key hx hl hk hE _ rfl _ rfl _ (fun _ _ => Iff.rfl)
  · have e1 : openE l key = getE l := if_neg hE
    have e2 : openF l key = Fr.zero := by unfold openF; rw [e1, if_neg hE]
    rw [e1, e2]
    exact ropen_bytes w x cx l k ck key hx hl hE
end Go.Proofs.YtaihjnaggmmiiaaGreatDoor
