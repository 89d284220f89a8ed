/-
  The walk of FrameBack.
-/
import Derived.Test.YtoggjpkbbncbbaaFrameLaws
import Derived.Test.YtoggjpkbbncbbaaFrameGetP
namespace Go.Proofs.Ytoggjpkbbncbbaa
open Go.ChangeShapes Go.WideShapes Go.ChangeAt Go.RowKit

/-- A frame that came back, in a block of its own. -/
theorem fr_laid {W : World} {F : Fr} {A : At} (hs : Seen W F A) : ∃ W', (Instr.storeAt 25 (.pointer (some ⟨W.heap.size, 0, none⟩)) (.agg (frC F A))).run Try.prog (W.alloc (.cells (frC Fr.zero At.zero) 25)) = .ok () W' ∧ FrAt W' W.heap.size F A ∧ Seen W' F A ∧ Below W.heap.size W W' := by
  have h1 : FrAt (W.alloc (.cells (frC Fr.zero At.zero) 25)) W.heap.size Fr.zero At.zero := FrAt.new W _ _
  have hbb : Below W.heap.size W ((W.alloc (.cells (frC Fr.zero At.zero) 25)).setRow W.heap.size (frC F A)) := below_setRow (Go.Joins.below_alloc1 _ _) (Nat.le_refl _) _
  exact ⟨_, h1.stores F A, h1.stored F A, hs.below hbb, hbb⟩
theorem same_any (w : World) (F : Fr) (A : At) (G : Fr) (B : At) (hF : Seen w F A) (hG : Seen w G B) (b : Bool) (hb : sameB F G = b) : Calls Try.prog 18 #[.agg (frC F A), .agg (frC G B)] w fun e w' => e = .returned (.bool b) ∧ Below w.heap.size w w' := by
  refine (same_ok w F A G B hF hG).mono ?_
  rintro e w' ⟨he, hw⟩
  rw [hb] at he
  exact ⟨he, by rw [hw]; exact Go.Joins.below_alloc2 _ _ _⟩
/-- Put of what Get told. -/
theorem put_back (l : List UInt8) (h : getE l = 0) : putR (getF l) = l ∧ putE (getF l) = 0 := by
  obtain ⟨h1, h2, _⟩ := put_get l h
  exact ⟨by unfold putR; rw [if_pos h1, h2], by unfold putE; rw [if_pos h1]⟩

set_option maxHeartbeats 3200000 in
set_option maxRecDepth 20000 in
theorem back_walk (F : Fr) (A : At) (x : Option Addr) (cx : Nat) (l : List UInt8) (w : World) (hF : Seen w F A) (hn : F.n < 18446744073709551616) (hx : Sees w x cx l) (hl : cx ≤ 140737488351232) :
    Calls Try.prog 5 #[.agg (frC F A), .slice x l.length cx] w fun e w' => e = .returned (.bool true) ∧ Below w.heap.size w w' := by
  have hN := FrAt.new w F A
  have hb0 : Below w.heap.size w (w.alloc (.cells (frC F A) 25)) := Go.Joins.below_alloc1 _ _
  have hlen : l.length ≤ 140737488351232 := Nat.le_trans hx.fits hl
  have HP1 : Hid (∀ W, Below w.heap.size w W → Calls Try.prog 8 #[.agg (frC F A)] W fun e w' => Tells W w' e (putR F) (putE F)) := fun W hW => put_any W F A (hF.below hW) hn
  have HP5 : Hid (∀ W, Below w.heap.size w W → Calls Try.prog 12 #[.agg (frC F A)] W fun e w' => e = .returned (.int .i64 (putE F)) ∧ Below W.heap.size W w') := fun W hW => check_ok W F A (hF.below hW)
  have HG : Hid (∀ W, Below w.heap.size w W → Calls Try.prog 15 #[.slice x l.length cx] W fun e w' => Got W w' e (getF l) (getE l : Nat)) := fun W hW => get_any W x cx l (hx.below hW) hlen
  have HX : Hid (∀ W, Below w.heap.size w W → (Go.convert 23 9 (.slice x l.length cx)).run Try.prog W = .ok (.string ⟨l.toArray⟩) W) := fun W hW => (hx.below hW).convert (P := Try.prog) 23 5 9 Try.underlying23 Try.underlying5 Try.underlying9
  have HS : Hid (Seen w F A) := hF
  have HN : Hid (F.n < 18446744073709551616) := hn
  have H0 : Hid (FrAt (w.alloc (.cells (frC F A) 25)) w.heap.size F A ∧ Below w.heap.size w (w.alloc (.cells (frC F A) 25))) := ⟨hN, hb0⟩
  have HL0 : Hid ((Instr.loadAt 25 (.pointer (some ⟨w.heap.size, 0, none⟩))).run Try.prog (w.alloc (.cells (frC F A) 25)) = .ok (.agg (frC F A)) (w.alloc (.cells (frC F A) 25))) := hN.loads
  have hc1 := HP1.out _ hb0
  -- what is known of Put's answer: the error, and what Get makes of the bytes
  have HR : Hid (putE F = 1 ∨ (putE F = 0 ∧ (putR F).length ≤ 53 ∧ getE (putR F) = 0 ∧ getF (putR F) = F)) := by
    show _ ∨ _
    unfold putE putR
    by_cases h : rightB F = true
    · right
      rw [if_pos h, if_pos h]
      obtain ⟨g1, g2⟩ := get_put F hn h
      exact ⟨rfl, (put_len F h).2.1, g1, g2⟩
    · left; rw [if_neg h]
  have HGL : Hid ((getE l ≠ 0 ∧ getF l = Fr.zero) ∨ (getE l = 0 ∧ putR (getF l) = l ∧ putE (getF l) = 0 ∧ (getF l).n < 18446744073709551616)) := by
    show _ ∨ _
    by_cases h : getE l = 0
    · right
      obtain ⟨p1, p2⟩ := put_back l h
      exact ⟨h, p1, p2, (put_get l h).2.2⟩
    · exact .inl ⟨h, getF_bad h⟩
  generalize putR F = R at *
  generalize putE F = P at *
  obtain ⟨E, hE⟩ : ∃ E, E = getE l := ⟨_, rfl⟩
  obtain ⟨G, hG⟩ : ∃ G, G = getF l := ⟨_, rfl⟩
  rw [← hE, ← hG] at HG HGL
  obtain ⟨N, hNl⟩ : ∃ N, N = l.length := ⟨_, rfl⟩
  rw [← hNl] at HG HX ⊢
  clear hN hb0 hF hn hx hl hE hG hlen hNl
  go_enter Try.func5, Try.ntmps5
  go_upto_region 1 with fail
  generalize w.alloc (Obj.cells (frC F A) 25) = W0 at *
  go_wp2_with (first | (refine wpList_gload_run rfl 25 _ rfl _ _ rfl HL0.out ?_) | fail)
  refine hc1.mono ?_
  rintro e w2 ⟨d1, c1, rfl, hs1, hb1⟩
  have H2 : Hid (Sees w2 d1 c1 R ∧ FrAt w2 w.heap.size F A ∧ Below w.heap.size w w2) := ⟨hs1, H0.out.1.below hb1, H0.out.2.trans (hb1.mono H0.out.2.size)⟩
  have HL2 : Hid ((Instr.loadAt 25 (.pointer (some ⟨w.heap.size, 0, none⟩))).run Try.prog w2 = .ok (.agg (frC F A)) w2) := H2.out.2.1.loads
  have hc2 := HP5.out w2 H2.out.2.2
  clear hc1 hs1 hb1 H0 HL0 HP1 HP5
  rcases HR.out with hP | ⟨hP, hRl, hRE, hRF⟩
  · subst hP
    clear HR
    go_wp2_with (first | (refine wpList_gload_run rfl 25 _ rfl _ _ rfl HL2.out ?_) | fail)
    refine hc2.mono ?_
    rintro e w3 ⟨rfl, hb3⟩
    have HB3 : Hid (Below w.heap.size w w3) := H2.out.2.2.trans (hb3.mono H2.out.2.2.size)
    have hg3 := HG.out w3 HB3.out
    clear hc2 hb3 HL2 H2 HG
    go_wp2_with fail
    refine hg3.mono ?_
    rintro e v1 ⟨A1, rfl, hs1, hb1⟩
    obtain ⟨V1, hst1, hf1, hsn1, hbb1⟩ := fr_laid hs1
    have HST1 : Hid ((Instr.storeAt 25 (.pointer (some ⟨v1.heap.size, 0, none⟩)) (.agg (frC G A1))).run Try.prog (v1.alloc (.cells (frC Fr.zero At.zero) 25)) = .ok () V1) := hst1
    have hbV : Below w.heap.size w V1 := (HB3.out.trans (hb1.mono HB3.out.size)).trans (hbb1.mono (Nat.le_trans HB3.out.size hb1.size))
    have HLV : Hid ((Instr.loadAt 25 (.pointer (some ⟨v1.heap.size, 0, none⟩))).run Try.prog V1 = .ok (.agg (frC G A1)) V1) := hf1.loads
    have HBV : Hid (Below w.heap.size w V1) := hbV
    have HSV : Hid (Seen V1 G A1) := hsn1
    clear hg3 hs1 hb1 hst1 hf1 hsn1 hbb1 hbV
    rcases HGL.out with ⟨hE, hG⟩ | ⟨hE, hGR, hGP, hGn⟩
    · have ge : ((E : Int) != 0) = true := by simp; omega
      have hsm := same_any V1 G A1 Fr.zero At.zero HSV.out (Seen.zero _) true (by rw [hG]; exact sameB_refl _)
      have HBZ : Hid ((Instr.build 25 #[]).run Try.prog V1 = .ok (.agg (frC Fr.zero At.zero)) V1) := build_zero _
      clear hE hG HGL
      go_wp2_with (first | (refine wpList_store_run rfl 25 _ _ rfl _ _ rfl rfl HST1.out ?_) | (refine wpList_gload_run rfl 25 _ rfl _ _ rfl HLV.out ?_) | (refine wpList_build_run rfl 25 _ rfl [] _ rfl HBZ.out ?_) | fail)
      refine hsm.mono ?_
      rintro e v2 ⟨rfl, hb2⟩
      have haw := awake_ok v2
      have HB2 : Hid (Below w.heap.size w v2) := HBV.out.trans (hb2.mono HBV.out.size)
      clear hsm hb2 HST1 HLV HBZ HBV HSV
      go_wp2_with fail
      refine haw.mono ?_
      rintro e v3 ⟨rfl, hb3⟩
      have HE : Hid (Below w.heap.size w v3) := HB2.out.trans (hb3.mono HB2.out.size)
      clear haw hb3 HB2
      go_wp2
      go_ret
      exact ⟨rfl, HE.out⟩
    · have ge : ((E : Int) != 0) = false := by simp; omega
      have hpt := put_any V1 G A1 HSV.out hGn
      rw [hGR, hGP] at hpt
      clear hE hGR hGP hGn HGL
      go_wp2_with (first | (refine wpList_store_run rfl 25 _ _ rfl _ _ rfl rfl HST1.out ?_) | (refine wpList_gload_run rfl 25 _ rfl _ _ rfl HLV.out ?_) | fail)
      refine hpt.mono ?_
      rintro e v2 ⟨d2, c2, rfl, hs2, hb2⟩
      have hb2w : Below w.heap.size w v2 := HBV.out.trans (hb2.mono HBV.out.size)
      have e1 := hs2.convert (P := Try.prog) 23 5 9 Try.underlying23 Try.underlying5 Try.underlying9
      have e2 := HX.out v2 hb2w
      have haw := awake_ok v2
      have HB2 : Hid (Below w.heap.size w v2) := hb2w
      clear hpt hs2 hb2 hb2w HST1 HLV HBV HSV HX
      go_wp2_with fail
      refine haw.mono ?_
      rintro e v3 ⟨rfl, hb3⟩
      have HE : Hid (Below w.heap.size w v3) := HB2.out.trans (hb3.mono HB2.out.size)
      clear haw hb3 HB2 e1 e2
      go_wp2
      go_ret
      exact ⟨rfl, HE.out⟩
  · subst hP
    have HRR : Hid (R.length ≤ 53 ∧ getE R = 0 ∧ getF R = F) := ⟨hRl, hRE, hRF⟩
    clear HR hRl hRE hRF
    go_wp2_with (first | (refine wpList_gload_run rfl 25 _ rfl _ _ rfl HL2.out ?_) | fail)
    refine hc2.mono ?_
    rintro e w3 ⟨rfl, hb3⟩
    have hb3w : Below w.heap.size w w3 := H2.out.2.2.trans (hb3.mono H2.out.2.2.size)
    have H3 : Hid (FrAt w3 w.heap.size F A ∧ Below w.heap.size w w3) := ⟨H2.out.2.1.below hb3, hb3w⟩
    have hg4 := get_any w3 d1 c1 R (H2.out.1.below hb3) (by have := HRR.out.1; omega)
    rw [HRR.out.2.1, HRR.out.2.2] at hg4
    have hg4' : Calls Try.prog 15 #[.slice d1 R.length c1] w3 fun e w' => Got w3 w' e F 0 := hg4
    have gl : decide ((96 : Int) < (R.length : Int)) = false := by have := HRR.out.1; simp; omega
    have gl2 : R.length ≤ 53 := HRR.out.1
    clear hc2 hb3 hb3w HL2 H2 hg4
    go_wp2_with fail
    refine hg4'.mono ?_
    rintro e w4 ⟨A4, rfl, hs4, hb4⟩
    obtain ⟨W4, hst4, hf4, hsn4, hbb4⟩ := fr_laid hs4
    have HST4 : Hid ((Instr.storeAt 25 (.pointer (some ⟨w4.heap.size, 0, none⟩)) (.agg (frC F A4))).run Try.prog (w4.alloc (.cells (frC Fr.zero At.zero) 25)) = .ok () W4) := hst4
    have hbW4 : Below w3.heap.size w3 W4 := hb4.trans (hbb4.mono hb4.size)
    have HLa : Hid ((Instr.loadAt 25 (.pointer (some ⟨w.heap.size, 0, none⟩))).run Try.prog W4 = .ok (.agg (frC F A)) W4) := (H3.out.1.below hbW4).loads
    have HLb : Hid ((Instr.loadAt 25 (.pointer (some ⟨w4.heap.size, 0, none⟩))).run Try.prog W4 = .ok (.agg (frC F A4)) W4) := hf4.loads
    have hbWw : Below w.heap.size w W4 := H3.out.2.trans (hbW4.mono H3.out.2.size)
    have hsm4 := same_any W4 F A F A4 (HS.out.below hbWw) hsn4 true (sameB_refl F)
    have HB4 : Hid (Below w.heap.size w W4) := hbWw
    clear hg4' hs4 hb4 hst4 hf4 hsn4 hbb4 hbW4 hbWw H3
    go_wp2_with (first | (refine wpList_store_run rfl 25 _ _ rfl _ _ rfl rfl HST4.out ?_) | (refine wpList_gload_run rfl 25 _ rfl _ _ rfl HLa.out ?_) | (refine wpList_gload_run rfl 25 _ rfl _ _ rfl HLb.out ?_) | fail)
    refine hsm4.mono ?_
    rintro e w5 ⟨rfl, hb5⟩
    have HB5 : Hid (Below w.heap.size w w5) := HB4.out.trans (hb5.mono HB4.out.size)
    have hg5 := HG.out w5 HB5.out
    clear hsm4 hb5 HST4 HLa HLb HB4 HG
    go_wp2_with fail
    refine hg5.mono ?_
    rintro e v1 ⟨A1, rfl, hs1, hb1⟩
    obtain ⟨V1, hst1, hf1, hsn1, hbb1⟩ := fr_laid hs1
    have HST1 : Hid ((Instr.storeAt 25 (.pointer (some ⟨v1.heap.size, 0, none⟩)) (.agg (frC G A1))).run Try.prog (v1.alloc (.cells (frC Fr.zero At.zero) 25)) = .ok () V1) := hst1
    have hbV : Below w.heap.size w V1 := (HB5.out.trans (hb1.mono HB5.out.size)).trans (hbb1.mono (Nat.le_trans HB5.out.size hb1.size))
    have HLV : Hid ((Instr.loadAt 25 (.pointer (some ⟨v1.heap.size, 0, none⟩))).run Try.prog V1 = .ok (.agg (frC G A1)) V1) := hf1.loads
    have HBV : Hid (Below w.heap.size w V1) := hbV
    have HSV : Hid (Seen V1 G A1) := hsn1
    clear hg5 hs1 hb1 hst1 hf1 hsn1 hbb1 hbV
    rcases HGL.out with ⟨hE, hG⟩ | ⟨hE, hGR, hGP, hGn⟩
    · have ge : ((E : Int) != 0) = true := by simp; omega
      have hsm := same_any V1 G A1 Fr.zero At.zero HSV.out (Seen.zero _) true (by rw [hG]; exact sameB_refl _)
      have HBZ : Hid ((Instr.build 25 #[]).run Try.prog V1 = .ok (.agg (frC Fr.zero At.zero)) V1) := build_zero _
      clear hE hG HGL
      go_wp2_with (first | (refine wpList_store_run rfl 25 _ _ rfl _ _ rfl rfl HST1.out ?_) | (refine wpList_gload_run rfl 25 _ rfl _ _ rfl HLV.out ?_) | (refine wpList_build_run rfl 25 _ rfl [] _ rfl HBZ.out ?_) | fail)
      refine hsm.mono ?_
      rintro e v2 ⟨rfl, hb2⟩
      have haw := awake_ok v2
      have HB2 : Hid (Below w.heap.size w v2) := HBV.out.trans (hb2.mono HBV.out.size)
      clear hsm hb2 HST1 HLV HBZ HBV HSV
      go_wp2_with fail
      refine haw.mono ?_
      rintro e v3 ⟨rfl, hb3⟩
      have HE : Hid (Below w.heap.size w v3) := HB2.out.trans (hb3.mono HB2.out.size)
      clear haw hb3 HB2
      go_wp2
      go_ret
      exact ⟨rfl, HE.out⟩
    · have ge : ((E : Int) != 0) = false := by simp; omega
      have hpt := put_any V1 G A1 HSV.out hGn
      rw [hGR, hGP] at hpt
      clear hE hGR hGP hGn HGL
      go_wp2_with (first | (refine wpList_store_run rfl 25 _ _ rfl _ _ rfl rfl HST1.out ?_) | (refine wpList_gload_run rfl 25 _ rfl _ _ rfl HLV.out ?_) | fail)
      refine hpt.mono ?_
      rintro e v2 ⟨d2, c2, rfl, hs2, hb2⟩
      have hb2w : Below w.heap.size w v2 := HBV.out.trans (hb2.mono HBV.out.size)
      have e1 := hs2.convert (P := Try.prog) 23 5 9 Try.underlying23 Try.underlying5 Try.underlying9
      have e2 := HX.out v2 hb2w
      have haw := awake_ok v2
      have HB2 : Hid (Below w.heap.size w v2) := hb2w
      clear hpt hs2 hb2 hb2w HST1 HLV HBV HSV HX
      go_wp2_with fail
      refine haw.mono ?_
      rintro e v3 ⟨rfl, hb3⟩
      have HE : Hid (Below w.heap.size w v3) := HB2.out.trans (hb3.mono HB2.out.size)
      clear haw hb3 HB2 e1 e2
      go_wp2
      go_ret
      exact ⟨rfl, HE.out⟩
end Go.Proofs.Ytoggjpkbbncbbaa
