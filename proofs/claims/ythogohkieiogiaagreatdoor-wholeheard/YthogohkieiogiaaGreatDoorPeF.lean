/-
  The program's Open.
-/
import Derived.Test.YthogohkieiogiaaGreatDoorPeC
import Derived.Test.YthogohkieiogiaaGreatDoorFrameGetP
namespace Go.Proofs.YthogohkieiogiaaGreatDoor
set_option maxRecDepth 20000
set_option maxHeartbeats 6400000
open Go.ChangeShapes Go.WideShapes Go.ChangeAt Go.RowKit
theorem pfr_laid {W:World}{F:Fr}{A:At}(hs:Seen W F A):∃ W',(Instr.storeAt 41 (.pointer (some ⟨W.heap.size,0,none⟩)) (.agg (frC F A))).run Tryz.prog (W.alloc (.cells (frC Fr.zero At.zero) 41))=.ok () W'/\FrAt W' W.heap.size F A/\Seen W' F A/\Below W.heap.size W W':=by
 have h1:FrAt (W.alloc (.cells (frC Fr.zero At.zero) 41)) W.heap.size Fr.zero At.zero:=FrAt.new W _ _
 have hbb:Below W.heap.size W ((W.alloc (.cells (frC Fr.zero At.zero) 41)).setRow W.heap.size (frC F A)):=below_setRow (Go.Joins.below_alloc1 _ _) (Nat.le_refl _) _
 exact⟨_,h1.stores F A,h1.stored F A,hs.below hbb,hbb⟩
theorem pgetF_n (l:List UInt8):(getF l).n<18446744073709551616:=by
 by_cases h:getE l=0
 ·exact(put_get l h).2.2
 ·rw[getF_bad h];decide
theorem Ec.for_no {s:Ec}{F:Fr}(hr:rightB F=true):(F.k=1\/F.t≠s.i)↔(s.forB F 2=false/\s.forB F 3=false):=by
 have hk:F.k=1\/F.k=2\/F.k=3:=by
  have hc:coreB F=true:=by
   unfold rightB at hr
   rw[Bool.and_eq_true] at hr
   exact hr.1
  unfold coreB at hc
  rw[Bool.and_eq_true] at hc
  have:=hc.2
  split at this
  ·rename_i h;exact .inl h
  ·split at this
   ·rename_i h;exact .inr (.inl h)
   ·split at this
    ·rename_i h;exact .inr (.inr h)
    ·cases this
 unfold Ec.forB
 rw[hr]
 by_cases ht:F.t=s.i
 ·rcases hk with h|h|h<;>simp[h,ht]
 ·simp[ht]
theorem peopen_bytes (w:World)(R:Nat)(s:Ec)(ma:Option Addr)(mc:Nat)(h:PEAt w R s ma mc)(hm:s.ms.length=16)(x:Option Addr)(cx:Nat)(l:List UInt8)(hx:Sees w x cx l)(hl:l.length<=140737488351232)(hE:¬ getE l=0):
  Calls Tryz.prog 10 #[.pointer (some ⟨R,0,none⟩),.slice x l.length cx] w λe w'=>Got w w' e Fr.zero ((getE l:Nat):Int):=by
 have h0:FrAt (w.alloc (.cells (frC Fr.zero At.zero) 41)) w.heap.size Fr.zero At.zero:=FrAt.new w _ _
 have hb0:Below w.heap.size w (w.alloc (.cells (frC Fr.zero At.zero) 41)):=Go.Joins.below_alloc1 _ _
 have KM:=pemade_ok _ R s ma mc (h.below hb0) hm
 have hg:=get_any (w.alloc (.cells (frC Fr.zero At.zero) 41)) x cx l (hx.below hb0) hl
 rw[getF_bad hE] at hg
 obtain⟨E,hEE⟩:∃ E,E=getE l:=⟨_,rfl⟩
 rw[<-hEE] at hg hE ⊢
 have d0:((E:Int) != 0)=true:=by simp;omega
 have H0:Hid (∀ w1,Below (w.alloc (.cells (frC Fr.zero At.zero) 41)).heap.size (w.alloc (.cells (frC Fr.zero At.zero) 41)) w1->FrAt w1 w.heap.size Fr.zero At.zero/\Below w.heap.size w w1):=λw1 hb1=>⟨h0.below hb1,hb0.trans (hb1.mono hb0.size)⟩
 clear hEE h0 hb0 hx hE h hm
 go_enter Tryz.func10,Tryz.ntmps10
 go_wp2_with fail
 refine KM.mono ?_
 rintro e w1 ⟨rfl,hw1⟩
 rw[hw1]
 clear hw1 w1 KM
 go_wp2_with fail
 refine hg.mono ?_
 rintro e w1 ⟨A1,rfl,hs1,hb1⟩
 obtain⟨h1,hb⟩:=H0.out w1 hb1
 obtain⟨W1,hst1,f1,s1,b1⟩:=pfr_laid hs1
 have HST1:Hid ((Instr.storeAt 41 (.pointer (some ⟨w1.heap.size,0,none⟩)) (.agg (frC Fr.zero A1))).run Tryz.prog (w1.alloc (.cells (frC Fr.zero At.zero) 41))=.ok () W1):=hst1
 obtain⟨W,hst,hW,hs,hbW⟩:=got_stored (w:=w) (h1.below b1) (hb.trans (b1.mono hb.size)) Fr.zero At.zero (Seen.zero _)
 have HB:Hid ((Instr.build 41 #[]).run Tryz.prog W1=.ok (.agg (frC Fr.zero At.zero)) W1):=build_zero _
 have HST:Hid ((Instr.storeAt 41 (.pointer (some ⟨w.heap.size,0,none⟩)) (.agg (frC Fr.zero At.zero))).run Tryz.prog W1=.ok () W):=hst
 have HE:Hid (FrAt W w.heap.size Fr.zero At.zero/\Seen W Fr.zero At.zero/\Below w.heap.size w W):=⟨hW,hs,hbW⟩
 clear hg hb1 H0 h1 hb hst hW hs hbW hst1 f1 s1 b1 hs1
 go_wp2_with (first|(refine wpList_build_run rfl 41 _ rfl [] _ rfl HB.out ?_)|(refine wpList_store_run rfl 41 _ _ rfl _ _ rfl rfl HST1.out ?_)|(refine wpList_store_run rfl 41 _ _ rfl _ _ rfl rfl HST.out ?_)|fail)
 refine bodyPost_ret (res_fr_tmp rfl rfl HE.out.1) rfl ?_
 exact⟨At.zero,rfl,HE.out.2⟩
theorem peopen_good (w:World)(R:Nat)(s:Ec)(ma:Option Addr)(mc:Nat)(h:PEAll w R s ma mc)(hm:s.ms.length=16)(hT:Tabs w)(x:Option Addr)(cx:Nat)(l:List UInt8)(hx:Sees w x cx l)(hl:l.length<=140737488351232)(hE:getE l=0)(F:Fr)(hF:getF l=F)(G:Fr)(n:Int)(hG:G=if s.forB F 2=false/\s.forB F 3=false then Fr.zero else if holdsB (pairK s.ms s.i F.f) F=false then Fr.zero else F)(hN:n=if s.forB F 2=false/\s.forB F 3=false then 1 else if holdsB (pairK s.ms s.i F.f) F=false then 13 else 0):
  Calls Tryz.prog 10 #[.pointer (some ⟨R,0,none⟩),.slice x l.length cx] w λe w'=>Got w w' e G n:=by
 have h0:FrAt (w.alloc (.cells (frC Fr.zero At.zero) 41)) w.heap.size Fr.zero At.zero:=FrAt.new w _ _
 have hb0:Below w.heap.size w (w.alloc (.cells (frC Fr.zero At.zero) 41)):=Go.Joins.below_alloc1 _ _
 have KM:=pemade_ok _ R s ma mc (h.at'.below hb0) hm
 have hg:=get_any (w.alloc (.cells (frC Fr.zero At.zero) 41)) x cx l (hx.below hb0) hl
 have hn:=pgetF_n l
 rw[hE,hF] at hg
 rw[hF] at hn
 have HD:Hid (PEAll w R s ma mc/\F.n<18446744073709551616/\Tabs w):=⟨h,hn,hT⟩
 have H0:Hid (∀ w1,Below (w.alloc (.cells (frC Fr.zero At.zero) 41)).heap.size (w.alloc (.cells (frC Fr.zero At.zero) 41)) w1->FrAt w1 w.heap.size Fr.zero At.zero/\Below w.heap.size w w1):=λw1 hb1=>⟨h0.below hb1,hb0.trans (hb1.mono hb0.size)⟩
 have HGN:Hid ((G=if s.forB F 2=false/\s.forB F 3=false then Fr.zero else if holdsB (pairK s.ms s.i F.f) F=false then Fr.zero else F)/\n=if s.forB F 2=false/\s.forB F 3=false then 1 else if holdsB (pairK s.ms s.i F.f) F=false then 13 else 0):=⟨hG,hN⟩
 clear h0 hb0 hx hE h hn hF hG hN hT hm
 go_enter Tryz.func10,Tryz.ntmps10
 go_wp2_with fail
 refine KM.mono ?_
 rintro e w1 ⟨rfl,hw1⟩
 rw[hw1]
 clear hw1 w1 KM
 go_wp2_with fail
 refine hg.mono ?_
 rintro e w1 ⟨A1,rfl,hs1,hb1⟩
 obtain⟨h1,hb⟩:=H0.out w1 hb1
 obtain⟨W1,hst1,f1,s1,b1⟩:=pfr_laid hs1
 have hb1w:Below w.heap.size w W1:=hb.trans (b1.mono hb.size)
 have HST1:Hid ((Instr.storeAt 41 (.pointer (some ⟨w1.heap.size,0,none⟩)) (.agg (frC F A1))).run Tryz.prog (w1.alloc (.cells (frC Fr.zero At.zero) 41))=.ok () W1):=hst1
 have H1:Hid (FrAt W1 w.heap.size Fr.zero At.zero/\FrAt W1 w1.heap.size F A1/\Seen W1 F A1/\Below w.heap.size w W1):=⟨h1.below b1,f1,s1,hb1w⟩
 have HL0:Hid ((Instr.loadAt 41 (.pointer (some ⟨w1.heap.size,0,none⟩))).run Tryz.prog W1=.ok (.agg (frC F A1)) W1):=f1.loads
 have KF:=pefor_ok W1 R s ma mc (HD.out.1.at'.below hb1w) F A1 s1 2
 clear hg hb1 H0 h1 hb hst1 f1 s1 b1 hs1 hb1w
 go_upto_region 6 with (first|(refine wpList_store_run rfl 41 _ _ rfl _ _ rfl rfl HST1.out ?_)|fail)
 by_cases h2:s.forB F 2=true
 ·have HG0:Hid ((G=if holdsB (pairK s.ms s.i F.f) F=false then Fr.zero else F)/\n=if holdsB (pairK s.ms s.i F.f) F=false then 13 else 0):=⟨HGN.out.1.trans (if_neg (by simp[h2])),HGN.out.2.trans (if_neg (by simp[h2]))⟩
  rw[h2] at KF
  clear h2
  go_wp2_with (first|(refine wpList_gload_run rfl 41 _ rfl _ _ rfl HL0.out ?_)|fail)
  refine KF.mono ?_
  rintro e V ⟨rfl,hbV⟩
  clear KF
  obtain⟨KK,hKK⟩:∃ KK,KK=pairK s.ms s.i F.f:=⟨_,rfl⟩
  have HG1:Hid ((G=if holdsB KK F=false then Fr.zero else F)/\n=if holdsB KK F=false then 13 else 0):=by rw[hKK];exact HG0.out
  have hbw:Below w.heap.size w V:=H1.out.2.2.2.trans (hbV.mono H1.out.2.2.2.size)
  have HQ:Hid (∀ U,Below V.heap.size V U->((Instr.loadAt 41 (.pointer (some ⟨w1.heap.size,0,none⟩))).run Tryz.prog U=.ok (.agg (frC F A1)) U/\U.cell? ⟨w1.heap.size,1,none⟩=some (.int .i64 F.f))):=λU hU=>⟨((H1.out.2.1.below hbV).below hU).loads,((H1.out.2.1.below hbV).below hU).c1⟩
  have KP:Calls Tryz.prog 31 #[.pointer (some ⟨R,0,none⟩),.int .i64 F.f] V.drew λe w'=>∃ d cd,e=.returned (.slice d KK.length cd)/\Sees w' d cd KK/\Below V.heap.size V w':=by
   have hd:Below V.heap.size V V.drew:=(Below.refl _ _).drew
   rw[hKK]
   refine(pepair_ok V.drew R s ma mc ((HD.out.1.below hbw).below hd) ((HD.out.2.2.below hbw).below hd) F.f).mono ?_
   rintro e w' ⟨d,cd,rfl,hs,hb⟩
   exact⟨d,cd,rfl,hs,hd.trans hb⟩
  have HBV:Hid (Below W1.heap.size W1 V/\Below w.heap.size w V):=⟨hbV,hbw⟩
  have hS0:=HQ.out V.drew (Below.refl _ _).drew
  obtain⟨b,hb⟩:∃ b,b=holdsB KK F:=⟨_,rfl⟩
  have HG2:Hid ((G=if b=false then Fr.zero else F)/\n=if b=false then 13 else 0):=by rw[hb];exact HG1.out
  have HB0:Hid (holdsB KK F=b):=hb.symm
  clear hKK hbw hbV hb
  go_upto_region 8 with fail
  refine wp_region_noPanic ?_
  refine wp_region_held (S:=λU=>(Instr.loadAt 41 (.pointer (some ⟨w1.heap.size,0,none⟩))).run Tryz.prog U=.ok (.agg (frC F A1)) U/\U.cell? ⟨w1.heap.size,1,none⟩=some (.int .i64 F.f)) (by kernel_rfl) ?_
  have hS:=hS0
  refine tk 0 (v:=Value.agg (frC F A1)) (hv:=λW hW=>exec_load 41 (.tmp 6) rfl _ _ rfl hW.1) hS ?_
  refine tk 1 hS ?_
  refine tk 2 hS ?_
  refine tk 3 hS ?_
  refine any_one 4 rfl (by kernel_rfl) (by rfl) (λK hK=>?_)
  clear hS
  go_simp
  refine KP.mono ?_
  rintro ev w3 ⟨d3,c3,rfl,hs3,hb3⟩
  have HQ3:=HQ.out w3 hb3
  have hw3:Below W1.heap.size W1 w3:=HBV.out.1.trans (hb3.mono HBV.out.1.size)
  have hT3:Tabs w3:=(HD.out.2.2.below HBV.out.2).below hb3
  have KH:=holds_any w3 F A1 d3 c3 KK hT3 (H1.out.2.2.1.below hw3) HD.out.2.1 hs3 b HB0.out
  clear hs3 hb3 KP hT3
  refine hK.out _ _ (HQ3) (λhS=>?_)
  clear hK
  (try simp only[Act.put,sT])
  refine any_one 5 rfl (by kernel_rfl) (by rfl) (λK hK=>?_)
  clear hS
  go_simp
  refine KH.mono ?_
  rintro ev w4 ⟨rfl,hb4⟩
  have hb2:Below W1.heap.size W1 w4:=hw3.trans (hb4.mono hw3.size)
  have HQ4:(Instr.loadAt 41 (.pointer (some ⟨w1.heap.size,0,none⟩))).run Tryz.prog w4=.ok (.agg (frC F A1)) w4/\w4.cell? ⟨w1.heap.size,1,none⟩=some (.int .i64 F.f):=⟨(H1.out.2.1.below hb2).loads,(H1.out.2.1.below hb2).c1⟩
  clear KH hb4 hw3
  refine hK.out _ _ (HQ4) (λhS=>?_)
  clear hK
  (try simp only[Act.put,sT])
  refine tk 6 hS ?_
  refine tk 7 hS ?_
  refine wpAnyH_done (by kernel_rfl) ?_ _
  refine NoPanic.normal ?_
  clear hS hS0 HQ HQ3 HQ4
  cases b
  ·have HG:Hid (G=Fr.zero/\n=13):=⟨HG2.out.1.trans (if_pos rfl),HG2.out.2.trans (if_pos rfl)⟩
   obtain⟨W,hst,hW,hs,hbW⟩:=got_stored (w:=w) (H1.out.1.below hb2) (H1.out.2.2.2.trans ((hb2).mono H1.out.2.2.2.size)) Fr.zero At.zero (Seen.zero _)
   have HB:Hid ((Instr.build 41 #[]).run Tryz.prog w4=.ok (.agg (frC Fr.zero At.zero)) w4):=build_zero _
   have HST:Hid ((Instr.storeAt 41 (.pointer (some ⟨w.heap.size,0,none⟩)) (.agg (frC Fr.zero At.zero))).run Tryz.prog w4=.ok () W):=hst
   have HE:Hid (FrAt W w.heap.size Fr.zero At.zero/\Seen W Fr.zero At.zero/\Below w.heap.size w W):=⟨hW,hs,hbW⟩
   clear hst hW hs hbW hb2
   go_wp2_with (first|(refine wpList_build_run rfl 41 _ rfl [] _ rfl HB.out ?_)|(refine wpList_store_run rfl 41 _ _ rfl _ _ rfl rfl HST.out ?_)|fail)
   refine bodyPost_ret (res_fr_tmp rfl rfl HE.out.1) rfl ?_
   rw[HG.out.1,HG.out.2]
   exact⟨At.zero,rfl,HE.out.2⟩
  ·have HG:Hid (G=F/\n=0):=⟨HG2.out.1.trans (if_neg (by simp)),HG2.out.2.trans (if_neg (by simp))⟩
   obtain⟨W,hst,hW,hs,hbW⟩:=got_stored (w:=w) (H1.out.1.below hb2) (H1.out.2.2.2.trans (hb2.mono H1.out.2.2.2.size)) F A1 (H1.out.2.2.1.below hb2)
   have HL2:Hid ((Instr.loadAt 41 (.pointer (some ⟨w1.heap.size,0,none⟩))).run Tryz.prog w4=.ok (.agg (frC F A1)) w4):=(H1.out.2.1.below hb2).loads
   have HST:Hid ((Instr.storeAt 41 (.pointer (some ⟨w.heap.size,0,none⟩)) (.agg (frC F A1))).run Tryz.prog w4=.ok () W):=hst
   have HE:Hid (FrAt W w.heap.size F A1/\Seen W F A1/\Below w.heap.size w W):=⟨hW,hs,hbW⟩
   clear hst hW hs hbW hb2
   go_wp2_with (first|(refine wpList_gload_run rfl 41 _ rfl _ _ rfl HL2.out ?_)|(refine wpList_store_run rfl 41 _ _ rfl _ _ rfl rfl HST.out ?_)|fail)
   refine bodyPost_ret (res_fr_tmp rfl rfl HE.out.1) rfl ?_
   rw[HG.out.1,HG.out.2]
   exact⟨A1,rfl,HE.out.2⟩
 ·have h2f:s.forB F 2=false:=Bool.eq_false_iff.2 h2
  rw[h2f] at KF
  go_wp2_with (first|(refine wpList_gload_run rfl 41 _ rfl _ _ rfl HL0.out ?_)|fail)
  refine KF.mono ?_
  rintro e V0 ⟨rfl,hbV0⟩
  clear KF
  have HBV0:Hid (Below W1.heap.size W1 V0):=hbV0
  have HL3:Hid ((Instr.loadAt 41 (.pointer (some ⟨w1.heap.size,0,none⟩))).run Tryz.prog V0=.ok (.agg (frC F A1)) V0):=(H1.out.2.1.below hbV0).loads
  have KF3:=pefor_ok V0 R s ma mc ((HD.out.1.at'.below H1.out.2.2.2).below (hbV0.mono (Nat.le_refl _))) F A1 (H1.out.2.2.1.below hbV0) 3
  clear hbV0
  by_cases h3:s.forB F 3=true
  ·have HG0:Hid ((G=if holdsB (pairK s.ms s.i F.f) F=false then Fr.zero else F)/\n=if holdsB (pairK s.ms s.i F.f) F=false then 13 else 0):=⟨HGN.out.1.trans (if_neg (by simp[h3])),HGN.out.2.trans (if_neg (by simp[h3]))⟩
   rw[h3] at KF3
   clear h3 h2 h2f
   go_wp2_with (first|(refine wpList_gload_run rfl 41 _ rfl _ _ rfl HL3.out ?_)|fail)
   refine KF3.mono ?_
   rintro e V ⟨rfl,hbV1⟩
   have hbV:Below W1.heap.size W1 V:=HBV0.out.trans (hbV1.mono HBV0.out.size)
   clear KF3 hbV1
   obtain⟨KK,hKK⟩:∃ KK,KK=pairK s.ms s.i F.f:=⟨_,rfl⟩
   have HG1:Hid ((G=if holdsB KK F=false then Fr.zero else F)/\n=if holdsB KK F=false then 13 else 0):=by rw[hKK];exact HG0.out
   have hbw:Below w.heap.size w V:=H1.out.2.2.2.trans (hbV.mono H1.out.2.2.2.size)
   have HQ:Hid (∀ U,Below V.heap.size V U->((Instr.loadAt 41 (.pointer (some ⟨w1.heap.size,0,none⟩))).run Tryz.prog U=.ok (.agg (frC F A1)) U/\U.cell? ⟨w1.heap.size,1,none⟩=some (.int .i64 F.f))):=λU hU=>⟨((H1.out.2.1.below hbV).below hU).loads,((H1.out.2.1.below hbV).below hU).c1⟩
   have KP:Calls Tryz.prog 31 #[.pointer (some ⟨R,0,none⟩),.int .i64 F.f] V.drew λe w'=>∃ d cd,e=.returned (.slice d KK.length cd)/\Sees w' d cd KK/\Below V.heap.size V w':=by
    have hd:Below V.heap.size V V.drew:=(Below.refl _ _).drew
    rw[hKK]
    refine(pepair_ok V.drew R s ma mc ((HD.out.1.below hbw).below hd) ((HD.out.2.2.below hbw).below hd) F.f).mono ?_
    rintro e w' ⟨d,cd,rfl,hs,hb⟩
    exact⟨d,cd,rfl,hs,hd.trans hb⟩
   have HBV:Hid (Below W1.heap.size W1 V/\Below w.heap.size w V):=⟨hbV,hbw⟩
   have hS0:=HQ.out V.drew (Below.refl _ _).drew
   obtain⟨b,hb⟩:∃ b,b=holdsB KK F:=⟨_,rfl⟩
   have HG2:Hid ((G=if b=false then Fr.zero else F)/\n=if b=false then 13 else 0):=by rw[hb];exact HG1.out
   have HB0:Hid (holdsB KK F=b):=hb.symm
   clear hKK hbw hbV hb
   go_upto_region 8 with fail
   refine wp_region_noPanic ?_
   refine wp_region_held (S:=λU=>(Instr.loadAt 41 (.pointer (some ⟨w1.heap.size,0,none⟩))).run Tryz.prog U=.ok (.agg (frC F A1)) U/\U.cell? ⟨w1.heap.size,1,none⟩=some (.int .i64 F.f)) (by kernel_rfl) ?_
   have hS:=hS0
   refine tk 0 (v:=Value.agg (frC F A1)) (hv:=λW hW=>exec_load 41 (.tmp 6) rfl _ _ rfl hW.1) hS ?_
   refine tk 1 hS ?_
   refine tk 2 hS ?_
   refine tk 3 hS ?_
   refine any_one 4 rfl (by kernel_rfl) (by rfl) (λK hK=>?_)
   clear hS
   go_simp
   refine KP.mono ?_
   rintro ev w3 ⟨d3,c3,rfl,hs3,hb3⟩
   have HQ3:=HQ.out w3 hb3
   have hw3:Below W1.heap.size W1 w3:=HBV.out.1.trans (hb3.mono HBV.out.1.size)
   have hT3:Tabs w3:=(HD.out.2.2.below HBV.out.2).below hb3
   have KH:=holds_any w3 F A1 d3 c3 KK hT3 (H1.out.2.2.1.below hw3) HD.out.2.1 hs3 b HB0.out
   clear hs3 hb3 KP hT3
   refine hK.out _ _ (HQ3) (λhS=>?_)
   clear hK
   (try simp only[Act.put,sT])
   refine any_one 5 rfl (by kernel_rfl) (by rfl) (λK hK=>?_)
   clear hS
   go_simp
   refine KH.mono ?_
   rintro ev w4 ⟨rfl,hb4⟩
   have hb2:Below W1.heap.size W1 w4:=hw3.trans (hb4.mono hw3.size)
   have HQ4:(Instr.loadAt 41 (.pointer (some ⟨w1.heap.size,0,none⟩))).run Tryz.prog w4=.ok (.agg (frC F A1)) w4/\w4.cell? ⟨w1.heap.size,1,none⟩=some (.int .i64 F.f):=⟨(H1.out.2.1.below hb2).loads,(H1.out.2.1.below hb2).c1⟩
   clear KH hb4 hw3
   refine hK.out _ _ (HQ4) (λhS=>?_)
   clear hK
   (try simp only[Act.put,sT])
   refine tk 6 hS ?_
   refine tk 7 hS ?_
   refine wpAnyH_done (by kernel_rfl) ?_ _
   refine NoPanic.normal ?_
   clear hS hS0 HQ HQ3 HQ4
   cases b
   ·have HG:Hid (G=Fr.zero/\n=13):=⟨HG2.out.1.trans (if_pos rfl),HG2.out.2.trans (if_pos rfl)⟩
    obtain⟨W,hst,hW,hs,hbW⟩:=got_stored (w:=w) (H1.out.1.below hb2) (H1.out.2.2.2.trans ((hb2).mono H1.out.2.2.2.size)) Fr.zero At.zero (Seen.zero _)
    have HB:Hid ((Instr.build 41 #[]).run Tryz.prog w4=.ok (.agg (frC Fr.zero At.zero)) w4):=build_zero _
    have HST:Hid ((Instr.storeAt 41 (.pointer (some ⟨w.heap.size,0,none⟩)) (.agg (frC Fr.zero At.zero))).run Tryz.prog w4=.ok () W):=hst
    have HE:Hid (FrAt W w.heap.size Fr.zero At.zero/\Seen W Fr.zero At.zero/\Below w.heap.size w W):=⟨hW,hs,hbW⟩
    clear hst hW hs hbW hb2
    go_wp2_with (first|(refine wpList_build_run rfl 41 _ rfl [] _ rfl HB.out ?_)|(refine wpList_store_run rfl 41 _ _ rfl _ _ rfl rfl HST.out ?_)|fail)
    refine bodyPost_ret (res_fr_tmp rfl rfl HE.out.1) rfl ?_
    rw[HG.out.1,HG.out.2]
    exact⟨At.zero,rfl,HE.out.2⟩
   ·have HG:Hid (G=F/\n=0):=⟨HG2.out.1.trans (if_neg (by simp)),HG2.out.2.trans (if_neg (by simp))⟩
    obtain⟨W,hst,hW,hs,hbW⟩:=got_stored (w:=w) (H1.out.1.below hb2) (H1.out.2.2.2.trans (hb2.mono H1.out.2.2.2.size)) F A1 (H1.out.2.2.1.below hb2)
    have HL2:Hid ((Instr.loadAt 41 (.pointer (some ⟨w1.heap.size,0,none⟩))).run Tryz.prog w4=.ok (.agg (frC F A1)) w4):=(H1.out.2.1.below hb2).loads
    have HST:Hid ((Instr.storeAt 41 (.pointer (some ⟨w.heap.size,0,none⟩)) (.agg (frC F A1))).run Tryz.prog w4=.ok () W):=hst
    have HE:Hid (FrAt W w.heap.size F A1/\Seen W F A1/\Below w.heap.size w W):=⟨hW,hs,hbW⟩
    clear hst hW hs hbW hb2
    go_wp2_with (first|(refine wpList_gload_run rfl 41 _ rfl _ _ rfl HL2.out ?_)|(refine wpList_store_run rfl 41 _ _ rfl _ _ rfl rfl HST.out ?_)|fail)
    refine bodyPost_ret (res_fr_tmp rfl rfl HE.out.1) rfl ?_
    rw[HG.out.1,HG.out.2]
    exact⟨A1,rfl,HE.out.2⟩
  ·have h3f:s.forB F 3=false:=Bool.eq_false_iff.2 h3
   have HG:Hid (G=Fr.zero/\n=1):=⟨HGN.out.1.trans (if_pos ⟨h2f,h3f⟩),HGN.out.2.trans (if_pos ⟨h2f,h3f⟩)⟩
   rw[h3f] at KF3
   clear h3 h2 h2f h3f
   go_wp2_with (first|(refine wpList_gload_run rfl 41 _ rfl _ _ rfl HL3.out ?_)|fail)
   refine KF3.mono ?_
   rintro e V ⟨rfl,hbV1⟩
   have hbV:Below W1.heap.size W1 V:=HBV0.out.trans (hbV1.mono HBV0.out.size)
   clear KF3 hbV1
   obtain⟨W,hst,hW,hs,hbW⟩:=got_stored (w:=w) (H1.out.1.below hbV) (H1.out.2.2.2.trans (hbV.mono H1.out.2.2.2.size)) Fr.zero At.zero (Seen.zero _)
   have HB:Hid ((Instr.build 41 #[]).run Tryz.prog V=.ok (.agg (frC Fr.zero At.zero)) V):=build_zero _
   have HST:Hid ((Instr.storeAt 41 (.pointer (some ⟨w.heap.size,0,none⟩)) (.agg (frC Fr.zero At.zero))).run Tryz.prog V=.ok () W):=hst
   have HE:Hid (FrAt W w.heap.size Fr.zero At.zero/\Seen W Fr.zero At.zero/\Below w.heap.size w W):=⟨hW,hs,hbW⟩
   clear hst hW hs hbW hbV
   go_wp2_with (first|(refine wpList_build_run rfl 41 _ rfl [] _ rfl HB.out ?_)|(refine wpList_store_run rfl 41 _ _ rfl _ _ rfl rfl HST.out ?_)|fail)
   refine bodyPost_ret (res_fr_tmp rfl rfl HE.out.1) rfl ?_
   rw[HG.out.1,HG.out.2]
   exact⟨At.zero,rfl,HE.out.2⟩
theorem peopen_any (w:World)(R:Nat)(s:Ec)(ma:Option Addr)(mc:Nat)(h:PEAll w R s ma mc)(hm:s.ms.length=16)(hT:Tabs w)(x:Option Addr)(cx:Nat)(l:List UInt8)(hx:Sees w x cx l)(hl:l.length<=140737488351232):
  Calls Tryz.prog 10 #[.pointer (some ⟨R,0,none⟩),.slice x l.length cx] w λe w'=>Got w w' e (s.opF l) (s.opE l):=by
 by_cases hE:getE l=0
 ·have hiff:=Ec.for_no (s:=s) (put_get l hE).1
  have e1:s.opE l=if s.forB (getF l) 2=false/\s.forB (getF l) 3=false then 1 else if holdsB (pairK s.ms s.i (getF l).f) (getF l)=false then 13 else 0:=by
   unfold Ec.opE
   rw[if_neg (by simp[hE]),pairK_comm s.ms (getF l).f s.i]
   by_cases hc:(getF l).k=1\/(getF l).t≠s.i
   ·rw[if_pos hc,if_pos (hiff.1 hc)]
   ·rw[if_neg hc,if_neg (λhh=>hc (hiff.2 hh))]
  have e2:s.opF l=if s.forB (getF l) 2=false/\s.forB (getF l) 3=false then Fr.zero else if holdsB (pairK s.ms s.i (getF l).f) (getF l)=false then Fr.zero else getF l:=by
   unfold Ec.opF
   rw[e1]
   split
   ·rw[if_neg (by decide)]
   ·split
    ·rw[if_neg (by decide)]
    ·rw[if_pos rfl]
  exact peopen_good w R s ma mc h hm hT x cx l hx hl hE _ rfl _ _ e2 e1
 ·have e1:s.opE l=((getE l:Nat):Int):=if_pos hE
  have e2:s.opF l=Fr.zero:=by unfold Ec.opF;rw[e1,if_neg (by omega)]
  rw[e1,e2]
  exact peopen_bytes w R s ma mc h.at' hm x cx l hx hl hE
end Go.Proofs.YthogohkieiogiaaGreatDoor
