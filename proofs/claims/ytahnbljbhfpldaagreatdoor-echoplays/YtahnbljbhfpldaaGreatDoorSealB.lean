/-
  The contracts of seal.sealed and Seal; awake.
  The document's Tag, Seal and Holds.
-/
import Derived.Test.YtahnbljbhfpldaaGreatDoorSealA
namespace Go.Proofs.YtahnbljbhfpldaaGreatDoor
set_option maxRecDepth 20000
set_option maxHeartbeats 1600000
open Go.ChangeShapes Go.WideShapes Go.ChangeAt Go.RowKit
theorem seal_right (key:List UInt8)(F:Fr)(hb:tagB key F=true):rightB (sealF key F)=true:=by
 have h:=((tagB_iff key F).1 hb).2
 unfold rightB
 rw[show coreB (sealF key F)=coreB F from rfl,h]
 simp[sealF,tagL_length]
theorem seal_told {w w':World}{key:List UInt8}{F:Fr}{d:Option Addr}{cd:Nat}{r:List UInt8}(hb:tagB key F=true)(hr:r=putL (sealF key F))(hs:Sees w' d cd r)(hw:Below w.heap.size w w'):
  FTells w w' (.returned (.tuple #[.slice d r.length cd,.int .i64 0])) (sealR key F) (tagE key F):=by
 unfold sealR tagE
 rw[if_pos hb,if_pos hb,<-hr]
 exact⟨d,cd,rfl,hs,hw⟩
theorem seal_none {w w':World}{key:List UInt8}{F:Fr}(hb:tagB key F=false)(hw:Below w.heap.size w w'):FTells w w' (.returned (.tuple #[.slice none 0 0,.int .i64 1])) (sealR key F) (tagE key F):=by
 unfold sealR tagE
 rw[if_neg (by rw[hb];decide),if_neg (by rw[hb];decide)]
 exact⟨none,0,rfl,Sees.nil' _,hw⟩
theorem tag_put {w W:World}{g:Nat}{F:Fr}{A:At}{d:Option Addr}{cd:Nat}{r:List UInt8}(h:FrAt W g F A)(hF:Seen W F A)(hs:Sees W d cd r)(hg:w.heap.size<=g)(hb:Below w.heap.size w W)(hav:∀ x c (l:List UInt8),Sees W x c l->Sees (W.setCell ⟨g,12,none⟩ (.slice d r.length cd)) x c l):
  FrAt (W.setCell ⟨g,12,none⟩ (.slice d r.length cd)) g { F with tag:=r } { A with ta:=d,tc:=cd }/\Seen (W.setCell ⟨g,12,none⟩ (.slice d r.length cd)) { F with tag:=r } { A with ta:=d,tc:=cd } /\
   Below w.heap.size w (W.setCell ⟨g,12,none⟩ (.slice d r.length cd)):=
 ⟨h.put 12 _ rfl,⟨hav _ _ _ hF.key,hav _ _ _ hF.body,hav _ _ _ hs⟩,hb.setCell (p:=⟨g,12,none⟩) hg _⟩
theorem sees_put {W:World}{g:Nat}{F:Fr}{A:At}(h:FrAt W g F A)(i:Nat)(u:Value){x:Option Addr}{c:Nat}{l:List UInt8}(hs:Sees W x c l):Sees (W.setCell ⟨g,i,none⟩ u) x c l:=
 ⟨hs.fits, hs.room, hs.bare, fun hne => by
   obtain ⟨b, off, hx, hc⟩ := hs.at' hne
   refine ⟨b, off, hx, fun j y hy => ?_⟩
   have h1 := hc j y hy
   have hbg : b ≠ g := by
     rintro rfl
     rw [cell_of_row W _ (off + j) _ _ _ h] at h1
     have h2 : (frL F A)[off + j]? = some (cellOf y) := by simpa [frC, cellOf] using h1
     have hm := List.mem_of_getElem? h2
     simp [frL, cellOf] at hm
   rw [World.cell?_setCell_far _ _ _ _ (fun h => hbg h.symm)]
   exact h1⟩
theorem sealed_no (w:World)(F:Fr)(A:At)(k:Option Addr)(ck:Nat)(key:List UInt8)(hT:Tabs w)(hF:Seen w F A)(hk:Sees w k ck key)(hb:tagB key F=false):
  Calls Tryz.prog 89 #[.agg (frC F A),.slice k key.length ck] w λe w'=>∃ s,e=.returned (.tuple #[.slice none 0 0,refV s 1])/\Below w.heap.size w w':=by
 have hb0:Below w.heap.size w (w.alloc (.cells (frC F A) 40)):=Go.Joins.below_alloc1 _ _
 have H0:Hid (Below w.heap.size w (w.alloc (.cells (frC F A) 40))):=hb0
 have HL:Hid ((Instr.loadAt 40 (.pointer (some ⟨w.heap.size,0,none⟩))).run Tryz.prog (w.alloc (.cells (frC F A) 40))=.ok (.agg (frC F A)) (w.alloc (.cells (frC F A) 40))):=(FrAt.new w F A).loads
 have hm:=tagOf_no (w.alloc (.cells (frC F A) 40)) F A k ck key (hT.below hb0) (hF.below hb0) (hk.below hb0) hb
 unfold refV at hm
 clear hb0 hT hF hk hb
 go_enter Tryz.func89,Tryz.ntmps89
 go_upto_region 1 with fail
 generalize w.alloc (Obj.cells (frC F A) 40)=W0 at *
 go_wp2_with (first|(refine wpList_gload_run rfl 40 _ rfl _ _ rfl HL.out ?_)|fail)
 refine hm.mono ?_
 rintro e w1 ⟨s,rfl,hb1⟩
 have H1:Hid (Below w.heap.size w w1):=H0.out.trans (hb1.mono H0.out.size)
 clear hm hb1 H0 HL
 go_wp2
 go_ret2
 exact⟨s,rfl,H1.out⟩
theorem sealed_yes (w:World)(F:Fr)(A:At)(k:Option Addr)(ck:Nat)(key:List UInt8)(hT:Tabs w)(hF:Seen w F A)(hn:F.n<18446744073709551616)(hk:Sees w k ck key)(hb:tagB key F=true):
  Calls Tryz.prog 89 #[.agg (frC F A),.slice k key.length ck] w λe w'=>∃ d cd r,Hid (r=putL (sealF key F))/\e=.returned (.tuple #[.slice d r.length cd,.nilIface])/\Sees w' d cd r/\Below w.heap.size w w':=by
 have hb0:Below w.heap.size w (w.alloc (.cells (frC F A) 40)):=Go.Joins.below_alloc1 _ _
 have H0:Hid (FrAt (w.alloc (.cells (frC F A) 40)) w.heap.size F A/\Seen (w.alloc (.cells (frC F A) 40)) F A/\Below w.heap.size w (w.alloc (.cells (frC F A) 40))):=⟨FrAt.new w F A,hF.below hb0,hb0⟩
 have HL:Hid ((Instr.loadAt 40 (.pointer (some ⟨w.heap.size,0,none⟩))).run Tryz.prog (w.alloc (.cells (frC F A) 40))=.ok (.agg (frC F A)) (w.alloc (.cells (frC F A) 40))):=(FrAt.new w F A).loads
 have h2:=(tagB_iff key F).1 hb
 have hm:=tagOf_yes (w.alloc (.cells (frC F A) 40)) F A k ck key (hT.below hb0) (hF.below hb0) hn (hk.below hb0) h2.1 h2.2
 have HN:Hid (F.n<18446744073709551616/\rightB (sealF key F)=true):=⟨hn,seal_right key F hb⟩
 clear hb0 hT hF hk hn hb h2
 go_enter Tryz.func89,Tryz.ntmps89
 go_upto_region 1 with fail
 generalize w.alloc (Obj.cells (frC F A) 40)=W0 at *
 go_wp2_with (first|(refine wpList_gload_run rfl 40 _ rfl _ _ rfl HL.out ?_)|fail)
 refine hm.mono ?_
 rintro e w1 ⟨d1,c1,r1,hr1,rfl,hl1,hs1,hb1⟩
 have hb1w:Below w.heap.size w w1:=H0.out.2.2.trans (hb1.mono H0.out.2.2.size)
 have h1:=H0.out.1.below hb1
 have c12:=h1.c12
 have z12:=h1.fz 12
 obtain⟨k1,k2,k3⟩:=tag_put (w:=w) h1 (H0.out.2.1.below hb1) hs1 (Nat.le_refl _) hb1w (λ_ _ _ hs=>sees_put h1 12 _ hs)
 rw[hl1] at k1 k2 k3
 obtain⟨V,hV⟩:∃ V,V=w1.setCell ⟨w.heap.size,12,none⟩ (.slice d1 8 c1):=⟨_,rfl⟩
 rw[<-hV] at k1 k2 k3
 have eG:({ F with tag:=r1 }:Fr)=sealF key F:=by unfold sealF;rw[hr1.out]
 rw[eG] at k1 k2
 obtain⟨A2,hA2⟩:∃ A2:At,A2={ A with ta:=d1,tc:=c1 }:=⟨_,rfl⟩
 rw[<-hA2] at k1 k2
 have hp:=put_yes V (sealF key F) A2 k2 HN.out.1 HN.out.2
 obtain⟨G,hG⟩:∃ G,sealF key F=G:=⟨_,rfl⟩
 rw[hG] at hp k1
 have HG:Hid (sealF key F=G):=hG
 have HLV:Hid ((Instr.loadAt 40 (.pointer (some ⟨w.heap.size,0,none⟩))).run Tryz.prog V=.ok (.agg (frC G A2)) V):=k1.loads
 have HV:Hid (V=w1.setCell ⟨w.heap.size,12,none⟩ (.slice d1 8 c1)):=hV
 have HB:Hid (Below w.heap.size w V):=k3
 obtain⟨tn,htn⟩:∃ tn,tn=F.tag.length:=⟨_,rfl⟩
 rw[<-htn] at c12
 clear hm hr1 hl1 hs1 hb1 hb1w h1 H0 HL k1 k2 k3 hV hA2 eG HN htn hG
 go_upto_region 5 with fail
 clear c12 z12
 rw[<-HV.out]
 clear HV
 go_wp2_with (first|(refine wpList_gload_run rfl 40 _ rfl _ _ rfl HLV.out ?_)|fail)
 refine hp.mono ?_
 rintro e w2 ⟨d2,c2,r2,hr2,rfl,hs2,hb2,_⟩
 have H2:Hid (Hid (r2=putL (sealF key F))/\Sees w2 d2 c2 r2/\Below w.heap.size w w2):=⟨by rw[HG.out];exact hr2,hs2,HB.out.trans (hb2.mono HB.out.size)⟩
 clear hp hr2 hs2 hb2 HB HLV
 go_wp2_with fail
 refine(refuse_none _ w2).mono ?_
 rintro e w4 ⟨rfl,rfl⟩
 go_wp2
 go_ret2
 exact⟨d2,c2,r2,H2.out.1,rfl,H2.out.2⟩
theorem seal_any (w:World)(F:Fr)(A:At)(k:Option Addr)(ck:Nat)(key:List UInt8)(hT:Tabs w)(hF:Seen w F A)(hn:F.n<18446744073709551616)(hk:Sees w k ck key):
  Calls Tryz.prog 61 #[.agg (frC F A),.slice k key.length ck] w λe w'=>FTells w w' e (sealR key F) (tagE key F):=by
 have hb0:Below w.heap.size w (w.alloc (.cells (frC F A) 40)):=Go.Joins.below_alloc1 _ _
 have H0:Hid (Below w.heap.size w (w.alloc (.cells (frC F A) 40))):=hb0
 have HL:Hid ((Instr.loadAt 40 (.pointer (some ⟨w.heap.size,0,none⟩))).run Tryz.prog (w.alloc (.cells (frC F A) 40))=.ok (.agg (frC F A)) (w.alloc (.cells (frC F A) 40))):=(FrAt.new w F A).loads
 obtain⟨b,hb⟩:∃ b,tagB key F=b:=⟨_,rfl⟩
 cases b
 ·have hm:=sealed_no (w.alloc (.cells (frC F A) 40)) F A k ck key (hT.below hb0) (hF.below hb0) (hk.below hb0) hb
  have HB:Hid (tagB key F=false):=hb
  clear hb0 hT hF hn hk hb
  go_enter Tryz.func61,Tryz.ntmps61
  go_upto_region 1 with fail
  generalize w.alloc (Obj.cells (frC F A) 40)=W0 at *
  go_wp2_with (first|(refine wpList_gload_run rfl 40 _ rfl _ _ rfl HL.out ?_)|fail)
  refine hm.mono ?_
  rintro e w1 ⟨s,rfl,hb1⟩
  have H1:Hid (Below w.heap.size w w1):=H0.out.trans (hb1.mono H0.out.size)
  have hnu:Calls Tryz.prog 90 #[refV s 1] w1 _:=number_some s 1 (by decide) (by decide) w1
  clear hm hb1 H0 HL
  go_wp2_with fail
  refine hnu.mono ?_
  rintro e w2 ⟨rfl,hb2⟩
  have H2:Hid (Below w.heap.size w w2):=H1.out.trans (hb2.mono H1.out.size)
  clear hnu hb2 H1
  go_wp2
  go_ret2
  exact seal_none HB.out H2.out
 ·have hm:=sealed_yes (w.alloc (.cells (frC F A) 40)) F A k ck key (hT.below hb0) (hF.below hb0) hn (hk.below hb0) hb
  have HB:Hid (tagB key F=true):=hb
  clear hb0 hT hF hn hk hb
  go_enter Tryz.func61,Tryz.ntmps61
  go_upto_region 1 with fail
  generalize w.alloc (Obj.cells (frC F A) 40)=W0 at *
  go_wp2_with (first|(refine wpList_gload_run rfl 40 _ rfl _ _ rfl HL.out ?_)|fail)
  refine hm.mono ?_
  rintro e w1 ⟨d1,c1,r1,hr1,rfl,hs1,hb1⟩
  have H1:Hid (r1=putL (sealF key F)/\Sees w1 d1 c1 r1/\Below w.heap.size w w1):=⟨hr1.out,hs1,H0.out.trans (hb1.mono H0.out.size)⟩
  clear hm hr1 hs1 hb1 H0 HL
  go_wp2_with fail
  refine(number_none w1).mono ?_
  rintro e w2 ⟨rfl,rfl⟩
  go_wp2
  go_ret2
  exact seal_told HB.out H1.out.1 H1.out.2.1 H1.out.2.2
theorem rtag_yes (w:World)(F:Fr)(A:At)(k:Option Addr)(ck:Nat)(key:List UInt8)(hF:Seen w F A)(hn:F.n<18446744073709551616)(hk:Sees w k ck key)(h16:key.length=16)(hc:coreB F=true):
  Calls Tryz.prog 64 #[.agg (frC F A),.slice k key.length ck] w λe w'=>TagIs w w' e key F (.int .i64 0):=by
 have hb0:Below w.heap.size w (w.alloc (.cells (frC F A) 40)):=Go.Joins.below_alloc1 _ _
 have hm:=krmac_yes (w.alloc (.cells (frC F A) 40)) k ck key (hk.below hb0) h16
 have H0:Hid (FrAt (w.alloc (.cells (frC F A) 40)) w.heap.size F A/\Below w.heap.size w (w.alloc (.cells (frC F A) 40))):=⟨FrAt.new w F A,hb0⟩
 have HT:Hid (Seen w F A/\F.n<18446744073709551616/\coreB F=true):=⟨hF,hn,hc⟩
 clear hb0 hF hn hk h16 hc
 go_enter Tryz.func64,Tryz.ntmps64
 go_upto_region 1 with fail
 generalize w.alloc (Obj.cells (frC F A) 40)=W0 at *
 go_wp2_with fail
 refine hm.mono ?_
 rintro e w1 ⟨d1,c1,r1,hr1,rfl,hs1,hb1⟩
 have hb1w:Below w.heap.size w w1:=H0.out.2.trans (hb1.mono H0.out.2.size)
 have hL:=(H0.out.1.below hb1).loads
 have hco:=rcore_any' w1 F A (HT.out.1.below hb1w) HT.out.2.1
 have eR:coreR' F=coreL F:=by unfold coreR';rw[if_pos HT.out.2.2]
 have eE:coreE F=0:=by unfold coreE;rw[if_pos HT.out.2.2]
 rw[eR,eE] at hco
 have HL:Hid ((Instr.loadAt 40 (.pointer (some ⟨w.heap.size,0,none⟩))).run Tryz.prog w1=.ok (.agg (frC F A)) w1):=hL
 have H1:Hid (Below w.heap.size w w1/\Sees w1 d1 c1 r1/\r1=keyOf key macN []):=⟨hb1w,hs1,hr1.out⟩
 have HC:Hid ((coreL F).length<=43):=coreL_len F HT.out.2.1 HT.out.2.2
 have HK:Hid (tagL key F=(hmacL (keyOf key macN []) (coreL F)).take 8):=rfl
 obtain⟨tg,htg⟩:∃ tg,tg=tagL key F:=⟨_,rfl⟩
 generalize coreL F=C at *
 clear hm hr1 hs1 hb1 hb1w hL H0 eR eE
 go_wp2_with (first|(refine wpList_gload_run rfl 40 _ rfl _ _ rfl HL.out ?_)|fail)
 refine hco.mono ?_
 rintro e w2 ⟨d2,c2,rfl,hs2,hb2⟩
 have hb2w:Below w.heap.size w w2:=H1.out.1.trans (hb2.mono H1.out.1.size)
 have hsh:Calls Tryz.prog 96 #[.slice d1 r1.length c1,.slice d2 C.length c2,.int .i64 8] w2 _:=rhshort_ok w2 d1 c1 r1 d2 c2 C 8 (H1.out.2.1.below hb2) hs2 (by rw[H1.out.2.2,keyOf_length];decide) (by have:=HC.out;omega) (by decide) (by decide)
 have H2:Hid (Below w.heap.size w w2/\r1=keyOf key macN []):=⟨hb2w,H1.out.2.2⟩
 clear hco hs2 hb2 hb2w HL H1
 go_wp2_with fail
 refine hsh.mono ?_
 rintro e w3 ⟨d3,c3,r3,hr3,rfl,hl3,hs3,hb3⟩
 have H3:Hid (Hid (r3=tagL key F)/\r3.length=8/\Sees w3 d3 c3 r3/\Below w.heap.size w w3):=⟨by show r3=tagL key F;rw[hr3.out,H2.out.2,HK.out],hl3,hs3,H2.out.1.trans (hb3.mono H2.out.1.size)⟩
 clear hsh hr3 hl3 hs3 hb3 H2
 go_wp2
 go_ret2
 exact⟨d3,c3,r3,H3.out.1,rfl,H3.out.2⟩
theorem rtag_key (w:World)(F:Fr)(A:At)(k:Option Addr)(ck:Nat)(key:List UInt8)(hk:Sees w k ck key)(h16:¬ key.length=16):
  Calls Tryz.prog 64 #[.agg (frC F A),.slice k key.length ck] w λe w'=>e=.returned (.tuple #[.slice none 0 0,.int .i64 1])/\Below w.heap.size w w':=by
 have hb0:Below w.heap.size w (w.alloc (.cells (frC F A) 40)):=Go.Joins.below_alloc1 _ _
 have hm:=krmac_no (w.alloc (.cells (frC F A) 40)) k ck key (hk.below hb0) h16
 have H0:Hid (Below w.heap.size w (w.alloc (.cells (frC F A) 40))):=hb0
 clear hb0 hk h16
 go_enter Tryz.func64,Tryz.ntmps64
 go_upto_region 1 with fail
 generalize w.alloc (Obj.cells (frC F A) 40)=W0 at *
 go_wp2_with fail
 refine hm.mono ?_
 rintro e w1 ⟨d1,c1,rfl,hb1⟩
 have H1:Hid (Below w.heap.size w w1):=H0.out.trans (hb1.mono H0.out.size)
 clear hm hb1 H0
 go_wp2
 go_ret2
 exact⟨rfl,H1.out⟩
theorem rtag_core (w:World)(F:Fr)(A:At)(k:Option Addr)(ck:Nat)(key:List UInt8)(hF:Seen w F A)(hn:F.n<18446744073709551616)(hk:Sees w k ck key)(h16:key.length=16)(hc:coreB F=false):
  Calls Tryz.prog 64 #[.agg (frC F A),.slice k key.length ck] w λe w'=>e=.returned (.tuple #[.slice none 0 0,.int .i64 1])/\Below w.heap.size w w':=by
 have hb0:Below w.heap.size w (w.alloc (.cells (frC F A) 40)):=Go.Joins.below_alloc1 _ _
 have hm:=krmac_yes (w.alloc (.cells (frC F A) 40)) k ck key (hk.below hb0) h16
 have H0:Hid (FrAt (w.alloc (.cells (frC F A) 40)) w.heap.size F A/\Below w.heap.size w (w.alloc (.cells (frC F A) 40))):=⟨FrAt.new w F A,hb0⟩
 have HT:Hid (Seen w F A/\F.n<18446744073709551616/\coreB F=false):=⟨hF,hn,hc⟩
 clear hb0 hF hn hk h16 hc
 go_enter Tryz.func64,Tryz.ntmps64
 go_upto_region 1 with fail
 generalize w.alloc (Obj.cells (frC F A) 40)=W0 at *
 go_wp2_with fail
 refine hm.mono ?_
 rintro e w1 ⟨d1,c1,r1,hr1,rfl,hs1,hb1⟩
 have hb1w:Below w.heap.size w w1:=H0.out.2.trans (hb1.mono H0.out.2.size)
 have hL:=(H0.out.1.below hb1).loads
 have hco:=rcore_any' w1 F A (HT.out.1.below hb1w) HT.out.2.1
 have eR:coreR' F=[]:=by unfold coreR';rw[if_neg (by rw[HT.out.2.2];decide)]
 have eE:coreE F=1:=by unfold coreE;rw[if_neg (by rw[HT.out.2.2];decide)]
 rw[eR,eE] at hco
 have HL:Hid ((Instr.loadAt 40 (.pointer (some ⟨w.heap.size,0,none⟩))).run Tryz.prog w1=.ok (.agg (frC F A)) w1):=hL
 have H1:Hid (Below w.heap.size w w1):=hb1w
 clear hm hr1 hs1 hb1 hb1w hL H0 eR eE
 go_wp2_with (first|(refine wpList_gload_run rfl 40 _ rfl _ _ rfl HL.out ?_)|fail)
 refine hco.mono ?_
 rintro e w2 ⟨d2,c2,rfl,hs2,hb2⟩
 have H2:Hid (Below w.heap.size w w2):=H1.out.trans (hb2.mono H1.out.size)
 clear hco hs2 hb2 HL H1
 go_wp2
 go_ret2
 exact⟨rfl,H2.out⟩
theorem rtag_any (w:World)(F:Fr)(A:At)(k:Option Addr)(ck:Nat)(key:List UInt8)(hF:Seen w F A)(hn:F.n<18446744073709551616)(hk:Sees w k ck key):
  Calls Tryz.prog 64 #[.agg (frC F A),.slice k key.length ck] w λe w'=>FTells w w' e (tagR key F) (tagE key F):=by
 obtain⟨b,hb⟩:∃ b,tagB key F=b:=⟨_,rfl⟩
 by_cases h16:key.length=16
 ·cases hc:coreB F
  ·have hb':tagB key F=false:=by unfold tagB;rw[hc];simp
   refine(rtag_core w F A k ck key hF hn hk h16 hc).mono ?_
   rintro e w' ⟨rfl,hw⟩
   exact tag_none hb' hw
  ·have hb':tagB key F=true:=(tagB_iff key F).2 ⟨h16,hc⟩
   refine(rtag_yes w F A k ck key hF hn hk h16 hc).mono ?_
   rintro e w' ⟨d,cd,r,hr,rfl,_,hs,hw⟩
   exact tag_told hb' hr.out hs hw
 ·have hb':tagB key F=false:=by unfold tagB;simp[h16]
  refine(rtag_key w F A k ck key hk h16).mono ?_
  rintro e w' ⟨rfl,hw⟩
  exact tag_none hb' hw
theorem rholds_any (w:World)(F:Fr)(A:At)(k:Option Addr)(ck:Nat)(key:List UInt8)(hF:Seen w F A)(hn:F.n<18446744073709551616)(hk:Sees w k ck key)(b:Bool)(hb:holdsB key F=b):
  Calls Tryz.prog 42 #[.agg (frC F A),.slice k key.length ck] w λe w'=>e=.returned (.bool b)/\Below w.heap.size w w':=by
 have hb0:Below w.heap.size w (w.alloc (.cells (frC F A) 40)):=Go.Joins.below_alloc1 _ _
 have H0:Hid (FrAt (w.alloc (.cells (frC F A) 40)) w.heap.size F A/\Seen (w.alloc (.cells (frC F A) 40)) F A/\Below w.heap.size w (w.alloc (.cells (frC F A) 40))):=⟨FrAt.new w F A,hF.below hb0,hb0⟩
 have HL:Hid ((Instr.loadAt 40 (.pointer (some ⟨w.heap.size,0,none⟩))).run Tryz.prog (w.alloc (.cells (frC F A) 40))=.ok (.agg (frC F A)) (w.alloc (.cells (frC F A) 40))):=(FrAt.new w F A).loads
 have hm:=rtag_any (w.alloc (.cells (frC F A) 40)) F A k ck key (hF.below hb0) hn (hk.below hb0)
 unfold holdsB at hb
 cases ht:tagB key F
 ·rw[ht] at hb
  obtain rfl:b=false:=by rw[<-hb];rfl
  have eR:tagR key F=[]:=by unfold tagR;rw[if_neg (by rw[ht];decide)]
  have eE:tagE key F=1:=by unfold tagE;rw[if_neg (by rw[ht];decide)]
  rw[eR,eE] at hm
  clear hb0 hF hk hn hb ht eR eE
  go_enter Tryz.func42,Tryz.ntmps42
  go_upto_region 1 with fail
  generalize w.alloc (Obj.cells (frC F A) 40)=W0 at *
  go_wp2_with (first|(refine wpList_gload_run rfl 40 _ rfl _ _ rfl HL.out ?_)|fail)
  refine hm.mono ?_
  rintro e w1 ⟨d1,c1,rfl,hs1,hb1⟩
  have H1:Hid (Below w.heap.size w w1):=H0.out.2.2.trans (hb1.mono H0.out.2.2.size)
  clear hm hb1 H0 HL hs1
  go_wp2
  go_ret
  exact⟨rfl,H1.out⟩
 ·rw[ht] at hb
  have hb2:decide (tagL key F=F.tag)=b:=by simpa using hb
  have eR:tagR key F=tagL key F:=by unfold tagR;rw[if_pos ht]
  have eE:tagE key F=0:=by unfold tagE;rw[if_pos ht]
  rw[eR,eE] at hm
  have HD:Hid (decide (tagL key F=F.tag)=b):=hb2
  generalize tagL key F=T at *
  clear hb0 hF hk hn hb hb2 ht eR eE
  go_enter Tryz.func42,Tryz.ntmps42
  go_upto_region 1 with fail
  generalize w.alloc (Obj.cells (frC F A) 40)=W0 at *
  go_wp2_with (first|(refine wpList_gload_run rfl 40 _ rfl _ _ rfl HL.out ?_)|fail)
  refine hm.mono ?_
  rintro e w1 ⟨d1,c1,rfl,hs1,hb1⟩
  have H1:Hid (Below w.heap.size w w1):=H0.out.2.2.trans (hb1.mono H0.out.2.2.size)
  have c12:=(H0.out.1.below hb1).c12
  have e1:=hs1.convert (P:=Tryz.prog) 24 5 9 Tryz.underlying24 Tryz.underlying5 Tryz.underlying9
  have e2:=((H0.out.2.1.below hb1).tag).convert (P:=Tryz.prog) 24 5 9 Tryz.underlying24 Tryz.underlying5 Tryz.underlying9
  have hq:(T==F.tag)=b:=by
   rw[<-HD.out,Bool.eq_iff_iff]
   simp
  clear hm hb1 H0 HL hs1 HD
  go_wp2
  go_ret
  exact⟨rfl,H1.out⟩
theorem seal_copy (w W:World)(F:Fr)(A:At)(hb:Below w.heap.size w W):
  ∃ V,(Instr.storeAt 40 (.pointer (some ⟨W.heap.size,0,none⟩)) (.agg (frC F A))).run Tryz.prog (W.alloc (.cells (frC Fr.zero At.zero) 40))=.ok () V/\FrAt V W.heap.size F A/\(∀ x c (l:List UInt8),Sees W x c l->Sees V x c l)/\Below w.heap.size w V:=by
 have h1:FrAt (W.alloc (.cells (frC Fr.zero At.zero) 40)) W.heap.size Fr.zero At.zero:=FrAt.new W _ _
 have hbb:Below W.heap.size W ((W.alloc (.cells (frC Fr.zero At.zero) 40)).setRow W.heap.size (frC F A)):=below_setRow (Go.Joins.below_alloc1 _ _) (Nat.le_refl _) _
 exact⟨_,h1.stores F A,h1.stored F A,λ_ _ _ hs=>hs.below hbb,hb.trans (hbb.mono hb.size)⟩
theorem rseal_any (w:World)(F:Fr)(A:At)(k:Option Addr)(ck:Nat)(key:List UInt8)(hF:Seen w F A)(hn:F.n<18446744073709551616)(hk:Sees w k ck key):
  Calls Tryz.prog 37 #[.agg (frC F A),.slice k key.length ck] w λe w'=>FTells w w' e (sealR key F) (tagE key F):=by
 have hb0:Below w.heap.size w (w.alloc (.cells (frC F A) 40)):=Go.Joins.below_alloc1 _ _
 have H0:Hid (FrAt (w.alloc (.cells (frC F A) 40)) w.heap.size F A/\Seen (w.alloc (.cells (frC F A) 40)) F A/\Below w.heap.size w (w.alloc (.cells (frC F A) 40))):=⟨FrAt.new w F A,hF.below hb0,hb0⟩
 have HL:Hid ((Instr.loadAt 40 (.pointer (some ⟨w.heap.size,0,none⟩))).run Tryz.prog (w.alloc (.cells (frC F A) 40))=.ok (.agg (frC F A)) (w.alloc (.cells (frC F A) 40))):=(FrAt.new w F A).loads
 have hm:=rtag_any (w.alloc (.cells (frC F A) 40)) F A k ck key (hF.below hb0) hn (hk.below hb0)
 cases ht:tagB key F
 ·have eR:tagR key F=[]:=by unfold tagR;rw[if_neg (by rw[ht];decide)]
  have eE:tagE key F=1:=by unfold tagE;rw[if_neg (by rw[ht];decide)]
  rw[eR,eE] at hm
  have HB:Hid (tagB key F=false):=ht
  clear hb0 hF hk hn ht eR eE
  go_enter Tryz.func37,Tryz.ntmps37
  go_upto_region 1 with fail
  generalize w.alloc (Obj.cells (frC F A) 40)=W0 at *
  go_wp2_with (first|(refine wpList_gload_run rfl 40 _ rfl _ _ rfl HL.out ?_)|fail)
  refine hm.mono ?_
  rintro e w1 ⟨d1,c1,rfl,hs1,hb1⟩
  have H1:Hid (Below w.heap.size w w1):=H0.out.2.2.trans (hb1.mono H0.out.2.2.size)
  clear hm hb1 H0 HL hs1
  go_wp2
  go_ret2
  exact seal_none HB.out H1.out
 ·have eR:tagR key F=tagL key F:=by unfold tagR;rw[if_pos ht]
  have eE:tagE key F=0:=by unfold tagE;rw[if_pos ht]
  rw[eR,eE] at hm
  have HB:Hid (tagB key F=true):=ht
  have HN:Hid (F.n<18446744073709551616/\rightB (sealF key F)=true/\({ F with tag:=tagL key F }:Fr)=sealF key F):=⟨hn,seal_right key F ht,rfl⟩
  generalize tagL key F=T at *
  clear hb0 hF hk hn ht eR eE
  go_enter Tryz.func37,Tryz.ntmps37
  go_upto_region 1 with fail
  generalize w.alloc (Obj.cells (frC F A) 40)=W0 at *
  go_wp2_with (first|(refine wpList_gload_run rfl 40 _ rfl _ _ rfl HL.out ?_)|fail)
  refine hm.mono ?_
  rintro e w1 ⟨d1,c1,rfl,hs1,hb1⟩
  have hb1w:Below w.heap.size w w1:=H0.out.2.2.trans (hb1.mono H0.out.2.2.size)
  have hf1:=H0.out.1.below hb1
  obtain⟨V0,hst,v1,v2,v3⟩:=seal_copy w w1 F A hb1w
  have c12:=v1.c12
  have z12:=v1.fz 12
  have hsv:=H0.out.2.1.below hb1
  obtain⟨k1,k2,k3⟩:=tag_put (w:=w) v1 ⟨v2 _ _ _ hsv.key,v2 _ _ _ hsv.body,v2 _ _ _ hsv.tag⟩ (v2 _ _ _ hs1) hb1w.size v3 (λ_ _ _ hs=>sees_put v1 12 _ hs)
  rw[HN.out.2.2] at k1 k2
  obtain⟨V,hV⟩:∃ V,V=V0.setCell ⟨w1.heap.size,12,none⟩ (.slice d1 T.length c1):=⟨_,rfl⟩
  rw[<-hV] at k1 k2 k3
  obtain⟨A2,hA2⟩:∃ A2:At,A2={ A with ta:=d1,tc:=c1 }:=⟨_,rfl⟩
  rw[<-hA2] at k1 k2
  have hp:=rput_yes V (sealF key F) A2 k2 HN.out.1 HN.out.2.1
  have HLF:Hid ((Instr.loadAt 40 (.pointer (some ⟨w.heap.size,0,none⟩))).run Tryz.prog w1=.ok (.agg (frC F A)) w1):=hf1.loads
  have HST:Hid ((Instr.storeAt 40 (.pointer (some ⟨w1.heap.size,0,none⟩)) (.agg (frC F A))).run Tryz.prog (w1.alloc (.cells (frC Fr.zero At.zero) 40))=.ok () V0):=hst
  have HLV:Hid ((Instr.loadAt 40 (.pointer (some ⟨w1.heap.size,0,none⟩))).run Tryz.prog V=.ok (.agg (frC (sealF key F) A2)) V):=k1.loads
  have HV:Hid (V=V0.setCell ⟨w1.heap.size,12,none⟩ (.slice d1 T.length c1)):=hV
  have H2:Hid (Below w.heap.size w V):=k3
  have HS:Hid (∀ w' e,(∃ d cd r,Hid (r=putL (sealF key F))/\e=.returned (.tuple #[.slice d r.length cd,.int .i64 0])/\Sees w' d cd r/\Below V.heap.size V w')->FTells w w' e (sealR key F) (tagE key F)):=by
   rintro w' e ⟨d,cd,r,hr,rfl,hs,hw⟩
   exact seal_told HB.out hr.out hs (H2.out.trans (hw.mono H2.out.size))
  obtain⟨tn,htn⟩:∃ tn,tn=F.tag.length:=⟨_,rfl⟩
  rw[<-htn] at c12
  generalize sealF key F=G at *
  clear hm hs1 hb1 hb1w hf1 H0 HL v1 v2 v3 k1 k2 k3 hV hA2 HN htn hst hsv H2 HB
  go_upto_region 6 with (first|(refine wpList_gload_run rfl 40 _ rfl _ _ rfl HLF.out ?_)|(refine wpList_store_run rfl 40 _ _ rfl _ _ rfl rfl HST.out ?_)|fail)
  clear c12 z12 HLF HST
  rw[<-HV.out]
  clear HV
  go_wp2_with (first|(refine wpList_gload_run rfl 40 _ rfl _ _ rfl HLV.out ?_)|fail)
  refine hp.mono ?_
  rintro e w2 ⟨d2,c2,r2,hr2,rfl,hs2,hb2⟩
  have HE:Hid (FTells w w2 (.returned (.tuple #[.slice d2 r2.length c2,.int .i64 0])) (sealR key F) (tagE key F)):=HS.out w2 _ ⟨d2,c2,r2,hr2,rfl,hs2,hb2⟩
  clear hp hr2 hs2 hb2 HS HLV
  go_wp2
  go_ret2
  exact HE.out
end Go.Proofs.YtahnbljbhfpldaaGreatDoor
