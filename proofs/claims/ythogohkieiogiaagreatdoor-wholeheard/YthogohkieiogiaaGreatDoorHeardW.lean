/-
  The walk of WholeHeard.
-/
import Derived.Test.YthogohkieiogiaaGreatDoorHearB
namespace Go.Proofs.YthogohkieiogiaaGreatDoor
set_option maxRecDepth 20000
set_option maxHeartbeats 12800000
open Go.ChangeShapes Go.WideShapes Go.ChangeAt Go.RowKit
theorem ebounds_u8 {x:Int}(h:(Lit.int .u8 x).wf=true):0<=x/\x<256:=by
 simp[Lit.wf,IntKind.min,IntKind.max,IntKind.signed,IntKind.bits] at h;omega
theorem allP_no {own:List UInt8}(h:¬ own.length=16):allP own 16=([],1):=by
 unfold allP
 exact if_neg (λhh=>h hh.1)
theorem dF_buildH (w:World)(me ep r:Int)(k0 body:List UInt8)(hk:k0.length=16)(x:Option Addr)(cx:Nat)(y:Option Addr)(cy n:Nat)(hn:n=body.length):(Instr.build 41 #[(0,.int .i64 1),(1,.int .i64 me),(3,.int .i64 ep),(5,.int .i64 r),(10,.slice x 16 cx),(11,.slice y n cy)]).run Tryz.prog w=.ok (.agg (frC (dF me ep r k0 body) ⟨x,cx,y,cy,none,0⟩)) w:=by
 have e:frC (dF me ep r k0 body) ⟨x,cx,y,cy,none,0⟩=#[.int .i64 1,.int .i64 me,.int .i64 0,.int .i64 ep,.int .i64 0,.int .i64 r,.int .u64 0,.int .i64 0,.int .i64 0,.int .i64 0,.slice x 16 cx,.slice y n cy,.slice none 0 0]:=by
  simp[frC,frL,dF,hk,hn]
 rw[e]
 exact run_build w 41 _ _ (by kernel_rfl)
theorem heard_walk (a:Option Addr)(ca:Nat)(own:List UInt8)(a1:Option Addr)(c1:Nat)(body:List UInt8)(rd bt:Int)(tn:Bool)(w:World)(hTab:TTab w)(ha:Sees w a ca own)(_:ca<=140737488351232)(h1:Sees w a1 c1 body)(_:c1<=140737488351232)(wr:(Lit.int .u8 rd).wf=true)(wb:(Lit.int .u8 bt).wf=true):
  Calls Tryz.prog 3 #[.slice a own.length ca,.slice a1 body.length c1,.int .u8 rd,.int .u8 bt,.bool tn] w λe w'=>e=.returned (.bool true)/\Below w.heap.size w w':=by
 have br:=ebounds_u8 wr
 have bb:=ebounds_u8 wb
 clear wr wb
 obtain⟨Cfg,hCfg⟩:∃ Cfg,Cfg=cfC usE:=⟨_,rfl⟩
 have KU:=usual_ok w
 rw[<-hCfg] at KU
 have H00:Hid (Tabs w/\Sees w a ca own/\Cfg=cfC usE/\Sees w a1 c1 body/\TTab w/\3<=w.heap.size):=⟨hTab.2,ha,hCfg,h1,hTab,hTab.2.2.two⟩
 have HAW:Hid (∀ V,Below w.heap.size w V->Calls Tryz.prog 8 #[] V λe w'=>e=.returned (.bool true)/\Below w.heap.size w w'):=λV hV=>by
  refine(heard_ok V (H00.out.1.below hV) (Nat.le_trans H00.out.2.2.2.2.2 hV.size)).mono ?_
  rintro e w' ⟨rfl,hb⟩
  exact⟨rfl,hV.trans (hb.mono hV.size)⟩
 obtain⟨bl,hbl⟩:∃ bl,bl=body.length:=⟨_,rfl⟩
 have HBL:Hid (bl=body.length/\0<=rd/\rd<256/\0<=bt/\bt<256):=⟨hbl,by omega,by omega,by omega,by omega⟩
 rw[<-hbl]
 clear ha hTab hCfg h1 hbl br bb
 by_cases h16:own.length=16
 rotate_left
 ·obtain⟨m,hm⟩:∃ m,m=own.length:=⟨_,rfl⟩
  have HM:Hid (m=own.length/\¬ own.length=16):=⟨hm,h16⟩
  rw[<-hm]
  clear h16 hm
  go_enter Tryz.func3,Tryz.ntmps3
  go_wp2_with fail
  refine KU.mono ?_
  rintro e w1 ⟨rfl,hb1⟩
  obtain⟨W1,hst1,hc1,hb11⟩:=cf_laid w1 usE
  rw[<-H00.out.2.2.1] at hst1
  have HST1:Hid ((Instr.storeAt 24 (.pointer (some ⟨w1.heap.size,0,none⟩)) (.agg Cfg)).run Tryz.prog (w1.alloc (.cells (cfC Cf.zero) 24))=.ok () W1):=hst1
  have HL1:Hid ((Instr.loadAt 24 (.pointer (some ⟨w1.heap.size,0,none⟩))).run Tryz.prog W1=.ok (.agg Cfg) W1):=by rw[H00.out.2.2.1];exact hc1.loads
  have H1:Hid (CfAt W1 w1.heap.size usE/\Below w.heap.size w W1):=⟨hc1,hb1.trans (hb11.mono hb1.size)⟩
  clear KU hst1 hc1 hb1 hb11
  have K1:=penew_no W1 usE a ca own 0 1 (usE_no HM.out.2)
  rw[<-H00.out.2.2.1,<-HM.out.1] at K1
  go_wp2_with (first|(refine wpList_store_run rfl 24 _ _ rfl _ _ rfl rfl HST1.out ?_)|(refine wpList_gload_run rfl 24 _ rfl _ _ rfl HL1.out ?_)|fail)
  refine K1.mono ?_
  rintro e w2 ⟨rfl,hb2⟩
  have H2:Hid (CfAt w2 w1.heap.size usE/\Below w.heap.size w w2):=⟨H1.out.1.below hb2,H1.out.2.trans (hb2.mono H1.out.2.size)⟩
  have HL2:Hid ((Instr.loadAt 24 (.pointer (some ⟨w1.heap.size,0,none⟩))).run Tryz.prog w2=.ok (.agg Cfg) w2):=by rw[H00.out.2.2.1];exact H2.out.1.loads
  have K2:=penew_no w2 usE a ca own 1 1 (usE_no HM.out.2)
  rw[<-H00.out.2.2.1,<-HM.out.1] at K2
  clear K1 hb2
  go_wp2_with (first|(refine wpList_gload_run rfl 24 _ rfl _ _ rfl HL2.out ?_)|fail)
  refine K2.mono ?_
  rintro e w3 ⟨rfl,hb3⟩
  have H3:Hid (CfAt w3 w1.heap.size usE/\Below w.heap.size w w3):=⟨H2.out.1.below hb3,H2.out.2.trans (hb3.mono H2.out.2.size)⟩
  have c4:w3.cell? ⟨w1.heap.size,4,none⟩=some (.int .i64 16):=H3.out.1.c4
  have K3:=rall_any w3 a ca own 16 (H00.out.2.1.below H3.out.2)
  rw[allP_no HM.out.2,<-HM.out.1] at K3
  clear K2 hb3
  go_wp2_with fail
  refine K3.mono ?_
  rintro e w4 ⟨dk,ck,rfl,_,hb4⟩
  have H4:Hid (CfAt w4 w1.heap.size usE/\Below w.heap.size w w4):=⟨H3.out.1.below hb4,H3.out.2.trans (hb4.mono H3.out.2.size)⟩
  have HL4:Hid ((Instr.loadAt 24 (.pointer (some ⟨w1.heap.size,0,none⟩))).run Tryz.prog w4=.ok (.agg Cfg) w4):=by rw[H00.out.2.2.1];exact H4.out.1.loads
  have K4:=tnew_ok w4 usE 1 (Nat.le_trans H00.out.2.2.2.2.2 H4.out.2.size) usE_ok (by decide) (by decide)
  rw[<-H00.out.2.2.1] at K4
  clear K3 hb4 c4
  go_wp2_with (first|(refine wpList_gload_run rfl 24 _ rfl _ _ rfl HL4.out ?_)|fail)
  refine K4.mono ?_
  rintro e w5 ⟨T,rfl,hT5⟩
  have KA:=HAW.out w5 (H4.out.2.trans (hT5.solo.bel.mono H4.out.2.size))
  clear K4 hT5
  go_wp2_with fail
  refine KA.mono ?_
  rintro e w6 ⟨rfl,hb6⟩
  have HE:Hid (Below w.heap.size w w6):=hb6
  clear KA hb6
  go_wp2
  go_ret
  exact⟨by simp,HE.out⟩
 have HM:Hid (own.length=16):=h16
 rw[h16]
 go_enter Tryz.func3,Tryz.ntmps3
 go_wp2_with fail
 refine KU.mono ?_
 rintro e w1 ⟨rfl,hb1⟩
 obtain⟨W1,hst1,hc1,hb11⟩:=cf_laid w1 usE
 rw[<-H00.out.2.2.1] at hst1
 have HST1:Hid ((Instr.storeAt 24 (.pointer (some ⟨w1.heap.size,0,none⟩)) (.agg Cfg)).run Tryz.prog (w1.alloc (.cells (cfC Cf.zero) 24))=.ok () W1):=hst1
 have HL1:Hid ((Instr.loadAt 24 (.pointer (some ⟨w1.heap.size,0,none⟩))).run Tryz.prog W1=.ok (.agg Cfg) W1):=by rw[H00.out.2.2.1];exact hc1.loads
 have H1:Hid (CfAt W1 w1.heap.size usE/\Below w.heap.size w W1):=⟨hc1,hb1.trans (hb11.mono hb1.size)⟩
 have K1:=ESolo.new w W1 H00.out.2.2.2.2.2 (H00.out.1.below H1.out.2) H1.out.2 usE a ca own 0 1 (H00.out.2.1.below H1.out.2) (usE_new h16 (by decide) (by decide))
 rw[<-H00.out.2.2.1,h16] at K1
 clear KU hst1 hc1 hb1 hb11 h16
 go_wp2_with (first|(refine wpList_store_run rfl 24 _ _ rfl _ _ rfl rfl HST1.out ?_)|(refine wpList_gload_run rfl 24 _ rfl _ _ rfl HL1.out ?_)|fail)
 refine K1.mono ?_
 rintro e w2 ⟨R,d1,cc1,rfl,hA2,hR2,hb2⟩
 have H2:Hid (CfAt w2 w1.heap.size usE/\w1.heap.size<R):=⟨H1.out.1.below hb2,Nat.lt_of_lt_of_le H1.out.1.lt hR2⟩
 have HL2:Hid ((Instr.loadAt 24 (.pointer (some ⟨w1.heap.size,0,none⟩))).run Tryz.prog w2=.ok (.agg Cfg) w2):=by rw[H00.out.2.2.1];exact H2.out.1.loads
 have K2:=ESolo.new w w2 H00.out.2.2.2.2.2 (H00.out.1.below hA2.bel) hA2.bel usE a ca own 1 1 (H00.out.2.1.below hA2.bel) (usE_new HM.out (by decide) (by decide))
 rw[<-H00.out.2.2.1,HM.out] at K2
 have HA2:Hid (ESolo w w2 R (ecNew usE own 0 1) d1 cc1):=hA2
 clear K1 hA2 hR2 hb2 HST1 HL1
 go_wp2_with (first|(refine wpList_gload_run rfl 24 _ rfl _ _ rfl HL2.out ?_)|fail)
 refine K2.mono ?_
 rintro e w3 ⟨Q,d2,cc2,rfl,hB3,hQ3,hb3⟩
 have H3:Hid (ESolo w w3 R (ecNew usE own 0 1) d1 cc1/\ESolo w w3 Q (ecNew usE own 1 1) d2 cc2/\Q≠R/\CfAt w3 w1.heap.size usE/\R<w3.heap.size/\Q<w3.heap.size):=by
  have h1:=HA2.out.all.at'.lt
  exact⟨HA2.out.below hb3,hB3,by omega,H2.out.1.below hb3,Nat.lt_of_lt_of_le h1 hb3.size,hB3.all.at'.lt⟩
 have c4:w3.cell? ⟨w1.heap.size,4,none⟩=some (.int .i64 16):=H3.out.2.2.2.1.c4
 have K3:Calls Tryz.prog 6 #[.slice a 16 ca,.int .i64 16] w3 λe w'=>∃ g,e=.returned (.tuple #[.slice (some ⟨g,0,none⟩) 17 17,.int .i64 0])/\Full w' g 16 (lastL own)/\Below w3.heap.size w3 w':=rall_ok w3 a ca own HM.out 16 (by decide) (by decide) (H00.out.2.1.below hB3.bel)
 clear K2 hB3 hQ3 hb3 HL2 HA2
 go_wp2_with fail
 refine K3.mono ?_
 rintro e w4 ⟨g,rfl,hF4,hb4⟩
 have hg4:g<w4.heap.size:=by
  obtain⟨s,_,h2,_⟩:=hF4
  exact(Array.getElem?_eq_some_iff.1 h2).1
 have H4:Hid (ESolo w w4 R (ecNew usE own 0 1) d1 cc1/\ESolo w w4 Q (ecNew usE own 1 1) d2 cc2/\Q≠R/\CfAt w4 w1.heap.size usE/\R<w4.heap.size/\Q<w4.heap.size/\Full w4 g 16 (lastL own)/\g<w4.heap.size):=by
  have:=hb4.size
  have h3:=H3.out
  exact⟨h3.1.below hb4,h3.2.1.below hb4,h3.2.2.1,h3.2.2.2.1.below hb4,by omega,by omega,hF4,hg4⟩
 have HL4:Hid ((Instr.loadAt 24 (.pointer (some ⟨w1.heap.size,0,none⟩))).run Tryz.prog w4=.ok (.agg Cfg) w4):=by rw[H00.out.2.2.1];exact H4.out.2.2.2.1.loads
 have K4:=tnew_ok w4 usE 1 (Nat.le_trans H00.out.2.2.2.2.2 H4.out.1.bel.size) usE_ok (by decide) (by decide)
 rw[<-H00.out.2.2.1] at K4
 clear K3 hb4 c4 hF4 hg4
 go_wp2_with (first|(refine wpList_gload_run rfl 24 _ rfl _ _ rfl HL4.out ?_)|fail)
 refine K4.mono ?_
 rintro e w5 ⟨T,rfl,hT5⟩
 have hb5:=hT5.solo.bel
 have H5:Hid (ESolo w w5 R (ecNew usE own 0 1) d1 cc1/\ESolo w w5 Q (ecNew usE own 1 1) d2 cc2/\Q≠R/\CfAt w5 w1.heap.size usE/\Full w5 g 16 (lastL own)/\TN w4.heap.size w5.heap.size w5 T (newR usE 1) 0):=
  ⟨H4.out.1.below hb5,H4.out.2.1.below hb5,H4.out.2.2.1,H4.out.2.2.2.1.below hb5,(Full.kp g 16 _).below H4.out.2.2.2.2.2.2.1 hb5,hT5.tn⟩
 have c5:w5.cell? ⟨w1.heap.size,4,none⟩=some (.int .i64 16):=H5.out.2.2.2.1.c4
 have H45:Hid (Below w4.heap.size w4 w5):=hb5
 clear K4 hT5 hb5 HL4
 by_cases hlong:16<bl
 ·have t1:decide ((16:Int)<(bl:Int))=true:=decide_eq_true (by omega)
  have KA:=HAW.out w5 H5.out.1.bel
  clear hlong
  go_wp2_with fail
  refine KA.mono ?_
  rintro e w6 ⟨rfl,hb6⟩
  have HE:Hid (Below w.heap.size w w6):=hb6
  clear KA hb6
  go_wp2
  go_ret
  exact⟨by simp,HE.out⟩
 have t1:decide ((16:Int)<(bl:Int))=false:=decide_eq_false (by omega)
 have HSH:Hid (bl<=16):=(show bl<=16 by omega)
 clear hlong
 obtain⟨last,hlast⟩:∃ last,last=lastL own:=⟨_,rfl⟩
 have HLA:Hid (last.length=16):=by rw[hlast];exact lastL_len own
 rw[<-hlast] at H5
 obtain⟨k0,hk0⟩:∃ k0,k0=backL 16 last:=⟨_,rfl⟩
 have HK0:Hid (k0=backL 16 last/\k0.length=16):=⟨hk0,by rw[hk0];exact backL_len _ _ HLA.out⟩
 obtain⟨A1,x,y,P,QF,hi,hO⟩:=hearS own k0 HM.out HK0.out.2
 have O:Hid (HearS (ecNew usE own 0 1) (ecNew usE own 1 1) A1 x y P QF hi k0):=hO
 clear hO hk0 hlast
 have K5:=H5.out.1.ask 1 1000
 rw[O.out.askE,O.out.askR,O.out.askV] at K5
 go_wp2_with fail
 refine K5.mono ?_
 rintro e w6 ⟨dx,cx,rfl,hsx,hA6,ha6⟩
 have H6:Hid (ESolo w w6 R A1 d1 cc1/\ESolo w w6 Q (ecNew usE own 1 1) d2 cc2/\Full w6 g 16 last/\TN w4.heap.size w5.heap.size w6 T (newR usE 1) 0/\Sees w6 dx cx x):=
  ⟨hA6,H5.out.1.other H5.out.2.1 ha6 H5.out.2.2.1,H5.out.2.2.2.2.1.node H5.out.1 ha6,H5.out.2.2.2.2.2.node H5.out.1 ha6 H4.out.2.2.2.2.1,hsx⟩
 have H56:Hid (w5.heap.size<=w6.heap.size):=ha6.size
 clear K5 hsx hA6 ha6 c5
 have K6:=H6.out.2.1.opened dx cx x H6.out.2.2.2.2 (by rw[O.out.xl];omega)
 rw[O.out.opE,O.out.opF] at K6
 go_wp2_with fail
 refine K6.mono ?_
 rintro e w7 ⟨Ap,rfl,hsp,hb7⟩
 obtain⟨W7,hst7,hP7,hb77⟩:=fbox_laid hsp
 have hbW:Below w6.heap.size w6 W7:=hb7.trans (hb77.mono hb7.size)
 have HST7:Hid ((Instr.storeAt 41 (.pointer (some ⟨w7.heap.size,0,none⟩)) (.agg (frC P Ap))).run Tryz.prog (w7.alloc (.cells (frC Fr.zero At.zero) 41))=.ok () W7):=hst7
 have HF7:Hid (FBox W7 w7.heap.size P Ap):=hP7
 have H7:Hid (ESolo w W7 R A1 d1 cc1/\ESolo w W7 Q (ecNew usE own 1 1) d2 cc2/\Full W7 g 16 last/\TN w4.heap.size w5.heap.size W7 T (newR usE 1) 0):=⟨H6.out.1.below hbW,H6.out.2.1.below hbW,(Full.kp g 16 _).below H6.out.2.2.1 hbW,H6.out.2.2.2.1.below hbW⟩
 have H67:Hid (w5.heap.size<=W7.heap.size):=Nat.le_trans H56.out hbW.size
 clear K6 hsp hst7 hP7 hb7 hb77 hbW
 go_wp2_with (first|(refine wpList_store_run rfl 41 _ _ rfl _ _ rfl rfl HST7.out ?_)|fail)
 obtain⟨p0,q0,s0⟩:=H7.out.2.2.1.at (j:=0) (by omega)
 rw[show 16-0=16 from rfl,<-HK0.out.1] at s0
 have hdw:Below W7.heap.size W7 W7.drew:=(Below.refl _ _).drew
 have K7:=(H7.out.2.1.below hdw).reply P Ap (HF7.out.below hdw).seen O.out.pn 1100 1 0 0 p0.1 p0.2 k0 (s0.below hdw)
 rw[O.out.repE,O.out.repR,HK0.out.2] at K7
 have HQ:Hid (∀ V,Below W7.drew.heap.size W7.drew V->(Instr.loadAt 41 (.pointer (some ⟨w7.heap.size,0,none⟩))).run Tryz.prog V=.ok (.agg (frC P Ap)) V/\V.cell? ⟨g,0,none⟩=some (.slice p0.1 16 p0.2)):=λV hbV=>⟨(HF7.out.below (hdw.trans hbV)).at'.loads,((hdw.trans hbV).cell (p:=⟨g,0,none⟩) (World.block_lt_of_cell? _ _ q0)).trans q0⟩
 have hS0:=HQ.out W7.drew (Below.refl _ _)
 clear q0 s0 hdw HST7
 go_upto_region 10 with fail
 refine wp_region_noPanic ?_
 refine wp_region_held (S:=λV=>(Instr.loadAt 41 (.pointer (some ⟨w7.heap.size,0,none⟩))).run Tryz.prog V=.ok (.agg (frC P Ap)) V/\V.cell? ⟨g,0,none⟩=some (.slice p0.1 16 p0.2)) (by kernel_rfl) ?_
 have hS:=hS0
 refine tk 0 hS ?_
 refine tk 1 (v:=Value.agg (frC P Ap)) (hv:=λW hW=>exec_load 41 (.tmp 22) rfl _ _ rfl hW.1) hS ?_
 refine tk 2 hS ?_
 refine tk 3 hS ?_
 refine tk 4 hS ?_
 refine any_one 5 rfl (by kernel_rfl) (by rfl) (λK hK=>?_)
 clear hS
 go_simp
 refine K7.mono ?_
 rintro ev w8 ⟨dy,cy,rfl,hsy,hb8⟩
 have hS8:=HQ.out _ hb8
 refine hK.out _ _ (hS8) (λhS=>?_)
 clear hK
 (try simp only[Act.put,sT])
 refine tk 6 hS ?_
 refine tk 7 hS ?_
 refine tk 8 hS ?_
 refine tk 9 hS ?_
 refine tk 10 hS ?_
 refine wpAnyH_done (by kernel_rfl) ?_ _
 refine NoPanic.normal ?_
 have hb78:Below W7.heap.size W7 w8:=(Below.refl _ _).drew.trans hb8
 have H8:Hid (ESolo w w8 R A1 d1 cc1/\Full w8 g 16 last/\TN w4.heap.size w5.heap.size w8 T (newR usE 1) 0/\Sees w8 dy cy y):=⟨H7.out.1.below hb78,(Full.kp g 16 _).below H7.out.2.2.1 hb78,H7.out.2.2.2.below hb78,hsy⟩
 have H78:Hid (w5.heap.size<=w8.heap.size):=Nat.le_trans H67.out hb78.size
 clear hS hS0 hS8 HQ hsy hb8 hb78
 have K8:=H8.out.1.opened dy cy y H8.out.2.2.2 (by have:=O.out.yl;omega)
 rw[O.out.op2E,O.out.op2F] at K8
 go_wp2_with fail
 refine K8.mono ?_
 rintro e w9 ⟨Aq,rfl,hsq,hb9⟩
 obtain⟨W9,hst9,hQ9,hb99⟩:=fbox_laid hsq
 have hbW9:Below w8.heap.size w8 W9:=hb9.trans (hb99.mono hb9.size)
 have HST9:Hid ((Instr.storeAt 41 (.pointer (some ⟨w9.heap.size,0,none⟩)) (.agg (frC QF Aq))).run Tryz.prog (w9.alloc (.cells (frC Fr.zero At.zero) 41))=.ok () W9):=hst9
 have HL9:Hid ((Instr.loadAt 41 (.pointer (some ⟨w9.heap.size,0,none⟩))).run Tryz.prog W9=.ok (.agg (frC QF Aq)) W9):=hQ9.at'.loads
 have H9:Hid (ESolo w W9 R A1 d1 cc1/\Full W9 g 16 last/\TN w4.heap.size w5.heap.size W9 T (newR usE 1) 0/\Seen W9 QF Aq):=⟨H8.out.1.below hbW9,(Full.kp g 16 _).below H8.out.2.1 hbW9,H8.out.2.2.1.below hbW9,hQ9.seen⟩
 have H89:Hid (w5.heap.size<=W9.heap.size):=Nat.le_trans H78.out hbW9.size
 clear K8 hsq hst9 hQ9 hb9 hb99 hbW9
 have K9:=H9.out.1.hear QF Aq H9.out.2.2.2 1100
 rw[O.out.heE,O.out.heA] at K9
 go_wp2_with (first|(refine wpList_store_run rfl 41 _ _ rfl _ _ rfl rfl HST9.out ?_)|(refine wpList_gload_run rfl 41 _ rfl _ _ rfl HL9.out ?_)|fail)
 refine K9.mono ?_
 rintro e w10 ⟨za,zc,rfl,hsz,hA,haa⟩
 obtain⟨W10,hst,hX,hsz2,hbb⟩:=pn_laid (x:=⟨1,0,hi,1,0,0,k0⟩) hsz
 have HST10:Hid ((Instr.storeAt 48 (.pointer (some ⟨w10.heap.size,0,none⟩)) (.agg (anC ⟨1,0,hi,1,0,0,k0⟩ za zc))).run Tryz.prog (w10.alloc (.cells (anC An.zero none 0) 48))=.ok () W10):=hst
 have HX:Hid (PnAt W10 w10.heap.size ⟨1,0,hi,1,0,0,k0⟩ za zc):=hX
 have hbel:Below w.heap.size w W10:=(hA.below hbb).bel
 have HF10:Hid (Full W10 g 16 last):=(Full.kp g 16 _).below (H9.out.2.1.node H9.out.1 haa) hbb
 have HT10:Hid (TL w W10 T (newR usC 1) 0 g w10.heap.size):=by
  refine TN.live ((H9.out.2.2.1.node H9.out.1 haa H4.out.2.2.2.2.1).below hbb) hbel H4.out.1.bel.size H4.out.2.2.2.2.2.2.2 (Nat.le_trans H89.out haa.size) hX.lt ?_
  have h1:=H45.out.size
  have h2:=H89.out
  have h3:=haa.size
  have h4:=hbb.size
  omega
 have hcell:∀ i u,(anC ⟨1,0,hi,1,0,0,k0⟩ za zc)[i]?=some u->W10.cell? ⟨w10.heap.size,i,none⟩=some u:=λi u hu=>by
  rw[cell_of_row W10 _ i _ _ _ hX];exact hu
 have z3:W10.cell? ⟨w10.heap.size,3,none⟩=some (.int .i64 1):=hcell 3 _ rfl
 have z4:W10.cell? ⟨w10.heap.size,4,none⟩=some (.int .i64 0):=hcell 4 _ rfl
 have z5:W10.cell? ⟨w10.heap.size,5,none⟩=some (.int .i64 0):=hcell 5 _ rfl
 have z6:W10.cell? ⟨w10.heap.size,6,none⟩=some (.slice za 16 zc):=by rw[<-HK0.out.2];exact hcell 6 _ rfl
 obtain⟨r1,r2⟩:=hr_anchor HLA.out
 rw[<-HK0.out.1] at r1 r2
 have K10:=HT10.out.anchor H00.out.2.2.2.2.1 (by omega) 1 0 0 za zc k0 hsz2 (by rw[HK0.out.2];omega)
 rw[r1,r2,HK0.out.2] at K10
 clear K9 hsz hA haa hst hX hsz2 hbb hbel hcell r1 r2 HST9 HL9
 go_wp2_with (first|(refine wpList_store_run rfl 48 _ _ rfl _ _ rfl rfl HST10.out ?_)|fail)
 refine K10.mono ?_
 rintro e w11 ⟨rfl,hT11,hk11⟩
 have H11:Hid (Full w11 g 16 last/\TL w w11 T (hrR last) 64 g w10.heap.size/\PnAt w11 w10.heap.size ⟨1,0,hi,1,0,0,k0⟩ za zc):=⟨hk11.full HF10.out,hT11,hk11.b.trans HX.out⟩
 obtain⟨U,hU⟩:∃ U:Int,U=rd%14:=⟨_,rfl⟩
 have hb0:=HBL.out
 have hU1:rd.tmod 14=U:=by rw[hU];exact Int.tmod_eq_emod_of_nonneg hb0.2.1
 have wU8:IntKind.u8.wrap U=U:=by rw[IntKind.wrap_u8];omega
 have wU:IntKind.i64.wrap U=U:=by rw[IntKind.wrap_i64];omega
 obtain⟨n,hn⟩:∃ n:Nat,(n:Int)=2+U:=⟨(2+U).toNat,by omega⟩
 have wn:IntKind.i64.wrap (2+U)=(n:Int):=by rw[IntKind.wrap_i64];omega
 have en:2+U=(n:Int):=hn.symm
 have n2:2<=n:=by omega
 have n15:n<=15:=by omega
 obtain⟨q0,e0,s0⟩:=H11.out.1.at (j:=0) (by omega)
 obtain⟨q1,e1,s1⟩:=H11.out.1.at (j:=n) (by omega)
 rw[show 16-0=16 from rfl,<-HK0.out.1] at s0
 obtain⟨key,hkey⟩:∃ key,key=backL (16-n) last:=⟨_,rfl⟩
 have hkl:key.length=16:=by rw[hkey];exact backL_len _ _ HLA.out
 rw[<-hkey] at s1
 obtain⟨F0,hF0⟩:∃ F0,F0=dF 1 1 (n:Int) k0 body:=⟨_,rfl⟩
 have hsh:body.length<=16:=by have:=HSH.out;rw[hb0.1] at this;exact this
 have htag:tagB key F0=true:=by rw[hF0];exact dF_tag (by decide) (by decide) (by omega) HK0.out.2 hsh hkl
 obtain⟨g1,g2,g3,g4,g5⟩:=sl_get htag (by rw[hF0];show (0:Nat)<_;decide)
 have hdw:Below w11.heap.size w11 w11.drew:=(Below.refl _ _).drew
 have hlow:Below w.heap.size w w11:=H11.out.2.1.bel
 have hT11b:=(H00.out.2.2.2.2.1.below hlow).below hdw
 have KS:=seal_any w11.drew F0 ⟨q0.1,q0.2,a1,c1,none,0⟩ q1.1 q1.2 key hT11b.2 (by rw[hF0];exact⟨s0.below hdw,(H00.out.2.2.2.1.below hlow).below hdw,Sees.nil' _⟩) (by rw[hF0];show (0:Nat)<_;decide) (s1.below hdw)
 rw[hkl,g4,g5] at KS
 have HBu:Hid (∀ V,(Instr.build 41 #[(0,.int .i64 1),(1,.int .i64 1),(3,.int .i64 1),(5,.int .i64 (n:Int)),(10,.slice q0.1 16 q0.2),(11,.slice a1 bl c1)]).run Tryz.prog V=.ok (.agg (frC F0 ⟨q0.1,q0.2,a1,c1,none,0⟩)) V):=λV=>by rw[hF0];exact dF_buildH V 1 1 _ k0 body HK0.out.2 q0.1 q0.2 a1 c1 bl HBL.out.1
 obtain⟨b,hb⟩:∃ b,b=slB key F0:=⟨_,rfl⟩
 rw[<-hb] at KS g1 g2 g3
 have HQ:Hid (∀ V,Below w11.drew.heap.size w11.drew V->V.cell? ⟨g,0,none⟩=some (.slice q0.1 16 q0.2)/\V.cell? ⟨g,n,none⟩=some (.slice q1.1 16 q1.2)):=λV hbV=>⟨((hdw.trans hbV).cell (p:=⟨g,0,none⟩) (World.block_lt_of_cell? _ _ e0)).trans e0,((hdw.trans hbV).cell (p:=⟨g,n,none⟩) (World.block_lt_of_cell? _ _ e1)).trans e1⟩
 have hS0:=HQ.out w11.drew (Below.refl _ _)
 have HN:Hid (2<=n/\n<=15/\key=backL (16-n) last/\key.length=16):=⟨n2,n15,hkey,hkl⟩
 have HG:Hid (getE b=0/\getF b=sealF key F0/\b.length<=53/\tagB key F0=true/\F0=dF 1 1 (n:Int) k0 body):=⟨g1,g2,g3,htag,hF0⟩
 have u0:(0:Int)<=(n:Int):=Int.natCast_nonneg _
 have u1:(n:Int)<17:=by omega
 have HC:Hid (0<=U):=(show 0<=U by omega)
 clear K10 hT11 hk11 hU hn n2 n15 e0 e1 s0 s1 hkey hkl hF0 hsh htag g1 g2 g3 g4 g5 hdw hlow hT11b hb hb0 z3 z4 z5 z6 HST10
 go_upto_region 16 with fail
 refine wp_region_noPanic ?_
 refine wp_region_held (S:=λV=>V.cell? ⟨g,0,none⟩=some (.slice q0.1 16 q0.2)/\V.cell? ⟨g,n,none⟩=some (.slice q1.1 16 q1.2)) (by kernel_rfl) ?_
 have hS:=hS0
 refine tk 0 hS ?_
 refine tk 1 hS ?_
 refine tk 2 hS ?_
 refine tk 3 hS ?_
 refine tk 4 hS ?_
 refine tk 5 (v:=Value.agg (frC F0 ⟨q0.1,q0.2,a1,c1,none,0⟩)) (hv:=λW _=>pexec_build 41 _ rfl [(0,.int .i64 1),(1,.int .i64 1),(3,.int .i64 1),(5,.int .i64 (n:Int)),(10,.slice q0.1 16 q0.2),(11,.slice a1 bl c1)] _ rfl (HBu.out W)) hS ?_
 refine tk 6 hS ?_
 refine tk 7 hS ?_
 refine tk 8 hS ?_
 refine tk 9 hS ?_
 refine any_one 10 rfl (by kernel_rfl) (by rfl) (λK hK=>?_)
 clear hS
 go_simp
 refine KS.mono ?_
 rintro ev w12 ⟨db,cb,rfl,hs12,hb12⟩
 have hS12:=HQ.out _ hb12
 refine hK.out _ _ (hS12) (λhS=>?_)
 clear hK
 (try simp only[Act.put,sT])
 refine tk 11 hS ?_
 refine tk 12 hS ?_
 refine tk 13 hS ?_
 refine tk 14 hS ?_
 refine tk 15 hS ?_
 refine wpAnyH_done (by kernel_rfl) ?_ _
 refine NoPanic.normal ?_
 have hb1:Below w11.heap.size w11 w12:=(Below.refl _ _).drew.trans hb12
 have H12:Hid (Full w12 g 16 last/\TL w w12 T (hrR last) 64 g w10.heap.size/\PnAt w12 w10.heap.size ⟨1,0,hi,1,0,0,k0⟩ za zc/\Sees w12 db cb b):=⟨(Full.kp g 16 _).below H11.out.1 hb1,H11.out.2.1.below hb1,H11.out.2.2.below hb1,hs12⟩
 clear hS hS0 hS12 HQ hs12 hb12 hb1 HBu
 have K12:=get_new w12 db cb b H12.out.2.2.2 (by have:=HG.out.2.2.1;omega) HG.out.1
 rw[HG.out.2.1] at K12
 obtain⟨F1,hF1⟩:∃ F1,F1=sealF key F0:=⟨_,rfl⟩
 rw[<-hF1] at K12
 have HF1:Hid (F1=sealF key F0/\F1.tag.length=8):=⟨hF1,by rw[hF1];exact tagL_length _ _⟩
 clear hF1
 go_wp2_with fail
 refine K12.mono ?_
 rintro e w13 ⟨Af,rfl,hsf,hb13,htn,hz13⟩
 obtain⟨W13,hst13,hB13,hb133⟩:=fbox_laid hsf
 have HZB:Hid (Bare W13 Af.ta):=hz13.below hb133
 clear hz13
 have hb2:Below w12.heap.size w12 W13:=hb13.trans (hb133.mono hb13.size)
 have HST13:Hid ((Instr.storeAt 41 (.pointer (some ⟨w13.heap.size,0,none⟩)) (.agg (frC F1 Af))).run Tryz.prog (w13.alloc (.cells (frC Fr.zero At.zero) 41))=.ok () W13):=hst13
 have H13:Hid (Full W13 g 16 last/\TL w W13 T (hrR last) 64 g w13.heap.size/\PnAt W13 w10.heap.size ⟨1,0,hi,1,0,0,k0⟩ za zc/\Sees W13 db cb b/\FBox W13 w13.heap.size F1 Af/\TagNew w12.heap.size F1 Af/\Below w12.heap.size w12 W13/\w12.heap.size<=w13.heap.size/\Seen w13 F1 Af):=
  ⟨(Full.kp g 16 _).below H12.out.1 hb2,H12.out.2.1.box hb2 hb13.size hB13.at'.lt,H12.out.2.2.1.below hb2,H12.out.2.2.2.below hb2,hB13,htn,hb2,hb13.size,hsf⟩
 have f12:W13.cell? ⟨w13.heap.size,12,none⟩=some (.slice Af.ta 8 Af.tc):=by have:=hB13.at'.c12;rw[HF1.out.2] at this;exact this
 clear K12 hsf hst13 hB13 hb13 hb133 hb2 htn
 cases tn
 ·have HF3:Hid (F1.k=1/\F1.f=1/\F1.e=1/\F1.r=(n:Int)/\holdsB key F1=true):=by
   refine⟨?_,?_,?_,?_,?_⟩
   ·rw[HF1.out.1,HG.out.2.2.2.2];rfl
   ·rw[HF1.out.1,HG.out.2.2.2.2];rfl
   ·rw[HF1.out.1,HG.out.2.2.2.2];rfl
   ·rw[HF1.out.1,HG.out.2.2.2.2];rfl
   ·rw[HF1.out.1];exact eseal_holds HG.out.2.2.2.1
  have HGF:Hid (getF b=F1):=HG.out.2.1.trans HF1.out.1.symm
  obtain⟨M,hM⟩:∃ M:Int,M=1100+hi:=⟨_,rfl⟩
  have wM:IntKind.i64.wrap M=M:=by have:=O.out.hi0;have:=O.out.hi1;rw[IntKind.wrap_i64];omega
  have eM:1100+hi=M:=hM.symm
  have z2:W13.cell? ⟨w10.heap.size,2,none⟩=some (.int .i64 hi):=by rw[cell_of_row W13 _ 2 _ _ _ H13.out.2.2.1];rfl
  obtain⟨o1,o2⟩:=hr_offer (last:=last) HN.out.1 HN.out.2.1 (M:=M) HG.out.1 HGF.out HF3.out.1 HF3.out.2.1 HF3.out.2.2.1 HF3.out.2.2.2.1 HG.out.2.2.1 (by have:=O.out.hi0;omega) (by have:=O.out.hi1;omega)
  have KO:=H13.out.2.1.offer H00.out.2.2.2.2.1 (by omega) (by show (0:Nat)<=1000000;decide) db cb b H13.out.2.2.2.1 (by have:=HG.out.2.2.1;omega) M
  rw[o1,o2] at KO
  clear hM o1 o2
  go_wp2_with (first|(refine wpList_store_run rfl 41 _ _ rfl _ _ rfl rfl HST13.out ?_)|fail)
  refine KO.mono ?_
  rintro e w16 ⟨rfl,hT16,hk16⟩
  have hFu:=hk16.full H13.out.1
  obtain⟨q2,e2,s2⟩:=hFu.at (j:=n) (by have:=HN.out.2.1;omega)
  rw[<-HN.out.2.2.1] at s2
  obtain⟨t1,t2⟩:=hr_tell HLA.out HN.out.1 HN.out.2.1 HGF.out HF3.out.2.2.2.1 HN.out.2.2.1
  rw[if_pos HF3.out.2.2.2.2] at t2
  have KT:=hT16.tell H00.out.2.2.2.2.1 (by omega) 1 (n:Int) q2.1 q2.2 key s2 (by rw[HN.out.2.2.2];omega)
  rw[t1,t2,HN.out.2.2.2] at KT
  have HB16:Hid (FBox w16 w13.heap.size F1 Af):=⟨hk16.b.trans H13.out.2.2.2.2.1.at',⟨hk16.sees H13.out.2.2.2.2.1.seen.key,hk16.sees H13.out.2.2.2.2.1.seen.body,hk16.sees H13.out.2.2.2.2.1.seen.tag⟩⟩
  clear KO hT16 hk16 hFu s2 t1 t2 z2 wM eM f12 HST13
  go_wp2_with fail
  refine KT.mono ?_
  rintro e w17 ⟨vo,rfl,hfr,hT17,hk17⟩
  obtain⟨qf,cf,A2,rfl,hs2,hl2⟩:=hfr.one
  have hB17:FBox w17 w13.heap.size F1 Af:=⟨hk17.b.trans HB16.out.at',⟨hk17.sees HB16.out.seen.key,hk17.sees HB16.out.seen.body,hk17.sees HB16.out.seen.tag⟩⟩
  have hbel:=hT17.bel
  have HQ:Hid (∀ V,Below w17.heap.size w17 V->(Below w.heap.size w V/\(Instr.loadAt 41 (.pointer (some ⟨qf,0,none⟩))).run Tryz.prog V=.ok (.agg (frC F1 A2)) V)/\(Instr.loadAt 41 (.pointer (some ⟨w13.heap.size,0,none⟩))).run Tryz.prog V=.ok (.agg (frC F1 Af)) V):=λV hV=>⟨⟨hbel.trans (hV.mono hbel.size),hl2 V hV⟩,(hB17.below hV).at'.loads⟩
  have hdw:Below w17.heap.size w17 w17.drew:=(Below.refl _ _).drew
  have KS2:=same_ok w17.drew F1 A2 F1 Af (hs2.below hdw) (hB17.below hdw).seen
  rw[sameB_refl] at KS2
  have hS0:=HQ.out w17.drew hdw
  clear KT hfr hT17 hk17 e2 hs2 hl2 hB17 hbel hdw
  go_upto_region 27 with fail
  refine wp_region_noPanic ?_
  refine wp_region_held (S:=λV=>(Below w.heap.size w V/\(Instr.loadAt 41 (.pointer (some ⟨qf,0,none⟩))).run Tryz.prog V=.ok (.agg (frC F1 A2)) V)/\(Instr.loadAt 41 (.pointer (some ⟨w13.heap.size,0,none⟩))).run Tryz.prog V=.ok (.agg (frC F1 Af)) V) (by kernel_rfl) ?_
  have hS:=hS0
  refine tk 0 hS ?_
  refine tk 1 hS ?_
  refine tk 2 hS ?_
  refine tk 3 hS ?_
  refine tk 4 (v:=Value.agg (frC F1 A2)) (hv:=λW hW=>exec_load 41 (.tmp 250) rfl _ _ rfl hW.1.2) hS ?_
  refine tk 5 (v:=Value.agg (frC F1 Af)) (hv:=λW hW=>exec_load 41 (.tmp 33) rfl _ _ rfl hW.2) hS ?_
  refine any_one 6 rfl (by kernel_rfl) (by rfl) (λK hK=>?_)
  have hSS:_:=hS
  clear hS
  go_simp
  refine KS2.mono ?_
  rintro ev w18 ⟨rfl,hw18⟩
  have hb18:Below w17.heap.size w17 w18:=by rw[hw18];exact((Below.refl _ _).drew.alloc (Nat.le_refl _) _).alloc (by simp) _
  have hS18:=HQ.out _ hb18
  clear hw18
  refine hK.out _ _ (hS18) (λhS=>?_)
  clear hK
  (try simp only[Act.put,sT])
  refine tk 7 hS ?_
  refine tk 8 hS ?_
  refine any_one 9 rfl (by kernel_rfl) (by rfl) (λK hK=>?_)
  have hSS:_:=hS
  clear hS
  go_simp
  refine(heard_ok _ (H00.out.1.below hSS.1.1) (Nat.le_trans H00.out.2.2.2.2.2 hSS.1.1.size)).mono ?_
  rintro ev w19 ⟨rfl,hb19⟩
  have hS19:=HQ.out _ (hb18.trans (hb19.mono hb18.size))
  refine hK.out _ _ (hS19) (λhS=>?_)
  clear hK
  (try simp only[Act.put,sT])
  refine tk 10 hS ?_
  refine tk 11 hS ?_
  refine wpAnyH_done (by kernel_rfl) ?_ _
  refine NoPanic.normal ?_
  have HE:Hid _:=hS.1.1
  clear hS hS0
  go_wp2
  go_ret
  exact⟨by simp,HE.out⟩
 ·obtain⟨x0,hx0⟩:∃ x0,F1.tag[((bt/8)%8).toNat]?=some x0:=⟨_,List.getElem?_eq_getElem (by have:=HF1.out.2;omega)⟩
  obtain⟨j,hj⟩:∃ j:Nat,(j:Int)=(bt/8)%8:=⟨((bt/8)%8).toNat,by omega⟩
  rw[show ((bt/8)%8).toNat=j by omega] at hx0
  obtain⟨tb,to_,ta,cx0⟩:=H13.out.2.2.2.2.1.seen.tag.get hx0
  rw[ta] at f12
  obtain⟨D,hD⟩:∃ D:Int,D=bt/8:=⟨_,rfl⟩
  obtain⟨E,hE⟩:∃ E:Nat,(E:Int)=bt%8:=⟨(bt%8).toNat,by omega⟩
  have hb0:=HBL.out.2.2.2
  have d1:bt.tdiv 8=D:=by rw[hD];exact Int.tdiv_eq_ediv_of_nonneg hb0.1
  have wD:IntKind.u8.wrap D=D:=by rw[IntKind.wrap_u8];omega
  have d2:D.tmod 8=(j:Int):=by rw[hj,<-hD];exact Int.tmod_eq_emod_of_nonneg (by omega)
  have wj:IntKind.u8.wrap (j:Int)=(j:Int):=by rw[IntKind.wrap_u8];omega
  have d3:bt.tmod 8=(E:Int):=by rw[hE];exact Int.tmod_eq_emod_of_nonneg hb0.1
  have wE:IntKind.u8.wrap (E:Int)=(E:Int):=by rw[IntKind.wrap_u8];omega
  have j0:(0:Int)<=(j:Int):=Int.natCast_nonneg _
  have j8:(j:Int)<8:=by omega
  have E0:(0:Int)<=(E:Int):=Int.natCast_nonneg _
  have E8:(E:Int)<8:=by omega
  obtain⟨y0,hy0⟩:∃ y0,y0=x0^^^UInt8.ofNat (2^E):=⟨_,rfl⟩
  have h8:∀ E:Nat,E<8->IntKind.u8.wrap ((2:Int)^E)=((UInt8.ofNat (2^E)).toNat:Int)/\UInt8.ofNat (2^E)≠0:=by decide
  have h8E:=h8 E (by omega)
  have ey:bits .xor .u8 (x0.toNat:Int) (IntKind.u8.wrap ((2:Int)^E))=(y0.toNat:Int):=by rw[h8E.1,hy0];exact bxor _ _
  have hne:y0≠x0:=λe=>h8E.2 (by
   have h9:=congrArg (λz=>x0^^^z) (hy0.symm.trans e)
   simpa [<-UInt8.xor_assoc] using h9)
  have zf:W13.frozen? ⟨tb,to_+j,none⟩=false:=HZB.out.frozen ta _
  obtain⟨ob,oo,oe,oc⟩:=H13.out.2.2.2.2.2.2.2.2.tag.get hx0
  have hlt:tb<w13.heap.size:=by
   rw[ta] at oe
   simp only[Option.some.injEq,Addr.mk.injEq,and_true] at oe
   obtain⟨rfl,rfl⟩:=oe
   exact World.block_lt_of_cell? _ _ oc
  obtain⟨F2,hF2⟩:∃ F2,F2=turnF F1 j y0:=⟨_,rfl⟩
  obtain⟨V13,hV13⟩:∃ V13,V13=W13.setCell ⟨tb,to_+j,none⟩ (.int .u8 (y0.toNat:Int)):=⟨_,rfl⟩
  have hbt:w12.heap.size<=tb:=(H13.out.2.2.2.2.2.1 tb to_ ta).1
  have hj8:j<F1.tag.length:=(List.getElem?_eq_some_iff.1 hx0).1
  obtain⟨t1s,t1b⟩:=turned_seen (y:=y0) (w0:=w12) hbt H13.out.2.2.2.2.1.seen H13.out.2.2.2.2.2.1 ta hj8 H13.out.2.2.2.2.2.2.1
  rw[<-hV13,<-hF2] at t1s
  rw[<-hV13] at t1b
  have hfr:FrAt V13 w13.heap.size F2 Af:=by
   have e:frC F2 Af=frC F1 Af:=by rw[hF2];simp[frC,frL,turnF]
   unfold FrAt
   rw[e,hV13,heap_setCell_other _ _ _ _ (by show w13.heap.size≠tb;omega)]
   exact H13.out.2.2.2.2.1.at'
  have hr1:rightB F2=true:=by rw[hF2,HF1.out.1];exact turn_right (eseal_right HG.out.2.2.2.1) _ _
  have hn2:F2.n<18446744073709551616:=by rw[hF2,HF1.out.1,HG.out.2.2.2.2];show (0:Nat)<_;decide
  have hh2:holdsB key F2=false:=by rw[hF2];exact turn_holds (by rw[HF1.out.1];exact eseal_holds HG.out.2.2.2.1) hx0 hne
  have HF2:Hid (F2.k=1/\F2.f=1/\F2.e=1/\F2.r=(n:Int)/\rightB F2=true/\F2.n<18446744073709551616/\holdsB key F2=false):=by
   refine⟨?_,?_,?_,?_,hr1,hn2,hh2⟩<;>(rw[hF2,HF1.out.1,HG.out.2.2.2.2];rfl)
  have HV:Hid (FBox V13 w13.heap.size F2 Af/\Below w12.heap.size w12 V13/\w13.heap.size<V13.heap.size):=⟨⟨hfr,t1s⟩,t1b,hfr.lt⟩
  have hS0:W13.drew.cell? ⟨w13.heap.size,12,none⟩=some (.slice (some ⟨tb,to_,none⟩) 8 Af.tc):=f12
  have HZ:Hid ((W13.setCell ⟨tb,to_+j,none⟩ (.int .u8 (y0.toNat:Int))).drew.cell? ⟨w13.heap.size,12,none⟩=some (.slice (some ⟨tb,to_,none⟩) 8 Af.tc)):=by
   show (W13.setCell ⟨tb,to_+j,none⟩ (.int .u8 (y0.toNat:Int))).cell? ⟨w13.heap.size,12,none⟩=_
   rw[World.cell?_setCell_other _ _ _ _ (by intro e;simp at e;first|done|omega)]
   exact f12
  have HVV:Hid (W13.setCell ⟨tb,to_+j,none⟩ (.int .u8 (y0.toNat:Int))=V13):=hV13.symm
  clear hx0 ta hD hE hj hb0 hy0 h8 h8E hne oe oc hF2 hV13 hbt hj8 t1s t1b hfr hr1 hn2 hh2 hlt
  go_wp2_with (first|(refine wpList_store_run rfl 41 _ _ rfl _ _ rfl rfl HST13.out ?_)|fail)
  go_upto_region 21 with fail
  refine wp_region_noPanic ?_
  refine wp_region_held (S:=λV=>V.cell? ⟨w13.heap.size,12,none⟩=some (.slice (some ⟨tb,to_,none⟩) 8 Af.tc)) (by kernel_rfl) ?_
  have hS:=hS0
  refine tk 0 hS ?_
  refine tk 1 hS ?_
  refine tk 2 hS ?_
  refine tk 3 hS ?_
  refine tk 4 hS ?_
  refine tk 5 hS ?_
  refine tk 6 hS ?_
  refine tk 7 hS ?_
  refine tk 8 hS ?_
  refine tk 9 hS ?_
  refine tk 10 hS ?_
  refine tk 12 hS ?_
  refine tk 13 hS ?_
  refine tk 14 hS ?_
  refine any_one 11 rfl (by kernel_rfl) (by rfl) (λK hK=>?_)
  have hSS:_:=hS
  clear hS
  go_simp
  refine hK.out _ _ (hSS) (λhS=>?_)
  clear hK
  (try simp only[Act.put,sT])
  refine tk 15 hS ?_
  refine tk 16 hS ?_
  refine any_one 17 rfl (by kernel_rfl) (by rfl) (λK hK=>?_)
  have hSS:_:=hS
  clear hS
  go_simp
  refine hK.out _ _ (HZ.out) (λhS=>?_)
  clear hK
  (try simp only[Act.put])
  refine wpAnyH_done (by kernel_rfl) ?_ _
  refine NoPanic.normal ?_
  rw[HVV.out]
  have hdw:Below V13.heap.size V13 V13.drew:=(Below.refl _ _).drew
  have KP:=fput_any V13.drew F2 Af (HV.out.1.below hdw).seen HF2.out.2.2.2.2.2.1
  have e1:putR F2=putL F2:=if_pos HF2.out.2.2.2.2.1
  have e2:putE F2=0:=if_pos HF2.out.2.2.2.2.1
  rw[e1,e2] at KP
  have HLF:Hid ((Instr.loadAt 41 (.pointer (some ⟨w13.heap.size,0,none⟩))).run Tryz.prog V13.drew=.ok (.agg (frC F2 Af)) V13.drew):=(HV.out.1.below hdw).at'.loads
  obtain⟨b2,hb2⟩:∃ b2,b2=putL F2:=⟨_,rfl⟩
  rw[<-hb2] at KP
  have hgp:=get_put F2 HF2.out.2.2.2.2.2.1 HF2.out.2.2.2.2.1
  have HB2:Hid (getE b2=0/\getF b2=F2/\b2.length<=53):=⟨by rw[hb2];exact hgp.1,by rw[hb2];exact hgp.2,by rw[hb2];exact(put_len _ HF2.out.2.2.2.2.1).2.1⟩
  have HDW:Hid (Below V13.heap.size V13 V13.drew):=hdw
  clear hS hS0 HZ e1 e2 hdw hb2 hgp f12 cx0 HST13 ey d1 d2 d3 wD wj wE
  go_wp2_with (first|(refine wpList_gload_run rfl 41 _ rfl _ _ rfl HLF.out ?_)|fail)
  refine KP.mono ?_
  rintro e w15 ⟨dp,cp,rfl,hsp,hb15⟩
  have hb1:Below w12.heap.size w12 w15:=HV.out.2.1.trans ((HDW.out.trans hb15).mono HV.out.2.1.size)
  have HX15:Hid (Full w15 g 16 last/\TL w w15 T (hrR last) 64 g w13.heap.size/\PnAt w15 w10.heap.size ⟨1,0,hi,1,0,0,k0⟩ za zc/\Sees w15 dp cp b2):=
   ⟨(Full.kp g 16 _).below H12.out.1 hb1,H12.out.2.1.box hb1 H13.out.2.2.2.2.2.2.2.1 (Nat.lt_of_lt_of_le HV.out.2.2 (HDW.out.trans hb15).size),H12.out.2.2.1.below hb1,hsp⟩
  obtain⟨M,hM⟩:∃ M:Int,M=1100+hi:=⟨_,rfl⟩
  have wM:IntKind.i64.wrap M=M:=by have:=O.out.hi0;have:=O.out.hi1;rw[IntKind.wrap_i64];omega
  have eM:1100+hi=M:=hM.symm
  have z2:w15.cell? ⟨w10.heap.size,2,none⟩=some (.int .i64 hi):=by rw[cell_of_row w15 _ 2 _ _ _ HX15.out.2.2.1];rfl
  obtain⟨o1,o2⟩:=hr_offer (last:=last) HN.out.1 HN.out.2.1 (M:=M) HB2.out.1 HB2.out.2.1 HF2.out.1 HF2.out.2.1 HF2.out.2.2.1 HF2.out.2.2.2.1 HB2.out.2.2 (by have:=O.out.hi0;omega) (by have:=O.out.hi1;omega)
  have KO:=HX15.out.2.1.offer H00.out.2.2.2.2.1 (by omega) (by show (0:Nat)<=1000000;decide) dp cp b2 HX15.out.2.2.2 (by have:=HB2.out.2.2;omega) M
  rw[o1,o2] at KO
  clear KP hsp hb15 hb1 hM o1 o2 HLF
  go_wp2_with fail
  refine KO.mono ?_
  rintro e w16 ⟨rfl,hT16,hk16⟩
  have hFu:=hk16.full HX15.out.1
  obtain⟨q2,e2,s2⟩:=hFu.at (j:=n) (by have:=HN.out.2.1;omega)
  rw[<-HN.out.2.2.1] at s2
  obtain⟨t1,t2⟩:=hr_tell HLA.out HN.out.1 HN.out.2.1 HB2.out.2.1 HF2.out.2.2.2.1 HN.out.2.2.1
  rw[HF2.out.2.2.2.2.2.2] at t2
  have KT:=hT16.tell H00.out.2.2.2.2.1 (by omega) 1 (n:Int) q2.1 q2.2 key s2 (by rw[HN.out.2.2.2];omega)
  rw[t1,t2,HN.out.2.2.2] at KT
  clear KO hT16 hk16 hFu s2 t1 t2 z2 wM eM
  go_wp2_with fail
  refine KT.mono ?_
  rintro e w17 ⟨vo,rfl,hfr,hT17,hk17⟩
  obtain⟨oa,oc,rfl⟩:=hfr.shape
  have hS0:Below w.heap.size w w17.drew:=hT17.bel.drew
  clear KT hfr hT17 hk17 e2
  go_upto_region 27 with fail
  refine wp_region_noPanic ?_
  refine wp_region_held (S:=λV=>Below w.heap.size w V) (by kernel_rfl) ?_
  have hS:=hS0
  refine tk 0 hS ?_
  refine tk 1 hS ?_
  refine tq 2 hS ?_
  refine tq 3 hS ?_
  refine tq 4 hS ?_
  refine tq 5 hS ?_
  refine tq 6 hS ?_
  refine tk 7 hS ?_
  refine tk 8 hS ?_
  refine any_one 9 rfl (by kernel_rfl) (by rfl) (λK hK=>?_)
  have hSS:_:=hS
  clear hS
  go_simp
  refine(HAW.out _ hSS).mono ?_
  rintro ev w18 ⟨rfl,hb18⟩
  refine hK.out _ _ (hb18) (λhS=>?_)
  clear hK
  (try simp only[Act.put,sT])
  refine tk 10 hS ?_
  refine tk 11 hS ?_
  refine wpAnyH_done (by kernel_rfl) ?_ _
  refine NoPanic.normal ?_
  have HE:Hid _:=hS
  clear hS hS0
  go_wp2
  go_ret
  exact⟨by simp,HE.out⟩
end Go.Proofs.YthogohkieiogiaaGreatDoor
