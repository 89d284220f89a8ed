/- A helper. -/
import Derived.Test.YtmffplhaclnehaaGreatDoorFrameD
namespace Go.Proofs.YtmffplhaclnehaaGreatDoor
set_option maxRecDepth 20000
set_option maxHeartbeats 6400000
open Go.ChangeShapes Go.WideShapes Go.ChangeAt Go.RowKit
theorem ag.len' {w:World}{a:Option Addr}{cap:Nat}{l:List UInt8}(h:ag w a cap l):l.length<=9223372036854775807:=by
 have:=h.fits;have:=h.room;unfold maxLen at this;omega
def ow (F:Fr):Bool:=iY F.f 7&&((F.tag.length:Int)==8)&&iY F.e 65535&&iY F.i 256&&iY F.r 1048576&&iY F.s 1048576&&iY F.v 255&&decide (0<=F.m)&&decide (F.m<=1099511627776)&&decide ((F.body.length:Int)<=16)
def uQ (F:Fr):Bool:=(F.e==0)&&(F.i==0)&&((F.key.length:Int)==0)
def qO (F:Fr):Bool:=(F.r==0)&&(F.v==0)&&((F.body.length:Int)==0)
def mH (F:Fr):Bool:=iY F.t 7&&(F.t != F.f)
def kZ (F:Fr):Bool:=
 if F.k=1 then ow F&&((F.key.length:Int)==16)&&(F.t==0)&&((F.n:Int)==0)&&(F.m==0)&&(F.s==0)
 else if F.k=2 then ow F&&mH F&&uQ F&&qO F&&(F.m==0)&&(F.s==0)
 else if F.k=3 then ow F&&mH F&&qO F&&((F.key.length:Int)==16)
 else false
theorem Co (F:Fr):kZ F=dw F:=by
 unfold kZ dw bH si
 by_cases k1:F.k=1
 ·rw[if_pos k1,if_pos k1,Bool.eq_iff_iff]
  simp only[ow,iY,Bool.and_eq_true,decide_eq_true_eq,beq_iff_eq]
  omega
 ·rw[if_neg k1,if_neg k1]
  by_cases k2:F.k=2
  ·rw[if_pos k2,if_pos k2,Bool.eq_iff_iff]
   simp only[ow,mH,uQ,qO,iY,Bool.and_eq_true,decide_eq_true_eq,beq_iff_eq,bne_iff_ne,ne_eq]
   omega
  ·rw[if_neg k2,if_neg k2]
   by_cases k3:F.k=3
   ·rw[if_pos k3,if_pos k3,Bool.eq_iff_iff]
    simp only[ow,mH,qO,iY,Bool.and_eq_true,decide_eq_true_eq,beq_iff_eq,bne_iff_ne,ne_eq]
    omega
   ·rw[if_neg k3,if_neg k3];simp
theorem yX (w:World)(F:Fr)(A:At)(hF:Seen w F A):Calls Tryz.prog 80 #[.agg (au F A)] w λe w'=>e=.returned (.int .i64 (if dw F=true then 0 else 1))/\Below w.heap.size w w':=by
 rw[<-Co]
 obtain⟨R,hR⟩:=ai (if kZ F=true then 0 else 1:Int)
 rw[<-hR]
 have HR:Hid (R=if kZ F=true then 0 else 1):=hR
 clear hR
 have hN:=aj.new w F A
 have p0:=hN.c0
 have p1:=hN.c1
 have p2:=hN.c2
 have p3:=hN.c3
 have p4:=hN.c4
 have p5:=hN.c5
 have p6:=hN.c6
 have p7:=hN.c7
 have p8:=hN.c8
 have p9:=hN.c9
 have p10:=hN.c10
 have p11:=hN.c11
 have Ld:=hN.c12
 have l10:=hF.key.len'
 have l11:=hF.body.len'
 have l12:=hF.tag.len'
 have HE:Hid (Below w.heap.size w (w.alloc (.cells (au F A) 61))):=Go.Joins.below_alloc1 _ _
 have CW:Hid (∀ n m,Calls Tryz.prog 135 #[.int .i64 n,.int .i64 m] (w.alloc (.cells (au F A) 61)) λe w'=>e=.returned (.bool (iY n m))/\w'=w.alloc (.cells (au F A) 61)):=λn m=>Jo _ n m
 clear hN hF
 go_enter Tryz.func80,Tryz.ntmps80
 go_upto_region 1 with fail
 generalize w.alloc (Obj.cells (au F A) 61)=W at *
 try simp only[List.append_eq,List.cons_append,List.nil_append]
 go_cut [3] (λs3 wx=>s3=.bool (ow F)/\wx=W)
 case first=>
  have hv:ow F=ow F:=rfl
  conv at hv=>rhs;unfold ow
  obtain⟨b0,h0⟩:∃ b,(iY F.f 7)=b:=⟨_,rfl⟩
  rw[h0] at hv
  obtain⟨b1,h1⟩:∃ b,((F.tag.length:Int)==8)=b:=⟨_,rfl⟩
  rw[h1] at hv
  obtain⟨b2,h2⟩:∃ b,(iY F.e 65535)=b:=⟨_,rfl⟩
  rw[h2] at hv
  obtain⟨b3,h3⟩:∃ b,(iY F.i 256)=b:=⟨_,rfl⟩
  rw[h3] at hv
  obtain⟨b4,h4⟩:∃ b,(iY F.r 1048576)=b:=⟨_,rfl⟩
  rw[h4] at hv
  obtain⟨b5,h5⟩:∃ b,(iY F.s 1048576)=b:=⟨_,rfl⟩
  rw[h5] at hv
  obtain⟨b6,h6⟩:∃ b,(iY F.v 255)=b:=⟨_,rfl⟩
  rw[h6] at hv
  obtain⟨b7,h7⟩:∃ b,(decide (0<=F.m))=b:=⟨_,rfl⟩
  rw[h7] at hv
  obtain⟨b8,h8⟩:∃ b,(decide (F.m<=1099511627776))=b:=⟨_,rfl⟩
  rw[h8] at hv
  obtain⟨b9,h9⟩:∃ b,(decide ((F.body.length:Int)<=16))=b:=⟨_,rfl⟩
  rw[h9] at hv
  have x0:=CW.out F.f 7
  rw[h0] at x0
  clear h0
  have x2:=CW.out F.e 65535
  rw[h2] at x2
  clear h2
  have x3:=CW.out F.i 256
  rw[h3] at x3
  clear h3
  have x4:=CW.out F.r 1048576
  rw[h4] at x4
  clear h4
  have x5:=CW.out F.s 1048576
  rw[h5] at x5
  clear h5
  have x6:=CW.out F.v 255
  rw[h6] at x6
  clear h6
  have HV:Hid (ow F=(b0&&b1&&b2&&b3&&b4&&b5&&b6&&b7&&b8&&b9)):=hv
  clear hv
  go_wp2_with fail
  refine x0.mono ?_
  rintro e w1 ⟨rfl,rfl⟩
  clear x0
  cases b0
  ·go_wp2_with fail
   go_meet
   exact⟨by rw[HV.out];rfl,rfl⟩
  cases b1
  ·go_wp2_with fail
   go_meet
   exact⟨by rw[HV.out];rfl,rfl⟩
  go_wp2_with fail
  refine x2.mono ?_
  rintro e w1 ⟨rfl,rfl⟩
  clear x2
  cases b2
  ·go_wp2_with fail
   go_meet
   exact⟨by rw[HV.out];rfl,rfl⟩
  go_wp2_with fail
  refine x3.mono ?_
  rintro e w1 ⟨rfl,rfl⟩
  clear x3
  cases b3
  ·go_wp2_with fail
   go_meet
   exact⟨by rw[HV.out];rfl,rfl⟩
  go_wp2_with fail
  refine x4.mono ?_
  rintro e w1 ⟨rfl,rfl⟩
  clear x4
  cases b4
  ·go_wp2_with fail
   go_meet
   exact⟨by rw[HV.out];rfl,rfl⟩
  go_wp2_with fail
  refine x5.mono ?_
  rintro e w1 ⟨rfl,rfl⟩
  clear x5
  cases b5
  ·go_wp2_with fail
   go_meet
   exact⟨by rw[HV.out];rfl,rfl⟩
  go_wp2_with fail
  refine x6.mono ?_
  rintro e w1 ⟨rfl,rfl⟩
  clear x6
  cases b6
  ·go_wp2_with fail
   go_meet
   exact⟨by rw[HV.out];rfl,rfl⟩
  cases b7
  ·go_wp2_with fail
   go_meet
   exact⟨by rw[HV.out];rfl,rfl⟩
  cases b8
  ·go_wp2_with fail
   go_meet
   exact⟨by rw[HV.out];rfl,rfl⟩
  cases b9
  ·go_wp2_with fail
   go_meet
   exact⟨by rw[HV.out];rfl,rfl⟩
  go_wp2_with fail
  go_meet
  exact⟨by rw[HV.out];rfl,rfl⟩
 case rest=>
 obtain⟨rfl,rfl⟩:=hcut
 go_upto_region 2 with fail
 go_cut [4] (λs4 wx=>s4=.bool (uQ F)/\wx=wc)
 case first=>
  have hv:uQ F=uQ F:=rfl
  conv at hv=>rhs;unfold uQ
  obtain⟨b0,h0⟩:∃ b,(F.e==0)=b:=⟨_,rfl⟩
  rw[h0] at hv
  obtain⟨b1,h1⟩:∃ b,(F.i==0)=b:=⟨_,rfl⟩
  rw[h1] at hv
  obtain⟨b2,h2⟩:∃ b,((F.key.length:Int)==0)=b:=⟨_,rfl⟩
  rw[h2] at hv
  have HV:Hid (uQ F=(b0&&b1&&b2)):=hv
  clear hv
  cases b0
  ·go_wp2_with fail
   go_meet
   exact⟨by rw[HV.out];rfl,rfl⟩
  cases b1
  ·go_wp2_with fail
   go_meet
   exact⟨by rw[HV.out];rfl,rfl⟩
  cases b2
  ·go_wp2_with fail
   go_meet
   exact⟨by rw[HV.out];rfl,rfl⟩
  go_wp2_with fail
  go_meet
  exact⟨by rw[HV.out];rfl,rfl⟩
 case rest=>
 obtain⟨rfl,rfl⟩:=hcut
 go_upto_region 3 with fail
 go_cut [5] (λs5 wx=>s5=.bool (qO F)/\wx=wc)
 case first=>
  have hv:qO F=qO F:=rfl
  conv at hv=>rhs;unfold qO
  obtain⟨b0,h0⟩:∃ b,(F.r==0)=b:=⟨_,rfl⟩
  rw[h0] at hv
  obtain⟨b1,h1⟩:∃ b,(F.v==0)=b:=⟨_,rfl⟩
  rw[h1] at hv
  obtain⟨b2,h2⟩:∃ b,((F.body.length:Int)==0)=b:=⟨_,rfl⟩
  rw[h2] at hv
  have HV:Hid (qO F=(b0&&b1&&b2)):=hv
  clear hv
  cases b0
  ·go_wp2_with fail
   go_meet
   exact⟨by rw[HV.out];rfl,rfl⟩
  cases b1
  ·go_wp2_with fail
   go_meet
   exact⟨by rw[HV.out];rfl,rfl⟩
  cases b2
  ·go_wp2_with fail
   go_meet
   exact⟨by rw[HV.out];rfl,rfl⟩
  go_wp2_with fail
  go_meet
  exact⟨by rw[HV.out];rfl,rfl⟩
 case rest=>
 obtain⟨rfl,rfl⟩:=hcut
 go_upto_region 4 with fail
 go_cut [6] (λs6 wx=>s6=.bool (mH F)/\wx=wc)
 case first=>
  have hv:mH F=mH F:=rfl
  conv at hv=>rhs;unfold mH
  obtain⟨b0,h0⟩:∃ b,(iY F.t 7)=b:=⟨_,rfl⟩
  rw[h0] at hv
  obtain⟨b1,h1⟩:∃ b,(F.t != F.f)=b:=⟨_,rfl⟩
  rw[h1] at hv
  have x0:=CW.out F.t 7
  rw[h0] at x0
  clear h0
  have HV:Hid (mH F=(b0&&b1)):=hv
  clear hv
  go_wp2_with fail
  refine x0.mono ?_
  rintro e w1 ⟨rfl,rfl⟩
  clear x0
  cases b0
  ·go_wp2_with fail
   go_meet
   exact⟨by rw[HV.out];rfl,rfl⟩
  cases b1
  ·go_wp2_with fail
   go_meet
   exact⟨by rw[HV.out];rfl,rfl⟩
  go_wp2_with fail
  go_meet
  exact⟨by rw[HV.out];rfl,rfl⟩
 case rest=>
 obtain⟨rfl,rfl⟩:=hcut
 have hv:kZ F=kZ F:=rfl
 conv at hv=>rhs;unfold kZ
 generalize ow F=bf at *
 generalize uQ F=bt at *
 generalize qO F=bd at *
 generalize mH F=bp at *
 by_cases k1:F.k=1
 ·rw[if_pos k1] at hv
  have g1:(F.k==1)=true:=by simp[k1]
  clear k1
  obtain⟨c1,hc1⟩:∃ b,((F.key.length:Int)==16)=b:=⟨_,rfl⟩
  rw[hc1] at hv
  obtain⟨c2,hc2⟩:∃ b,(F.t==0)=b:=⟨_,rfl⟩
  rw[hc2] at hv
  obtain⟨c3,hc3⟩:∃ b,((F.n:Int)==0)=b:=⟨_,rfl⟩
  rw[hc3] at hv
  obtain⟨c4,hc4⟩:∃ b,(F.m==0)=b:=⟨_,rfl⟩
  rw[hc4] at hv
  obtain⟨c5,hc5⟩:∃ b,(F.s==0)=b:=⟨_,rfl⟩
  rw[hc5] at hv
  have HV:Hid (kZ F=(bf&&c1&&c2&&c3&&c4&&c5)):=hv
  clear hv
  cases bf
  ·go_wp2_with fail
   go_ret
   exact⟨by rw[HR.out,HV.out];rfl,HE.out⟩
  cases c1
  ·go_wp2_with fail
   go_ret
   exact⟨by rw[HR.out,HV.out];rfl,HE.out⟩
  cases c2
  ·go_wp2_with fail
   go_ret
   exact⟨by rw[HR.out,HV.out];rfl,HE.out⟩
  cases c3
  ·go_wp2_with fail
   go_ret
   exact⟨by rw[HR.out,HV.out];rfl,HE.out⟩
  cases c4
  ·go_wp2_with fail
   go_ret
   exact⟨by rw[HR.out,HV.out];rfl,HE.out⟩
  cases c5
  ·go_wp2_with fail
   go_ret
   exact⟨by rw[HR.out,HV.out];rfl,HE.out⟩
  go_wp2_with fail
  go_ret
  exact⟨by rw[HR.out,HV.out];rfl,HE.out⟩
 ·rw[if_neg k1] at hv
  have g1:(F.k==1)=false:=by simp[k1]
  clear k1
  by_cases k2:F.k=2
  ·rw[if_pos k2] at hv
   have g2:(F.k==2)=true:=by simp[k2]
   clear k2
   obtain⟨c1,hc1⟩:∃ b,(F.m==0)=b:=⟨_,rfl⟩
   rw[hc1] at hv
   obtain⟨c2,hc2⟩:∃ b,(F.s==0)=b:=⟨_,rfl⟩
   rw[hc2] at hv
   have HV:Hid (kZ F=(bf&&bp&&bt&&bd&&c1&&c2)):=hv
   clear hv
   cases bf
   ·go_wp2_with fail
    go_ret
    exact⟨by rw[HR.out,HV.out];rfl,HE.out⟩
   cases bp
   ·go_wp2_with fail
    go_ret
    exact⟨by rw[HR.out,HV.out];rfl,HE.out⟩
   cases bt
   ·go_wp2_with fail
    go_ret
    exact⟨by rw[HR.out,HV.out];rfl,HE.out⟩
   cases bd
   ·go_wp2_with fail
    go_ret
    exact⟨by rw[HR.out,HV.out];rfl,HE.out⟩
   cases c1
   ·go_wp2_with fail
    go_ret
    exact⟨by rw[HR.out,HV.out];rfl,HE.out⟩
   cases c2
   ·go_wp2_with fail
    go_ret
    exact⟨by rw[HR.out,HV.out];rfl,HE.out⟩
   go_wp2_with fail
   go_ret
   exact⟨by rw[HR.out,HV.out];rfl,HE.out⟩
  ·rw[if_neg k2] at hv
   have g2:(F.k==2)=false:=by simp[k2]
   clear k2
   by_cases k3:F.k=3
   ·rw[if_pos k3] at hv
    have g3:(F.k==3)=true:=by simp[k3]
    clear k3
    obtain⟨c1,hc1⟩:∃ b,((F.key.length:Int)==16)=b:=⟨_,rfl⟩
    rw[hc1] at hv
    have HV:Hid (kZ F=(bf&&bp&&bd&&c1)):=hv
    clear hv
    cases bf
    ·go_wp2_with fail
     go_ret
     exact⟨by rw[HR.out,HV.out];rfl,HE.out⟩
    cases bp
    ·go_wp2_with fail
     go_ret
     exact⟨by rw[HR.out,HV.out];rfl,HE.out⟩
    cases bd
    ·go_wp2_with fail
     go_ret
     exact⟨by rw[HR.out,HV.out];rfl,HE.out⟩
    cases c1
    ·go_wp2_with fail
     go_ret
     exact⟨by rw[HR.out,HV.out];rfl,HE.out⟩
    go_wp2_with fail
    go_ret
    exact⟨by rw[HR.out,HV.out];rfl,HE.out⟩
   ·rw[if_neg k3] at hv
    have g3:(F.k==3)=false:=by simp[k3]
    clear k3
    have HV:Hid (kZ F=false):=hv
    clear hv
    go_wp2_with fail
    go_ret
    exact⟨by rw[HR.out,HV.out];rfl,HE.out⟩
end Go.Proofs.YtmffplhaclnehaaGreatDoor
