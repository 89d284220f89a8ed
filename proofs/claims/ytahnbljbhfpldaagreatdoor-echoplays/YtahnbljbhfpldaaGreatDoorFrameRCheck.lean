/-
  The contract of the document's Check.
-/
import Derived.Test.YtahnbljbhfpldaaGreatDoorFrameD
import Derived.Deep.DeepCutAuto
namespace Go.Proofs.YtahnbljbhfpldaaGreatDoor
set_option maxRecDepth 20000
set_option maxHeartbeats 6400000
open Go.ChangeShapes Go.WideShapes Go.ChangeAt Go.RowKit
theorem Sees.len' {w:World}{a:Option Addr}{cap:Nat}{l:List UInt8}(h:Sees w a cap l):l.length<=9223372036854775807:=by
 have:=h.fits;have:=h.room;unfold maxLen at this;omega
def fineN (F:Fr):Bool:=inB F.f 7&&((F.tag.length:Int)==8)&&inB F.e 65535&&inB F.i 256&&inB F.r 1048576&&inB F.s 1048576&&inB F.v 255&&decide (0<=F.m)&&decide (F.m<=1099511627776)&&decide ((F.body.length:Int)<=16)
def toldN (F:Fr):Bool:=(F.e==0)&&(F.i==0)&&((F.key.length:Int)==0)
def dataN (F:Fr):Bool:=(F.r==0)&&(F.v==0)&&((F.body.length:Int)==0)
def rpairN (F:Fr):Bool:=inB F.t 7&&(F.t != F.f)
def finalN (F:Fr):Bool:=
 if F.k=1 then fineN F&&((F.key.length:Int)==16)&&(F.t==0)&&((F.n:Int)==0)&&(F.m==0)&&(F.s==0)
 else if F.k=2 then fineN F&&rpairN F&&toldN F&&dataN F&&(F.m==0)&&(F.s==0)
 else if F.k=3 then fineN F&&rpairN F&&dataN F&&((F.key.length:Int)==16)
 else false
theorem final_right (F:Fr):finalN F=rightB F:=by
 unfold finalN rightB coreB numsB
 by_cases k1:F.k=1
 ·rw[if_pos k1,if_pos k1,Bool.eq_iff_iff]
  simp only[fineN,inB,Bool.and_eq_true,decide_eq_true_eq,beq_iff_eq]
  omega
 ·rw[if_neg k1,if_neg k1]
  by_cases k2:F.k=2
  ·rw[if_pos k2,if_pos k2,Bool.eq_iff_iff]
   simp only[fineN,rpairN,toldN,dataN,inB,Bool.and_eq_true,decide_eq_true_eq,beq_iff_eq,bne_iff_ne,ne_eq]
   omega
  ·rw[if_neg k2,if_neg k2]
   by_cases k3:F.k=3
   ·rw[if_pos k3,if_pos k3,Bool.eq_iff_iff]
    simp only[fineN,rpairN,dataN,inB,Bool.and_eq_true,decide_eq_true_eq,beq_iff_eq,bne_iff_ne,ne_eq]
    omega
   ·rw[if_neg k3,if_neg k3];simp
theorem rcheck_ok (w:World)(F:Fr)(A:At)(hF:Seen w F A):Calls Tryz.prog 43 #[.agg (frC F A)] w λe w'=>e=.returned (.int .i64 (if rightB F=true then 0 else 1))/\Below w.heap.size w w':=by
 rw[<-final_right]
 obtain⟨R,hR⟩:∃ R:Int,R=if finalN F=true then 0 else 1:=⟨_,rfl⟩
 rw[<-hR]
 have HR:Hid (R=if finalN F=true then 0 else 1):=hR
 clear hR
 have hN:=FrAt.new w F A
 have p0:=hN.c0
 have p1:=hN.c1
 have p2:=hN.c2
 have p3:=hN.c3
 have p4:=hN.c4
 have p5:=hN.c5
 have p6:=hN.c6
 have p7:=hN.c7
 have p8:=hN.c8
 have p9:=hN.c9
 have p10:=hN.c10
 have p11:=hN.c11
 have p12:=hN.c12
 have l10:=hF.key.len'
 have l11:=hF.body.len'
 have l12:=hF.tag.len'
 have HE:Hid (Below w.heap.size w (w.alloc (.cells (frC F A) 40))):=Go.Joins.below_alloc1 _ _
 have CW:Hid (∀ n m,Calls Tryz.prog 71 #[.int .i64 n,.int .i64 m] (w.alloc (.cells (frC F A) 40)) λe w'=>e=.returned (.bool (inB n m))/\w'=w.alloc (.cells (frC F A) 40)):=λn m=>within_ok _ n m
 clear hN hF
 go_enter Tryz.func43,Tryz.ntmps43
 go_upto_region 1 with fail
 generalize w.alloc (Obj.cells (frC F A) 40)=W at *
 try simp only[List.append_eq,List.cons_append,List.nil_append]
 go_cut [3] (λs3 wx=>s3=.bool (fineN F)/\wx=W)
 case first=>
  have hv:fineN F=fineN F:=rfl
  conv at hv=>rhs;unfold fineN
  obtain⟨b0,h0⟩:∃ b,(inB F.f 7)=b:=⟨_,rfl⟩
  rw[h0] at hv
  obtain⟨b1,h1⟩:∃ b,((F.tag.length:Int)==8)=b:=⟨_,rfl⟩
  rw[h1] at hv
  obtain⟨b2,h2⟩:∃ b,(inB F.e 65535)=b:=⟨_,rfl⟩
  rw[h2] at hv
  obtain⟨b3,h3⟩:∃ b,(inB F.i 256)=b:=⟨_,rfl⟩
  rw[h3] at hv
  obtain⟨b4,h4⟩:∃ b,(inB F.r 1048576)=b:=⟨_,rfl⟩
  rw[h4] at hv
  obtain⟨b5,h5⟩:∃ b,(inB F.s 1048576)=b:=⟨_,rfl⟩
  rw[h5] at hv
  obtain⟨b6,h6⟩:∃ b,(inB F.v 255)=b:=⟨_,rfl⟩
  rw[h6] at hv
  obtain⟨b7,h7⟩:∃ b,(decide (0<=F.m))=b:=⟨_,rfl⟩
  rw[h7] at hv
  obtain⟨b8,h8⟩:∃ b,(decide (F.m<=1099511627776))=b:=⟨_,rfl⟩
  rw[h8] at hv
  obtain⟨b9,h9⟩:∃ b,(decide ((F.body.length:Int)<=16))=b:=⟨_,rfl⟩
  rw[h9] at hv
  have x0:=CW.out F.f 7
  rw[h0] at x0
  clear h0
  have x2:=CW.out F.e 65535
  rw[h2] at x2
  clear h2
  have x3:=CW.out F.i 256
  rw[h3] at x3
  clear h3
  have x4:=CW.out F.r 1048576
  rw[h4] at x4
  clear h4
  have x5:=CW.out F.s 1048576
  rw[h5] at x5
  clear h5
  have x6:=CW.out F.v 255
  rw[h6] at x6
  clear h6
  have HV:Hid (fineN F=(b0&&b1&&b2&&b3&&b4&&b5&&b6&&b7&&b8&&b9)):=hv
  clear hv
  go_wp2_with fail
  refine x0.mono ?_
  rintro e w1 ⟨rfl,rfl⟩
  clear x0
  cases b0
  ·go_wp2_with fail
   go_meet
   exact⟨by rw[HV.out];rfl,rfl⟩
  cases b1
  ·go_wp2_with fail
   go_meet
   exact⟨by rw[HV.out];rfl,rfl⟩
  go_wp2_with fail
  refine x2.mono ?_
  rintro e w1 ⟨rfl,rfl⟩
  clear x2
  cases b2
  ·go_wp2_with fail
   go_meet
   exact⟨by rw[HV.out];rfl,rfl⟩
  go_wp2_with fail
  refine x3.mono ?_
  rintro e w1 ⟨rfl,rfl⟩
  clear x3
  cases b3
  ·go_wp2_with fail
   go_meet
   exact⟨by rw[HV.out];rfl,rfl⟩
  go_wp2_with fail
  refine x4.mono ?_
  rintro e w1 ⟨rfl,rfl⟩
  clear x4
  cases b4
  ·go_wp2_with fail
   go_meet
   exact⟨by rw[HV.out];rfl,rfl⟩
  go_wp2_with fail
  refine x5.mono ?_
  rintro e w1 ⟨rfl,rfl⟩
  clear x5
  cases b5
  ·go_wp2_with fail
   go_meet
   exact⟨by rw[HV.out];rfl,rfl⟩
  go_wp2_with fail
  refine x6.mono ?_
  rintro e w1 ⟨rfl,rfl⟩
  clear x6
  cases b6
  ·go_wp2_with fail
   go_meet
   exact⟨by rw[HV.out];rfl,rfl⟩
  cases b7
  ·go_wp2_with fail
   go_meet
   exact⟨by rw[HV.out];rfl,rfl⟩
  cases b8
  ·go_wp2_with fail
   go_meet
   exact⟨by rw[HV.out];rfl,rfl⟩
  cases b9
  ·go_wp2_with fail
   go_meet
   exact⟨by rw[HV.out];rfl,rfl⟩
  go_wp2_with fail
  go_meet
  exact⟨by rw[HV.out];rfl,rfl⟩
 case rest=>
 obtain⟨rfl,rfl⟩:=hcut
 go_upto_region 2 with fail
 go_cut [4] (λs4 wx=>s4=.bool (toldN F)/\wx=wc)
 case first=>
  have hv:toldN F=toldN F:=rfl
  conv at hv=>rhs;unfold toldN
  obtain⟨b0,h0⟩:∃ b,(F.e==0)=b:=⟨_,rfl⟩
  rw[h0] at hv
  obtain⟨b1,h1⟩:∃ b,(F.i==0)=b:=⟨_,rfl⟩
  rw[h1] at hv
  obtain⟨b2,h2⟩:∃ b,((F.key.length:Int)==0)=b:=⟨_,rfl⟩
  rw[h2] at hv
  have HV:Hid (toldN F=(b0&&b1&&b2)):=hv
  clear hv
  cases b0
  ·go_wp2_with fail
   go_meet
   exact⟨by rw[HV.out];rfl,rfl⟩
  cases b1
  ·go_wp2_with fail
   go_meet
   exact⟨by rw[HV.out];rfl,rfl⟩
  cases b2
  ·go_wp2_with fail
   go_meet
   exact⟨by rw[HV.out];rfl,rfl⟩
  go_wp2_with fail
  go_meet
  exact⟨by rw[HV.out];rfl,rfl⟩
 case rest=>
 obtain⟨rfl,rfl⟩:=hcut
 go_upto_region 3 with fail
 go_cut [5] (λs5 wx=>s5=.bool (dataN F)/\wx=wc)
 case first=>
  have hv:dataN F=dataN F:=rfl
  conv at hv=>rhs;unfold dataN
  obtain⟨b0,h0⟩:∃ b,(F.r==0)=b:=⟨_,rfl⟩
  rw[h0] at hv
  obtain⟨b1,h1⟩:∃ b,(F.v==0)=b:=⟨_,rfl⟩
  rw[h1] at hv
  obtain⟨b2,h2⟩:∃ b,((F.body.length:Int)==0)=b:=⟨_,rfl⟩
  rw[h2] at hv
  have HV:Hid (dataN F=(b0&&b1&&b2)):=hv
  clear hv
  cases b0
  ·go_wp2_with fail
   go_meet
   exact⟨by rw[HV.out];rfl,rfl⟩
  cases b1
  ·go_wp2_with fail
   go_meet
   exact⟨by rw[HV.out];rfl,rfl⟩
  cases b2
  ·go_wp2_with fail
   go_meet
   exact⟨by rw[HV.out];rfl,rfl⟩
  go_wp2_with fail
  go_meet
  exact⟨by rw[HV.out];rfl,rfl⟩
 case rest=>
 obtain⟨rfl,rfl⟩:=hcut
 go_upto_region 4 with fail
 go_cut [6] (λs6 wx=>s6=.bool (rpairN F)/\wx=wc)
 case first=>
  have hv:rpairN F=rpairN F:=rfl
  conv at hv=>rhs;unfold rpairN
  obtain⟨b0,h0⟩:∃ b,(inB F.t 7)=b:=⟨_,rfl⟩
  rw[h0] at hv
  obtain⟨b1,h1⟩:∃ b,(F.t != F.f)=b:=⟨_,rfl⟩
  rw[h1] at hv
  have x0:=CW.out F.t 7
  rw[h0] at x0
  clear h0
  have HV:Hid (rpairN F=(b0&&b1)):=hv
  clear hv
  go_wp2_with fail
  refine x0.mono ?_
  rintro e w1 ⟨rfl,rfl⟩
  clear x0
  cases b0
  ·go_wp2_with fail
   go_meet
   exact⟨by rw[HV.out];rfl,rfl⟩
  cases b1
  ·go_wp2_with fail
   go_meet
   exact⟨by rw[HV.out];rfl,rfl⟩
  go_wp2_with fail
  go_meet
  exact⟨by rw[HV.out];rfl,rfl⟩
 case rest=>
 obtain⟨rfl,rfl⟩:=hcut
 have hv:finalN F=finalN F:=rfl
 conv at hv=>rhs;unfold finalN
 generalize fineN F=bf at *
 generalize toldN F=bt at *
 generalize dataN F=bd at *
 generalize rpairN F=bp at *
 by_cases k1:F.k=1
 ·rw[if_pos k1] at hv
  have g1:(F.k==1)=true:=by simp[k1]
  clear k1
  obtain⟨c1,hc1⟩:∃ b,((F.key.length:Int)==16)=b:=⟨_,rfl⟩
  rw[hc1] at hv
  obtain⟨c2,hc2⟩:∃ b,(F.t==0)=b:=⟨_,rfl⟩
  rw[hc2] at hv
  obtain⟨c3,hc3⟩:∃ b,((F.n:Int)==0)=b:=⟨_,rfl⟩
  rw[hc3] at hv
  obtain⟨c4,hc4⟩:∃ b,(F.m==0)=b:=⟨_,rfl⟩
  rw[hc4] at hv
  obtain⟨c5,hc5⟩:∃ b,(F.s==0)=b:=⟨_,rfl⟩
  rw[hc5] at hv
  have HV:Hid (finalN F=(bf&&c1&&c2&&c3&&c4&&c5)):=hv
  clear hv
  cases bf
  ·go_wp2_with fail
   go_ret
   exact⟨by rw[HR.out,HV.out];rfl,HE.out⟩
  cases c1
  ·go_wp2_with fail
   go_ret
   exact⟨by rw[HR.out,HV.out];rfl,HE.out⟩
  cases c2
  ·go_wp2_with fail
   go_ret
   exact⟨by rw[HR.out,HV.out];rfl,HE.out⟩
  cases c3
  ·go_wp2_with fail
   go_ret
   exact⟨by rw[HR.out,HV.out];rfl,HE.out⟩
  cases c4
  ·go_wp2_with fail
   go_ret
   exact⟨by rw[HR.out,HV.out];rfl,HE.out⟩
  cases c5
  ·go_wp2_with fail
   go_ret
   exact⟨by rw[HR.out,HV.out];rfl,HE.out⟩
  go_wp2_with fail
  go_ret
  exact⟨by rw[HR.out,HV.out];rfl,HE.out⟩
 ·rw[if_neg k1] at hv
  have g1:(F.k==1)=false:=by simp[k1]
  clear k1
  by_cases k2:F.k=2
  ·rw[if_pos k2] at hv
   have g2:(F.k==2)=true:=by simp[k2]
   clear k2
   obtain⟨c1,hc1⟩:∃ b,(F.m==0)=b:=⟨_,rfl⟩
   rw[hc1] at hv
   obtain⟨c2,hc2⟩:∃ b,(F.s==0)=b:=⟨_,rfl⟩
   rw[hc2] at hv
   have HV:Hid (finalN F=(bf&&bp&&bt&&bd&&c1&&c2)):=hv
   clear hv
   cases bf
   ·go_wp2_with fail
    go_ret
    exact⟨by rw[HR.out,HV.out];rfl,HE.out⟩
   cases bp
   ·go_wp2_with fail
    go_ret
    exact⟨by rw[HR.out,HV.out];rfl,HE.out⟩
   cases bt
   ·go_wp2_with fail
    go_ret
    exact⟨by rw[HR.out,HV.out];rfl,HE.out⟩
   cases bd
   ·go_wp2_with fail
    go_ret
    exact⟨by rw[HR.out,HV.out];rfl,HE.out⟩
   cases c1
   ·go_wp2_with fail
    go_ret
    exact⟨by rw[HR.out,HV.out];rfl,HE.out⟩
   cases c2
   ·go_wp2_with fail
    go_ret
    exact⟨by rw[HR.out,HV.out];rfl,HE.out⟩
   go_wp2_with fail
   go_ret
   exact⟨by rw[HR.out,HV.out];rfl,HE.out⟩
  ·rw[if_neg k2] at hv
   have g2:(F.k==2)=false:=by simp[k2]
   clear k2
   by_cases k3:F.k=3
   ·rw[if_pos k3] at hv
    have g3:(F.k==3)=true:=by simp[k3]
    clear k3
    obtain⟨c1,hc1⟩:∃ b,((F.key.length:Int)==16)=b:=⟨_,rfl⟩
    rw[hc1] at hv
    have HV:Hid (finalN F=(bf&&bp&&bd&&c1)):=hv
    clear hv
    cases bf
    ·go_wp2_with fail
     go_ret
     exact⟨by rw[HR.out,HV.out];rfl,HE.out⟩
    cases bp
    ·go_wp2_with fail
     go_ret
     exact⟨by rw[HR.out,HV.out];rfl,HE.out⟩
    cases bd
    ·go_wp2_with fail
     go_ret
     exact⟨by rw[HR.out,HV.out];rfl,HE.out⟩
    cases c1
    ·go_wp2_with fail
     go_ret
     exact⟨by rw[HR.out,HV.out];rfl,HE.out⟩
    go_wp2_with fail
    go_ret
    exact⟨by rw[HR.out,HV.out];rfl,HE.out⟩
   ·rw[if_neg k3] at hv
    have g3:(F.k==3)=false:=by simp[k3]
    clear k3
    have HV:Hid (finalN F=false):=hv
    clear hv
    go_wp2_with fail
    go_ret
    exact⟨by rw[HR.out,HV.out];rfl,HE.out⟩
end Go.Proofs.YtahnbljbhfpldaaGreatDoor
