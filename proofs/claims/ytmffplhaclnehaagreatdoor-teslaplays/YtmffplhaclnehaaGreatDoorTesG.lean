/- A helper. -/
import Derived.Test.YtmffplhaclnehaaGreatDoorTesC
import Derived.Test.YtmffplhaclnehaaGreatDoorFrameGetP
import Derived.Test.YtmffplhaclnehaaGreatDoorDisA
namespace Go.Proofs.YtmffplhaclnehaaGreatDoor
set_option maxRecDepth 20000
set_option maxHeartbeats 6400000
open Go.ChangeShapes Go.WideShapes Go.ChangeAt Go.RowKit
theorem OX {l:List UInt8}(h:iH l=0):0<=(aX l).e/\(aX l).e<=65535/\0<=(aX l).r/\(aX l).r<=1048576/\(aX l).n<18446744073709551616:=by
 obtain⟨h1,_,h3⟩:=P8 l h
 have h4:si (aX l)=true:=by
  simp only[dw,bH,Bool.and_eq_true] at h1
  exact h1.1.1.1
 obtain⟨_,_,h5,_,h6,_⟩:=(ql _).1 h4
 exact⟨h5.1,h5.2,h6.1,h6.2,h3⟩
theorem Tu (l:List UInt8):(aX l).n<18446744073709551616:=by
 by_cases h:iH l=0
 ·exact(OX h).2.2.2.2
 ·rw[pF h];decide
theorem nL (w1:World)(F:Fr)(A:At):∃ W3,(Instr.storeAt 61 (.pointer (some ⟨w1.heap.size,0,none⟩)) (.agg (au F A))).run Tryz.prog (w1.alloc (.cells #[.int .i64 0,.int .i64 0,.int .i64 0,.int .i64 0,.int .i64 0,.int .i64 0,.int .u64 0,.int .i64 0,.int .i64 0,.int .i64 0,.slice none 0 0,.slice none 0 0,.slice none 0 0] 61))=.ok () W3/\aj W3 w1.heap.size F A/\Below w1.heap.size w1 W3:=by
 have h2:aj (w1.alloc (.cells (au Fr.zero At.zero) 61)) w1.heap.size Fr.zero At.zero:=aj.new w1 _ _
 refine⟨_,h2.stores F A,h2.stored F A,?_⟩
 have hb:Below w1.heap.size w1 (w1.alloc (.cells (au Fr.zero At.zero) 61)):=(Below.refl _ _).alloc (Nat.le_refl _) _
 exact⟨hb.os,hb.tape,hb.output,by simp[World.setRow],λj hj=>by
  rw[<-hb.block j hj]
  exact setRow_other _ w1.heap.size j _ (by omega)⟩
theorem Ba (w:World)(R:Nat)(s:Rv)(n g m:Nat)(v:Value)(ka:Option Addr)(kc:Nat)(ss:List eU)(h:bY w R s n g m v ka kc ss)(hn:n<=80000000)(hlo:s.b.lost<=1000000)(x:Option Addr)(cx:Nat)(b:List UInt8)(hx:ag w x cx b)(hl:b.length<=140737488351232)(M:Int):
  Calls Tryz.prog 38 #[.pointer (some ⟨R,0,none⟩),.slice x b.length cx,.int .i64 M] w λev w'=>∃ u,ev=.returned u/\uZ u (jy s b M)/\jb w R g m v (iC s b M) (n+65) w':=by
 have KG:=GK w x cx b hx hl
 have H:Hid (bY w R s n g m v ka kc ss):=h
 have HX:Hid (ag w x cx b):=hx
 have HLT:Hid (∀ j,dG R g m v j->j<w.heap.size):=λj hj=>h.lt hj
 have hfm:Tryz.prog.follows .mixedOrders=true:=by kernel_rfl
 clear h hx hl
 go_enter Tryz.func38,Tryz.ntmps38
 go_wp2_with fail
 refine KG.mono ?_
 rintro ev w1 ⟨A,rfl,hS1,hb1⟩
 obtain⟨F,hF⟩:=ai (aX b)
 obtain⟨E,hE⟩:=ai (iH b)
 rw[<-hF] at hS1 ⊢
 rw[<-hE]
 obtain⟨W3,hst,yA,hb3⟩:=nL w1 F A
 have HST:Hid ((Instr.storeAt 61 (.pointer (some ⟨w1.heap.size,0,none⟩)) (.agg (au F A))).run Tryz.prog (w1.alloc (.cells #[.int .i64 0,.int .i64 0,.int .i64 0,.int .i64 0,.int .i64 0,.int .i64 0,.int .u64 0,.int .i64 0,.int .i64 0,.int .i64 0,.slice none 0 0,.slice none 0 0,.slice none 0 0] 61))=.ok () W3):=hst
 have HB3:Hid (Below w.heap.size w W3):=hb1.trans (hb3.mono hb1.size)
 have H3:Hid (bY W3 R s n g m v ka kc ss):=H.out.below HB3.out
 have Xx:Hid (ag W3 x cx b):=HX.out.below HB3.out
 have Dl:Hid (aj W3 w1.heap.size F A):=yA
 have Yc:Hid (¬ dG R g m v w1.heap.size):=λhO=>by have:=HLT.out _ hO;have:=hb1.size;omega
 have HE:Hid (F=aX b/\E=iH b):=⟨hF,hE⟩
 clear hst yA hb1 hb3 hS1 KG H HX hF hE
 go_upto_region 2 with (first|(refine ah rfl 61 _ _ rfl _ _ rfl rfl HST.out ?_)|fail)
 clear HST
 obtain⟨B,hB⟩:=ai w1.heap.size
 rw[<-hB] at Dl Yc ⊢
 clear hB
 have SAME:Hid (∀ W,Below W3.heap.size W3 W->jb w R g m v s (n+65) W):=λW hW=>(jb.same (H3.out.below hW) (Apart.of_below (HB3.out.trans (hW.mono HB3.out.size)))).mono (by omega)
 have Ii:Hid (∀ N:Int,(N==0)=false->jS s b M=N->jy s b M=N/\iC s b M=s):=λN hN e=>by
  have:jS s b M≠0:=by rw[e];simpa using hN
  unfold jy iC
  rw[if_pos this,if_pos this];exact⟨e,rfl⟩
 by_cases h1:E=0
 ·have HG:Hid (iH b=0):=by rw[<-HE.out.2];exact h1
  have HI:Hid (0<=F.e):=by rw[HE.out.1];exact(OX HG.out).1
  have U0:Hid (jS s b M=if F.k≠1\/F.f≠s.me then 1 else if s.ep<0\/F.e≠s.ep then 6 else if F.r<=s.last then 10 else ic s.c s.me s.st F.r M):=by
   show jS s b M=_
   unfold jS
   rw[if_neg (by simp[HG.out]),<-HE.out.1]
  rw[h1,show ((0:Nat):Int)=0 from rfl]
  clear h1
  have k0:=Dl.out.c0
  have k1:=Dl.out.c1
  have c10:W3.cell? ⟨R,10,none⟩=some (.int .i64 s.me):=H3.out.at'.cell 10 rfl
  by_cases h2:F.k=1
  ·rw[h2] at k0
   by_cases h2':F.f=s.me
   ·rw[h2'] at k1
    have U1:Hid (jS s b M=if s.ep<0\/F.e≠s.ep then 6 else if F.r<=s.last then 10 else ic s.c s.me s.st F.r M):=U0.out.trans (if_neg (by omega))
    clear h2 h2' U0
    go_wp2_with fail
    refine wp_region_noPanic ?_
    refine wp_region_held (S:=λV=>V.cell? ⟨B,0,none⟩=some (.int .i64 1)/\V.cell? ⟨B,1,none⟩=some (.int .i64 s.me)/\V.cell? ⟨R,10,none⟩=some (.int .i64 s.me)) (by kernel_rfl) ?_
    have hS:=And.intro (show W3.drew.cell? _=_ from k0) (And.intro (show W3.drew.cell? _=_ from k1) (show W3.drew.cell? _=_ from c10))
    refine tk 0 hS ?_
    refine tk 1 hS ?_
    refine tk 2 hS ?_
    refine tk 3 hS ?_
    refine tk 4 hS ?_
    refine tk 5 hS ?_
    refine tk 6 hS ?_
    refine tk 7 hS ?_
    refine tk 8 hS ?_
    refine tk 9 hS ?_
    refine tk 10 hS ?_
    refine tk 11 hS ?_
    refine tk 12 hS ?_
    refine wpAnyH_done (by kernel_rfl) (NoPanic.normal ?_) _
    clear hS k0 k1 c10
    have k3:=Dl.out.c3
    have c11:W3.cell? ⟨R,11,none⟩=some (.int .i64 s.ep):=H3.out.at'.cell 11 rfl
    by_cases h3:F.e=s.ep
    ·rw[h3] at k3
     have U2:Hid (jS s b M=if F.r<=s.last then 10 else ic s.c s.me s.st F.r M):=U1.out.trans (if_neg (by have:=HI.out;omega))
     clear h3 U1
     go_wp2_with fail
     go_region
     clear c11
     have k5:=Dl.out.c5
     have c15:W3.cell? ⟨R,15,none⟩=some (.int .i64 s.last):=H3.out.at'.cell 15 rfl
     by_cases h4:F.r<=s.last
     ·have bG:Hid (jy s b M=10/\iC s b M=s):=Ii.out 10 rfl (U2.out.trans (if_pos h4))
      clear U2 k3
      go_wp2_with fail
      go_region
      clear k5 c15
      go_wp2_with fail
      refine(aO _ 10 rfl _).mono ?_
      rintro ev w' ⟨rfl,rfl⟩
      unfold fE
      go_wp2
      go_ret
      refine⟨_,rfl,by rw[bG.out.1];exact .inr ⟨rfl,_,rfl⟩,?_⟩
      rw[bG.out.2]
      exact SAME.out _ (by repeat first|exact Below.refl _ _|apply Below.drew)
     ·have U3:Hid (jS s b M=ic s.c s.me s.st F.r M):=U2.out.trans (if_neg h4)
      have d4:decide (F.r<=s.last)=false:=decide_eq_false h4
      clear U2
      go_wp2_with fail
      go_region
      clear c15
      go_wp2_with fail
      obtain⟨W4,DR⟩:=ai W3.drew.drew.drew
      have qV:Below W3.heap.size W3 W4:=by rw[DR];exact(Below.refl _ _).drew.drew.drew
      rw[<-DR]
      have hbd:Below W4.heap.size W4 W4.drew:=(Below.refl _ _).drew
      have H4:Hid (bY W4.drew R s n g m v ka kc ss):=(H3.out.below qV).below hbd
      have Yd:Hid (aj W4.drew B F A):=(Dl.out.below qV).below hbd
      have Ye:Hid (Below W3.heap.size W3 W4.drew):=qV.trans (hbd.mono qV.size)
      have KS:=Jm W4.drew s.c s.me s.st F.r M
      have hS0:(λV=>V.cell? ⟨R,10,none⟩=some (.int .i64 s.me)/\V.cell? ⟨R,12,none⟩=some (.int .i64 s.st)/\V.cell? ⟨B,5,none⟩=some (.int .i64 F.r)/\(Instr.loadAt 23 (.pointer (some ⟨R,0,none⟩))).run Tryz.prog V=.ok (.agg (aF s.c)) V) W4.drew:=⟨H4.out.at'.cell 10 rfl,H4.out.at'.cell 12 rfl,Yd.out.c5,H4.out.at'.loads⟩
      clear DR qV hbd k3 k5 d4
      refine wp_region_noPanic ?_
      refine wp_region_held (S:=λV=>V.cell? ⟨R,10,none⟩=some (.int .i64 s.me)/\V.cell? ⟨R,12,none⟩=some (.int .i64 s.st)/\V.cell? ⟨B,5,none⟩=some (.int .i64 F.r)/\(Instr.loadAt 23 (.pointer (some ⟨R,0,none⟩))).run Tryz.prog V=.ok (.agg (aF s.c)) V) (by kernel_rfl) ?_
      have hS:=hS0
      refine tk 0 hS ?_
      refine tk 1 hS ?_
      refine tk 2 hS ?_
      refine tk 3 (v:=Value.agg (aF s.c)) (hv:=λW hW=>fZ 23 (.tmp 57) rfl _ _ rfl hW.2.2.2) hS ?_
      refine tk 4 hS ?_
      refine tk 5 hS ?_
      refine tk 6 hS ?_
      refine tk 7 hS ?_
      refine tk 8 hS ?_
      refine tk 9 hS ?_
      refine tk 10 hS ?_
      refine tk 11 hS ?_
      refine tk 12 hS ?_
      refine tk 13 hS ?_
      refine tk 14 hS ?_
      refine tk 15 hS ?_
      refine aI 16 rfl (by kernel_rfl) (by rfl) (λK hK=>?_)
      clear hS
      go_simp
      refine KS.mono ?_
      rintro ev w5 ⟨rfl,hb5⟩
      have H5:Hid (bY w5 R s n g m v ka kc ss):=H4.out.below hb5
      have Yf:Hid (aj w5 B F A):=Yd.out.below hb5
      have vH:Hid (Below W3.heap.size W3 w5):=Ye.out.trans (hb5.mono Ye.out.size)
      clear hb5 KS
      refine hK.out _ _ (⟨H5.out.at'.cell 10 rfl,H5.out.at'.cell 12 rfl,Yf.out.c5,H5.out.at'.loads⟩) (λhS=>?_)
      clear hK
      (try simp only[Act.put,sT])
      refine tk 17 hS ?_
      refine wpAnyH_done (by kernel_rfl) (NoPanic.normal ?_) _
      clear hS hS0
      by_cases hz:ic s.c s.me s.st F.r M=0
      ·have HZ:Hid (jS s b M=0):=U3.out.trans hz
       have hin:=uB hz
       have hbd:Below w5.heap.size w5 w5.drew:=(Below.refl _ _).drew
       have H6:Hid (bY w5.drew R s n g m v ka kc ss):=H5.out.below hbd
       have OY:Hid (aj w5.drew B F A):=Yf.out.below hbd
       have KI:=yR w5.drew s.c s.st F.r
       rw[show uh s.c s.st F.r=.tuple #[.int .i64 (F.r-s.st),.int .i64 0] by unfold uh;rw[if_pos hin.1,if_pos hin.2]] at KI
       have hS0:(λV=>V.cell? ⟨R,10,none⟩=some (.int .i64 s.me)/\V.cell? ⟨R,12,none⟩=some (.int .i64 s.st)/\V.cell? ⟨B,5,none⟩=some (.int .i64 F.r)/\(Instr.loadAt 23 (.pointer (some ⟨R,0,none⟩))).run Tryz.prog V=.ok (.agg (aF s.c)) V) w5.drew:=⟨H6.out.at'.cell 10 rfl,H6.out.at'.cell 12 rfl,OY.out.c5,H6.out.at'.loads⟩
       rw[hz]
       clear U3 hz hin hbd
       go_wp2_with fail
       refine wp_region_noPanic ?_
       refine wp_region_held (S:=λV=>V.cell? ⟨R,10,none⟩=some (.int .i64 s.me)/\V.cell? ⟨R,12,none⟩=some (.int .i64 s.st)/\V.cell? ⟨B,5,none⟩=some (.int .i64 F.r)/\(Instr.loadAt 23 (.pointer (some ⟨R,0,none⟩))).run Tryz.prog V=.ok (.agg (aF s.c)) V) (by kernel_rfl) ?_
       have hS:=hS0
       refine tk 0 hS ?_
       refine tk 1 hS ?_
       refine tk 2 hS ?_
       refine tk 3 (v:=Value.agg (aF s.c)) (hv:=λW hW=>fZ 23 (.tmp 79) rfl _ _ rfl hW.2.2.2) hS ?_
       refine tk 4 hS ?_
       refine tk 5 hS ?_
       refine tk 6 hS ?_
       refine tk 7 hS ?_
       refine tk 8 hS ?_
       refine tk 9 hS ?_
       refine tk 10 hS ?_
       refine aI 11 rfl (by kernel_rfl) (by rfl) (λK hK=>?_)
       clear hS
       go_simp
       refine KI.mono ?_
       rintro ev w7 ⟨rfl,Og⟩
       have H7:Hid (bY w7 R s n g m v ka kc ss):=H6.out.below Og
       have Yg:Hid (aj w7 B F A):=OY.out.below Og
       have RU:Hid (Below W3.heap.size W3 w7):=vH.out.trans (((Below.refl _ _).drew.trans Og).mono vH.out.size)
       clear Og KI
       refine hK.out _ _ (⟨H7.out.at'.cell 10 rfl,H7.out.at'.cell 12 rfl,Yg.out.c5,H7.out.at'.loads⟩) (λhS=>?_)
       clear hK
       (try simp only[Act.put,sT])
       refine tk 12 hS ?_
       refine tk 13 hS ?_
       refine tk 14 hS ?_
       refine tk 15 hS ?_
       refine tk 16 hS ?_
       refine wpAnyH_done (by kernel_rfl) (NoPanic.normal ?_) _
       clear hS hS0
       have hbd:Below w7.heap.size w7 w7.drew:=(Below.refl _ _).drew
       have H8:Hid (bY w7.drew R s n g m v ka kc ss):=H7.out.below hbd
       have Yh:Hid (aj w7.drew B F A):=Yg.out.below hbd
       have HB8:Hid (Below w.heap.size w w7.drew):=HB3.out.trans ((RU.out.trans (hbd.mono RU.out.size)).mono HB3.out.size)
       have KP:=Mo w7.drew g m v s.b ss n H8.out.buf hn hlo F.e (F.r-s.st) x cx b (Xx.out.below (RU.out.trans (hbd.mono RU.out.size)))
       have hS0:(λV=>V.cell? ⟨R,16,none⟩=some (.pointer (some ⟨g,0,none⟩))/\V.cell? ⟨B,3,none⟩=some (.int .i64 F.e)) w7.drew:=⟨H8.out.at'.c16,Yh.out.c3⟩
       have bG:Hid (jy s b M=fT s.b F.e (F.r-s.st) b/\iC s b M={ s with b:=gm s.b F.e (F.r-s.st) b }):=by
        obtain⟨_,_,_,_,_,_,_,e8,_⟩:=uC HZ.out
        unfold jy iC
        rw[if_neg (λhh=>hh HZ.out),if_neg (λhh=>hh HZ.out),e8,<-HE.out.1]
        exact⟨rfl,rfl⟩
       clear hbd
       go_wp2_with fail
       refine wp_region_noPanic ?_
       refine wp_region_held (S:=λV=>V.cell? ⟨R,16,none⟩=some (.pointer (some ⟨g,0,none⟩))/\V.cell? ⟨B,3,none⟩=some (.int .i64 F.e)) (by kernel_rfl) ?_
       have hS:=hS0
       refine tk 0 hS ?_
       refine tk 1 hS ?_
       refine tk 2 hS ?_
       refine tk 3 hS ?_
       refine tk 4 hS ?_
       refine tk 5 hS ?_
       refine tk 6 hS ?_
       refine tk 7 hS ?_
       refine aI 8 rfl (by kernel_rfl) (by rfl) (λK hK=>?_)
       clear hS
       go_simp
       refine KP.mono ?_
       rintro ev w9 ⟨rfl,Yi⟩
       have HG9:Hid (jb w7.drew R g m v { s with b:=gm s.b F.e (F.r-s.st) b } (n+65) w9):=eZ.go H8.out Yi
       obtain⟨v9,ss9,yI,Vg,ho9⟩:=Yi
       have VE:=(Vg.block R H8.out.at'.lt H8.out.ne).trans H8.out.at'
       have BL:w9.cell? ⟨B,3,none⟩=some (.int .i64 F.e):=Vg.cell Yh.out.c3 λhO=>Yc.out (.inr hO)
       clear Vg ho9 yI KP
       refine hK.out _ _ (⟨rW.c16 VE,BL⟩) (λhS=>?_)
       clear hK
       (try simp only[Act.put,sT])
       refine aI 9 rfl (by kernel_rfl) (by rfl) (λK hK=>?_)
       clear hS
       go_simp
       refine(Dk _ _ _).mono ?_
       rintro ev w10 ⟨u,rfl,hER,Zo⟩
       subst Zo
       have HER:Hid (uZ u (fT s.b F.e (F.r-s.st) b)):=hER
       clear hER
       refine hK.out _ _ (⟨rW.c16 VE,BL⟩) (λhS=>?_)
       clear hK
       (try simp only[Act.put,sT])
       refine tk 10 hS ?_
       refine wpAnyH_done (by kernel_rfl) (NoPanic.normal ?_) _
       clear hS hS0 VE BL
       go_wp2
       go_ret
       refine⟨_,rfl,by rw[bG.out.1];exact HER.out,?_⟩
       rw[bG.out.2]
       exact jb.behind HB8.out HG9.out
      ·have d:(ic s.c s.me s.st F.r M==0)=false:=by simpa using hz
       have bG:Hid (jy s b M=ic s.c s.me s.st F.r M/\iC s b M=s):=Ii.out _ d U3.out
       clear U3
       go_wp2_with fail
       refine(aO _ _ d _).mono ?_
       rintro ev w' ⟨rfl,rfl⟩
       unfold fE
       go_wp2
       go_ret
       refine⟨_,rfl,by rw[bG.out.1];exact .inr ⟨d,_,rfl⟩,?_⟩
       rw[bG.out.2]
       exact SAME.out _ vH.out
    ·have d3:(F.e==s.ep)=false:=by simpa using h3
     have bG:Hid (jy s b M=6/\iC s b M=s):=Ii.out 6 rfl (U1.out.trans (if_pos (.inr h3)))
     clear U1
     go_wp2_with fail
     go_region
     clear c11 k3
     go_wp2_with fail
     refine(aO _ 6 rfl _).mono ?_
     rintro ev w' ⟨rfl,rfl⟩
     unfold fE
     go_wp2
     go_ret
     refine⟨_,rfl,by rw[bG.out.1];exact .inr ⟨rfl,_,rfl⟩,?_⟩
     rw[bG.out.2]
     exact SAME.out _ (by repeat first|exact Below.refl _ _|apply Below.drew)
   ·have d2:(F.f==s.me)=false:=by simpa using h2'
    have bG:Hid (jy s b M=1/\iC s b M=s):=Ii.out 1 rfl (U0.out.trans (if_pos (.inr h2')))
    clear h2 U0
    go_wp2_with fail
    refine wp_region_noPanic ?_
    refine wp_region_held (S:=λV=>V.cell? ⟨B,0,none⟩=some (.int .i64 1)/\V.cell? ⟨B,1,none⟩=some (.int .i64 F.f)/\V.cell? ⟨R,10,none⟩=some (.int .i64 s.me)) (by kernel_rfl) ?_
    have hS:=And.intro (show W3.drew.cell? _=_ from k0) (And.intro (show W3.drew.cell? _=_ from k1) (show W3.drew.cell? _=_ from c10))
    refine tk 0 hS ?_
    refine tk 1 hS ?_
    refine tk 2 hS ?_
    refine tk 3 hS ?_
    refine tk 4 hS ?_
    refine tk 5 hS ?_
    refine tk 6 hS ?_
    refine tk 7 hS ?_
    refine tk 8 hS ?_
    refine tk 9 hS ?_
    refine tk 10 hS ?_
    refine tk 11 hS ?_
    refine tk 12 hS ?_
    refine wpAnyH_done (by kernel_rfl) (NoPanic.normal ?_) _
    clear hS k0 k1 c10
    go_wp2_with fail
    refine(aO _ 1 rfl _).mono ?_
    rintro ev w' ⟨rfl,rfl⟩
    unfold fE
    go_wp2
    go_ret
    refine⟨_,rfl,by rw[bG.out.1];exact .inr ⟨rfl,_,rfl⟩,?_⟩
    rw[bG.out.2]
    exact SAME.out _ (by repeat first|exact Below.refl _ _|apply Below.drew)
  ·have d1:(F.k==1)=false:=by simpa using h2
   have bG:Hid (jy s b M=1/\iC s b M=s):=Ii.out 1 rfl (U0.out.trans (if_pos (.inl h2)))
   clear U0
   go_wp2_with fail
   refine wp_region_noPanic ?_
   refine wp_region_held (S:=λV=>V.cell? ⟨B,0,none⟩=some (.int .i64 F.k)/\V.cell? ⟨B,1,none⟩=some (.int .i64 F.f)/\V.cell? ⟨R,10,none⟩=some (.int .i64 s.me)) (by kernel_rfl) ?_
   have hS:=And.intro (show W3.drew.cell? _=_ from k0) (And.intro (show W3.drew.cell? _=_ from k1) (show W3.drew.cell? _=_ from c10))
   refine tk 0 hS ?_
   refine tk 1 hS ?_
   refine tk 2 (v:=Value.bool true) (hv:=by intro w hSw;go_simp;first|done|simpa using h2) hS ?_
   refine tk 3 hS ?_
   refine tq 4 hS ?_
   refine tq 5 hS ?_
   refine tq 6 hS ?_
   refine tq 7 hS ?_
   refine tq 8 hS ?_
   refine tq 9 hS ?_
   refine tq 10 hS ?_
   refine tk 11 hS ?_
   refine tk 12 hS ?_
   refine wpAnyH_done (by kernel_rfl) (NoPanic.normal ?_) _
   clear hS k0 k1 c10
   go_wp2_with fail
   refine(aO _ 1 rfl _).mono ?_
   rintro ev w' ⟨rfl,rfl⟩
   unfold fE
   go_wp2
   go_ret
   refine⟨_,rfl,by rw[bG.out.1];exact .inr ⟨rfl,_,rfl⟩,?_⟩
   rw[bG.out.2]
   exact SAME.out _ (by repeat first|exact Below.refl _ _|apply Below.drew)
 ·have d:((E:Int)==0)=false:=by simp;omega
  have bG:Hid (jy s b M=E/\iC s b M=s):=Ii.out E d (by unfold jS;rw[if_pos (by rw[<-HE.out.2];omega),HE.out.2])
  clear h1
  go_wp2_with fail
  refine(aO _ E d _).mono ?_
  rintro ev w' ⟨rfl,rfl⟩
  unfold fE
  go_wp2
  go_ret
  refine⟨_,rfl,by rw[bG.out.1];exact .inr ⟨d,_,rfl⟩,?_⟩
  rw[bG.out.2]
  exact SAME.out _ (by repeat first|exact Below.refl _ _|apply Below.drew)
end Go.Proofs.YtmffplhaclnehaaGreatDoor
