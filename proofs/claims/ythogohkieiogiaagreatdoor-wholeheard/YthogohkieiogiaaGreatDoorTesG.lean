/-
  The program's receiver: a frame is offered.
-/
import Derived.Test.YthogohkieiogiaaGreatDoorTesC
import Derived.Test.YthogohkieiogiaaGreatDoorFrameGetP
import Derived.Test.YthogohkieiogiaaGreatDoorDisA
namespace Go.Proofs.YthogohkieiogiaaGreatDoor
set_option maxRecDepth 20000
set_option maxHeartbeats 6400000
open Go.ChangeShapes Go.WideShapes Go.ChangeAt Go.RowKit
theorem get_in {l:List UInt8}(h:getE l=0):0<=(getF l).e/\(getF l).e<=65535/\0<=(getF l).r/\(getF l).r<=1048576/\(getF l).n<18446744073709551616:=by
 obtain⟨h1,_,h3⟩:=put_get l h
 have h4:numsB (getF l)=true:=by
  simp only[rightB,coreB,Bool.and_eq_true] at h1
  exact h1.1.1.1
 obtain⟨_,_,h5,_,h6,_⟩:=(numsB_iff _).1 h4
 exact⟨h5.1,h5.2,h6.1,h6.2,h3⟩
theorem get_n (l:List UInt8):(getF l).n<18446744073709551616:=by
 by_cases h:getE l=0
 ·exact(get_in h).2.2.2.2
 ·rw[getF_bad h];decide
theorem fr_stored (w1:World)(F:Fr)(A:At):∃ W3,(Instr.storeAt 41 (.pointer (some ⟨w1.heap.size,0,none⟩)) (.agg (frC F A))).run Tryz.prog (w1.alloc (.cells #[.int .i64 0,.int .i64 0,.int .i64 0,.int .i64 0,.int .i64 0,.int .i64 0,.int .u64 0,.int .i64 0,.int .i64 0,.int .i64 0,.slice none 0 0,.slice none 0 0,.slice none 0 0] 41))=.ok () W3/\FrAt W3 w1.heap.size F A/\Below w1.heap.size w1 W3:=by
 have h2:FrAt (w1.alloc (.cells (frC Fr.zero At.zero) 41)) w1.heap.size Fr.zero At.zero:=FrAt.new w1 _ _
 refine⟨_,h2.stores F A,h2.stored F A,?_⟩
 have hb:Below w1.heap.size w1 (w1.alloc (.cells (frC Fr.zero At.zero) 41)):=(Below.refl _ _).alloc (Nat.le_refl _) _
 exact⟨hb.os,hb.tape,hb.output,by simp[World.setRow],λj hj=>by
  rw[<-hb.block j hj]
  exact setRow_other _ w1.heap.size j _ (by omega)⟩
theorem toffered_any (w:World)(R:Nat)(s:Rv)(n g m:Nat)(v:Value)(ka:Option Addr)(kc:Nat)(ss:List BSl)(h:PAll w R s n g m v ka kc ss)(hn:n<=80000000)(hlo:s.b.lost<=1000000)(x:Option Addr)(cx:Nat)(b:List UInt8)(hx:Sees w x cx b)(hl:b.length<=140737488351232)(M:Int):
  Calls Tryz.prog 48 #[.pointer (some ⟨R,0,none⟩),.slice x b.length cx,.int .i64 M] w λev w'=>∃ u,ev=.returned u/\ErrIs u (offE s b M)/\PGo w R g m v (offV s b M) (n+65) w':=by
 have KG:=get_any w x cx b hx hl
 have H:Hid (PAll w R s n g m v ka kc ss):=h
 have HX:Hid (Sees w x cx b):=hx
 have HLT:Hid (∀ j,POwn R g m v j->j<w.heap.size):=λj hj=>h.lt hj
 have hfm:Tryz.prog.follows .mixedOrders=true:=by kernel_rfl
 clear h hx hl
 go_enter Tryz.func48,Tryz.ntmps48
 go_wp2_with fail
 refine KG.mono ?_
 rintro ev w1 ⟨A,rfl,hS1,hb1⟩
 obtain⟨F,hF⟩:∃ F,F=getF b:=⟨_,rfl⟩
 obtain⟨E,hE⟩:∃ E,E=getE b:=⟨_,rfl⟩
 rw[<-hF] at hS1 ⊢
 rw[<-hE]
 obtain⟨W3,hst,hFr,hb3⟩:=fr_stored w1 F A
 have HST:Hid ((Instr.storeAt 41 (.pointer (some ⟨w1.heap.size,0,none⟩)) (.agg (frC F A))).run Tryz.prog (w1.alloc (.cells #[.int .i64 0,.int .i64 0,.int .i64 0,.int .i64 0,.int .i64 0,.int .i64 0,.int .u64 0,.int .i64 0,.int .i64 0,.int .i64 0,.slice none 0 0,.slice none 0 0,.slice none 0 0] 41))=.ok () W3):=hst
 have HB3:Hid (Below w.heap.size w W3):=hb1.trans (hb3.mono hb1.size)
 have H3:Hid (PAll W3 R s n g m v ka kc ss):=H.out.below HB3.out
 have HX3:Hid (Sees W3 x cx b):=HX.out.below HB3.out
 have HFr:Hid (FrAt W3 w1.heap.size F A):=hFr
 have HNB:Hid (¬ POwn R g m v w1.heap.size):=λhO=>by have:=HLT.out _ hO;have:=hb1.size;omega
 have HE:Hid (F=getF b/\E=getE b):=⟨hF,hE⟩
 clear hst hFr hb1 hb3 hS1 KG H HX hF hE
 go_upto_region 2 with (first|(refine wpList_store_run rfl 41 _ _ rfl _ _ rfl rfl HST.out ?_)|fail)
 clear HST
 obtain⟨B,hB⟩:∃ B,B=w1.heap.size:=⟨_,rfl⟩
 rw[<-hB] at HFr HNB ⊢
 clear hB
 have SAME:Hid (∀ W,Below W3.heap.size W3 W->PGo w R g m v s (n+65) W):=λW hW=>(PGo.same (H3.out.below hW) (Apart.of_below (HB3.out.trans (hW.mono HB3.out.size)))).mono (by omega)
 have REF:Hid (∀ N:Int,(N==0)=false->offB s b M=N->offE s b M=N/\offV s b M=s):=λN hN e=>by
  have:offB s b M≠0:=by rw[e];simpa using hN
  unfold offE offV
  rw[if_pos this,if_pos this];exact⟨e,rfl⟩
 by_cases h1:E=0
 ·have HG:Hid (getE b=0):=by rw[<-HE.out.2];exact h1
  have HI:Hid (0<=F.e):=by rw[HE.out.1];exact(get_in HG.out).1
  have U0:Hid (offB s b M=if F.k≠1\/F.f≠s.me then 1 else if s.ep<0\/F.e≠s.ep then 6 else if F.r<=s.last then 10 else rsecN s.c s.me s.st F.r M):=by
   show offB s b M=_
   unfold offB
   rw[if_neg (by simp[HG.out]),<-HE.out.1]
  rw[h1,show ((0:Nat):Int)=0 from rfl]
  clear h1
  have k0:=HFr.out.c0
  have k1:=HFr.out.c1
  have c10:W3.cell? ⟨R,10,none⟩=some (.int .i64 s.me):=H3.out.at'.cell 10 rfl
  by_cases h2:F.k=1
  ·rw[h2] at k0
   by_cases h2':F.f=s.me
   ·rw[h2'] at k1
    have U1:Hid (offB s b M=if s.ep<0\/F.e≠s.ep then 6 else if F.r<=s.last then 10 else rsecN s.c s.me s.st F.r M):=U0.out.trans (if_neg (by omega))
    clear h2 h2' U0
    go_wp2_with fail
    refine wp_region_noPanic ?_
    refine wp_region_held (S:=λV=>V.cell? ⟨B,0,none⟩=some (.int .i64 1)/\V.cell? ⟨B,1,none⟩=some (.int .i64 s.me)/\V.cell? ⟨R,10,none⟩=some (.int .i64 s.me)) (by kernel_rfl) ?_
    have hS:=And.intro (show W3.drew.cell? _=_ from k0) (And.intro (show W3.drew.cell? _=_ from k1) (show W3.drew.cell? _=_ from c10))
    refine tk 0 hS ?_
    refine tk 1 hS ?_
    refine tk 2 hS ?_
    refine tk 3 hS ?_
    refine tk 4 hS ?_
    refine tk 5 hS ?_
    refine tk 6 hS ?_
    refine tk 7 hS ?_
    refine tk 8 hS ?_
    refine tk 9 hS ?_
    refine tk 10 hS ?_
    refine tk 11 hS ?_
    refine tk 12 hS ?_
    refine wpAnyH_done (by kernel_rfl) ?_ _
    refine NoPanic.normal ?_
    clear hS k0 k1 c10
    have k3:=HFr.out.c3
    have c11:W3.cell? ⟨R,11,none⟩=some (.int .i64 s.ep):=H3.out.at'.cell 11 rfl
    by_cases h3:F.e=s.ep
    ·rw[h3] at k3
     have U2:Hid (offB s b M=if F.r<=s.last then 10 else rsecN s.c s.me s.st F.r M):=U1.out.trans (if_neg (by have:=HI.out;omega))
     clear h3 U1
     go_wp2_with fail
     go_region
     clear c11
     have k5:=HFr.out.c5
     have c15:W3.cell? ⟨R,15,none⟩=some (.int .i64 s.last):=H3.out.at'.cell 15 rfl
     by_cases h4:F.r<=s.last
     ·have HE1:Hid (offE s b M=10/\offV s b M=s):=REF.out 10 rfl (U2.out.trans (if_pos h4))
      clear U2 k3
      go_wp2_with fail
      go_region
      clear k5 c15
      go_wp2_with fail
      refine(trefuse_some _ 10 rfl _).mono ?_
      rintro ev w' ⟨rfl,rfl⟩
      unfold trefV
      go_wp2
      go_ret
      refine⟨_,rfl,by rw[HE1.out.1];exact .inr ⟨rfl,_,rfl⟩,?_⟩
      rw[HE1.out.2]
      exact SAME.out _ (by repeat first|exact Below.refl _ _|apply Below.drew)
     ·have U3:Hid (offB s b M=rsecN s.c s.me s.st F.r M):=U2.out.trans (if_neg h4)
      have d4:decide (F.r<=s.last)=false:=decide_eq_false h4
      clear U2
      go_wp2_with fail
      go_region
      clear c15
      go_wp2_with fail
      obtain⟨W4,hW4⟩:∃ W4,W4=W3.drew.drew.drew:=⟨_,rfl⟩
      have hb34:Below W3.heap.size W3 W4:=by rw[hW4];exact(Below.refl _ _).drew.drew.drew
      rw[<-hW4]
      have hbd:Below W4.heap.size W4 W4.drew:=(Below.refl _ _).drew
      have H4:Hid (PAll W4.drew R s n g m v ka kc ss):=(H3.out.below hb34).below hbd
      have HF4:Hid (FrAt W4.drew B F A):=(HFr.out.below hb34).below hbd
      have HB4:Hid (Below W3.heap.size W3 W4.drew):=hb34.trans (hbd.mono hb34.size)
      have KS:=secret_ok W4.drew s.c s.me s.st F.r M
      have hS0:(λV=>V.cell? ⟨R,10,none⟩=some (.int .i64 s.me)/\V.cell? ⟨R,12,none⟩=some (.int .i64 s.st)/\V.cell? ⟨B,5,none⟩=some (.int .i64 F.r)/\(Instr.loadAt 24 (.pointer (some ⟨R,0,none⟩))).run Tryz.prog V=.ok (.agg (cfC s.c)) V) W4.drew:=⟨H4.out.at'.cell 10 rfl,H4.out.at'.cell 12 rfl,HF4.out.c5,H4.out.at'.loads⟩
      clear hW4 hb34 hbd k3 k5 d4
      refine wp_region_noPanic ?_
      refine wp_region_held (S:=λV=>V.cell? ⟨R,10,none⟩=some (.int .i64 s.me)/\V.cell? ⟨R,12,none⟩=some (.int .i64 s.st)/\V.cell? ⟨B,5,none⟩=some (.int .i64 F.r)/\(Instr.loadAt 24 (.pointer (some ⟨R,0,none⟩))).run Tryz.prog V=.ok (.agg (cfC s.c)) V) (by kernel_rfl) ?_
      have hS:=hS0
      refine tk 0 hS ?_
      refine tk 1 hS ?_
      refine tk 2 hS ?_
      refine tk 3 (v:=Value.agg (cfC s.c)) (hv:=λW hW=>exec_load 24 (.tmp 57) rfl _ _ rfl hW.2.2.2) hS ?_
      refine tk 4 hS ?_
      refine tk 5 hS ?_
      refine tk 6 hS ?_
      refine tk 7 hS ?_
      refine tk 8 hS ?_
      refine tk 9 hS ?_
      refine tk 10 hS ?_
      refine tk 11 hS ?_
      refine tk 12 hS ?_
      refine tk 13 hS ?_
      refine tk 14 hS ?_
      refine tk 15 hS ?_
      refine any_one 16 rfl (by kernel_rfl) (by rfl) (λK hK=>?_)
      clear hS
      go_simp
      refine KS.mono ?_
      rintro ev w5 ⟨rfl,hb5⟩
      have H5:Hid (PAll w5 R s n g m v ka kc ss):=H4.out.below hb5
      have HF5:Hid (FrAt w5 B F A):=HF4.out.below hb5
      have HB5:Hid (Below W3.heap.size W3 w5):=HB4.out.trans (hb5.mono HB4.out.size)
      clear hb5 KS
      refine hK.out _ _ (⟨H5.out.at'.cell 10 rfl,H5.out.at'.cell 12 rfl,HF5.out.c5,H5.out.at'.loads⟩) (λhS=>?_)
      clear hK
      (try simp only[Act.put,sT])
      refine tk 17 hS ?_
      refine wpAnyH_done (by kernel_rfl) ?_ _
      refine NoPanic.normal ?_
      clear hS hS0
      by_cases hz:rsecN s.c s.me s.st F.r M=0
      ·have HZ:Hid (offB s b M=0):=U3.out.trans hz
       have hin:=rsec_zero hz
       have hbd:Below w5.heap.size w5 w5.drew:=(Below.refl _ _).drew
       have H6:Hid (PAll w5.drew R s n g m v ka kc ss):=H5.out.below hbd
       have HF6:Hid (FrAt w5.drew B F A):=HF5.out.below hbd
       have KI:=dindex_ok w5.drew s.c s.st F.r
       rw[show idxV s.c s.st F.r=.tuple #[.int .i64 (F.r-s.st),.int .i64 0] by unfold idxV;rw[if_pos hin.1,if_pos hin.2]] at KI
       have hS0:(λV=>V.cell? ⟨R,10,none⟩=some (.int .i64 s.me)/\V.cell? ⟨R,12,none⟩=some (.int .i64 s.st)/\V.cell? ⟨B,5,none⟩=some (.int .i64 F.r)/\(Instr.loadAt 24 (.pointer (some ⟨R,0,none⟩))).run Tryz.prog V=.ok (.agg (cfC s.c)) V) w5.drew:=⟨H6.out.at'.cell 10 rfl,H6.out.at'.cell 12 rfl,HF6.out.c5,H6.out.at'.loads⟩
       rw[hz]
       clear U3 hz hin hbd
       go_wp2_with fail
       refine wp_region_noPanic ?_
       refine wp_region_held (S:=λV=>V.cell? ⟨R,10,none⟩=some (.int .i64 s.me)/\V.cell? ⟨R,12,none⟩=some (.int .i64 s.st)/\V.cell? ⟨B,5,none⟩=some (.int .i64 F.r)/\(Instr.loadAt 24 (.pointer (some ⟨R,0,none⟩))).run Tryz.prog V=.ok (.agg (cfC s.c)) V) (by kernel_rfl) ?_
       have hS:=hS0
       refine tk 0 hS ?_
       refine tk 1 hS ?_
       refine tk 2 hS ?_
       refine tk 3 (v:=Value.agg (cfC s.c)) (hv:=λW hW=>exec_load 24 (.tmp 79) rfl _ _ rfl hW.2.2.2) hS ?_
       refine tk 4 hS ?_
       refine tk 5 hS ?_
       refine tk 6 hS ?_
       refine tk 7 hS ?_
       refine tk 8 hS ?_
       refine tk 9 hS ?_
       refine tk 10 hS ?_
       refine any_one 11 rfl (by kernel_rfl) (by rfl) (λK hK=>?_)
       clear hS
       go_simp
       refine KI.mono ?_
       rintro ev w7 ⟨rfl,hb7⟩
       have H7:Hid (PAll w7 R s n g m v ka kc ss):=H6.out.below hb7
       have HF7:Hid (FrAt w7 B F A):=HF6.out.below hb7
       have HB7:Hid (Below W3.heap.size W3 w7):=HB5.out.trans (((Below.refl _ _).drew.trans hb7).mono HB5.out.size)
       clear hb7 KI
       refine hK.out _ _ (⟨H7.out.at'.cell 10 rfl,H7.out.at'.cell 12 rfl,HF7.out.c5,H7.out.at'.loads⟩) (λhS=>?_)
       clear hK
       (try simp only[Act.put,sT])
       refine tk 12 hS ?_
       refine tk 13 hS ?_
       refine tk 14 hS ?_
       refine tk 15 hS ?_
       refine tk 16 hS ?_
       refine wpAnyH_done (by kernel_rfl) ?_ _
       refine NoPanic.normal ?_
       clear hS hS0
       have hbd:Below w7.heap.size w7 w7.drew:=(Below.refl _ _).drew
       have H8:Hid (PAll w7.drew R s n g m v ka kc ss):=H7.out.below hbd
       have HF8:Hid (FrAt w7.drew B F A):=HF7.out.below hbd
       have HB8:Hid (Below w.heap.size w w7.drew):=HB3.out.trans ((HB7.out.trans (hbd.mono HB7.out.size)).mono HB3.out.size)
       have KP:=bput_any w7.drew g m v s.b ss n H8.out.buf hn hlo F.e (F.r-s.st) x cx b (HX3.out.below (HB7.out.trans (hbd.mono HB7.out.size)))
       have hS0:(λV=>V.cell? ⟨R,16,none⟩=some (.pointer (some ⟨g,0,none⟩))/\V.cell? ⟨B,3,none⟩=some (.int .i64 F.e)) w7.drew:=⟨H8.out.at'.c16,HF8.out.c3⟩
       have HE1:Hid (offE s b M=bputE s.b F.e (F.r-s.st) b/\offV s b M={ s with b:=putV s.b F.e (F.r-s.st) b }):=by
        obtain⟨_,_,_,_,_,_,_,e8,_⟩:=offB_zero HZ.out
        unfold offE offV
        rw[if_neg (λhh=>hh HZ.out),if_neg (λhh=>hh HZ.out),e8,<-HE.out.1]
        exact⟨rfl,rfl⟩
       clear hbd
       go_wp2_with fail
       refine wp_region_noPanic ?_
       refine wp_region_held (S:=λV=>V.cell? ⟨R,16,none⟩=some (.pointer (some ⟨g,0,none⟩))/\V.cell? ⟨B,3,none⟩=some (.int .i64 F.e)) (by kernel_rfl) ?_
       have hS:=hS0
       refine tk 0 hS ?_
       refine tk 1 hS ?_
       refine tk 2 hS ?_
       refine tk 3 hS ?_
       refine tk 4 hS ?_
       refine tk 5 hS ?_
       refine tk 6 hS ?_
       refine tk 7 hS ?_
       refine any_one 8 rfl (by kernel_rfl) (by rfl) (λK hK=>?_)
       clear hS
       go_simp
       refine KP.mono ?_
       rintro ev w9 ⟨rfl,hp9⟩
       have HG9:Hid (PGo w7.drew R g m v { s with b:=putV s.b F.e (F.r-s.st) b } (n+65) w9):=PLeft.go H8.out hp9
       obtain⟨v9,ss9,hb9,ha9,ho9⟩:=hp9
       have hR9:=(ha9.block R H8.out.at'.lt H8.out.ne).trans H8.out.at'
       have hB9:w9.cell? ⟨B,3,none⟩=some (.int .i64 F.e):=ha9.cell HF8.out.c3 λhO=>HNB.out (.inr hO)
       clear ha9 ho9 hb9 KP
       refine hK.out _ _ (⟨PAt.c16 hR9,hB9⟩) (λhS=>?_)
       clear hK
       (try simp only[Act.put,sT])
       refine any_one 9 rfl (by kernel_rfl) (by rfl) (λK hK=>?_)
       clear hS
       go_simp
       refine(trefuse_any _ _ _).mono ?_
       rintro ev w10 ⟨u,rfl,hER,hw10⟩
       subst hw10
       have HER:Hid (ErrIs u (bputE s.b F.e (F.r-s.st) b)):=hER
       clear hER
       refine hK.out _ _ (⟨PAt.c16 hR9,hB9⟩) (λhS=>?_)
       clear hK
       (try simp only[Act.put,sT])
       refine tk 10 hS ?_
       refine wpAnyH_done (by kernel_rfl) ?_ _
       refine NoPanic.normal ?_
       clear hS hS0 hR9 hB9
       go_wp2
       go_ret
       refine⟨_,rfl,by rw[HE1.out.1];exact HER.out,?_⟩
       rw[HE1.out.2]
       exact PGo.behind HB8.out HG9.out
      ·have d:(rsecN s.c s.me s.st F.r M==0)=false:=by simpa using hz
       have HE1:Hid (offE s b M=rsecN s.c s.me s.st F.r M/\offV s b M=s):=REF.out _ d U3.out
       clear U3
       go_wp2_with fail
       refine(trefuse_some _ _ d _).mono ?_
       rintro ev w' ⟨rfl,rfl⟩
       unfold trefV
       go_wp2
       go_ret
       refine⟨_,rfl,by rw[HE1.out.1];exact .inr ⟨d,_,rfl⟩,?_⟩
       rw[HE1.out.2]
       exact SAME.out _ HB5.out
    ·have d3:(F.e==s.ep)=false:=by simpa using h3
     have HE1:Hid (offE s b M=6/\offV s b M=s):=REF.out 6 rfl (U1.out.trans (if_pos (.inr h3)))
     clear U1
     go_wp2_with fail
     go_region
     clear c11 k3
     go_wp2_with fail
     refine(trefuse_some _ 6 rfl _).mono ?_
     rintro ev w' ⟨rfl,rfl⟩
     unfold trefV
     go_wp2
     go_ret
     refine⟨_,rfl,by rw[HE1.out.1];exact .inr ⟨rfl,_,rfl⟩,?_⟩
     rw[HE1.out.2]
     exact SAME.out _ (by repeat first|exact Below.refl _ _|apply Below.drew)
   ·have d2:(F.f==s.me)=false:=by simpa using h2'
    have HE1:Hid (offE s b M=1/\offV s b M=s):=REF.out 1 rfl (U0.out.trans (if_pos (.inr h2')))
    clear h2 U0
    go_wp2_with fail
    refine wp_region_noPanic ?_
    refine wp_region_held (S:=λV=>V.cell? ⟨B,0,none⟩=some (.int .i64 1)/\V.cell? ⟨B,1,none⟩=some (.int .i64 F.f)/\V.cell? ⟨R,10,none⟩=some (.int .i64 s.me)) (by kernel_rfl) ?_
    have hS:=And.intro (show W3.drew.cell? _=_ from k0) (And.intro (show W3.drew.cell? _=_ from k1) (show W3.drew.cell? _=_ from c10))
    refine tk 0 hS ?_
    refine tk 1 hS ?_
    refine tk 2 hS ?_
    refine tk 3 hS ?_
    refine tk 4 hS ?_
    refine tk 5 hS ?_
    refine tk 6 hS ?_
    refine tk 7 hS ?_
    refine tk 8 hS ?_
    refine tk 9 hS ?_
    refine tk 10 hS ?_
    refine tk 11 hS ?_
    refine tk 12 hS ?_
    refine wpAnyH_done (by kernel_rfl) ?_ _
    refine NoPanic.normal ?_
    clear hS k0 k1 c10
    go_wp2_with fail
    refine(trefuse_some _ 1 rfl _).mono ?_
    rintro ev w' ⟨rfl,rfl⟩
    unfold trefV
    go_wp2
    go_ret
    refine⟨_,rfl,by rw[HE1.out.1];exact .inr ⟨rfl,_,rfl⟩,?_⟩
    rw[HE1.out.2]
    exact SAME.out _ (by repeat first|exact Below.refl _ _|apply Below.drew)
  ·have d1:(F.k==1)=false:=by simpa using h2
   have HE1:Hid (offE s b M=1/\offV s b M=s):=REF.out 1 rfl (U0.out.trans (if_pos (.inl h2)))
   clear U0
   go_wp2_with fail
   refine wp_region_noPanic ?_
   refine wp_region_held (S:=λV=>V.cell? ⟨B,0,none⟩=some (.int .i64 F.k)/\V.cell? ⟨B,1,none⟩=some (.int .i64 F.f)/\V.cell? ⟨R,10,none⟩=some (.int .i64 s.me)) (by kernel_rfl) ?_
   have hS:=And.intro (show W3.drew.cell? _=_ from k0) (And.intro (show W3.drew.cell? _=_ from k1) (show W3.drew.cell? _=_ from c10))
   refine tk 0 hS ?_
   refine tk 1 hS ?_
   refine tk 2 (v:=Value.bool true) (hv:=by intro w hSw;go_simp;first|done|simpa using h2) hS ?_
   refine tk 3 hS ?_
   refine tq 4 hS ?_
   refine tq 5 hS ?_
   refine tq 6 hS ?_
   refine tq 7 hS ?_
   refine tq 8 hS ?_
   refine tq 9 hS ?_
   refine tq 10 hS ?_
   refine tk 11 hS ?_
   refine tk 12 hS ?_
   refine wpAnyH_done (by kernel_rfl) ?_ _
   refine NoPanic.normal ?_
   clear hS k0 k1 c10
   go_wp2_with fail
   refine(trefuse_some _ 1 rfl _).mono ?_
   rintro ev w' ⟨rfl,rfl⟩
   unfold trefV
   go_wp2
   go_ret
   refine⟨_,rfl,by rw[HE1.out.1];exact .inr ⟨rfl,_,rfl⟩,?_⟩
   rw[HE1.out.2]
   exact SAME.out _ (by repeat first|exact Below.refl _ _|apply Below.drew)
 ·have d:((E:Int)==0)=false:=by simp;omega
  have HE1:Hid (offE s b M=E/\offV s b M=s):=REF.out E d (by unfold offB;rw[if_pos (by rw[<-HE.out.2];omega),HE.out.2])
  clear h1
  go_wp2_with fail
  refine(trefuse_some _ E d _).mono ?_
  rintro ev w' ⟨rfl,rfl⟩
  unfold trefV
  go_wp2
  go_ret
  refine⟨_,rfl,by rw[HE1.out.1];exact .inr ⟨d,_,rfl⟩,?_⟩
  rw[HE1.out.2]
  exact SAME.out _ (by repeat first|exact Below.refl _ _|apply Below.drew)
end Go.Proofs.YthogohkieiogiaaGreatDoor
