/- A helper. -/
import Derived.Test.YtmffplhaclnehaaGreatDoorTesR
import Derived.Test.YtmffplhaclnehaaGreatDoorTesC
namespace Go.Proofs.YtmffplhaclnehaaGreatDoor
set_option maxRecDepth 20000
set_option maxHeartbeats 6400000
open Go.ChangeShapes Go.WideShapes Go.ChangeAt Go.RowKit
theorem RP (w:World)(R:Nat)(s:Rv)(r:Nat)(v:Value)(ka:Option Addr)(kc:Nat)(ss:List eU)(h:dS w R s r v ka kc ss)(e t i:Int)(x:Option Addr)(cx:Nat)(k:List UInt8)(hx:ag w x cx k)(hk:k.length<=140737488351232):
  Calls Tryz.prog 12 #[.pointer (some ⟨R,0,none⟩),.int .i64 e,.int .i64 t,.int .i64 i,.slice x k.length cx] w λev w'=>ev=.returned (.int .i64 (fO s e t i k))/\rX w R r v (eO s e t i k) w':=by
 have H:Hid (dS w R s r v ka kc ss):=h
 have HX:Hid (ag w x cx k):=hx
 have c4:w.cell? ⟨R,4,none⟩=some (.int .i64 s.c.k):=h.at'.cell 4 rfl
 have c11:w.cell? ⟨R,11,none⟩=some (.int .i64 s.ep):=h.at'.cell 11 rfl
 have c12:w.cell? ⟨R,12,none⟩=some (.int .i64 s.st):=h.at'.cell 12 rfl
 have c13:w.cell? ⟨R,13,none⟩=some (.int .i64 s.ix):=h.at'.cell 13 rfl
 have f11:=h.at'.fz 11
 have f12:=h.at'.fz 12
 have f13:=h.at'.fz 13
 have NOT:Hid (∀ N:Int,fO s e t i k=N/\eO s e t i k=s->(Ending.returned (.int .i64 N)=.returned (.int .i64 (fO s e t i k))/\rX w R r v (eO s e t i k) w)):=λN hN=>⟨by rw[hN.1],by rw[hN.2];exact rX.same h (Apart.refl _ _)⟩
 have hfm:Tryz.prog.follows .mixedOrders=true:=by kernel_rfl
 have hkm:k.length<=9223372036854775807:=by omega
 clear h hx
 go_enter Tryz.func12,Tryz.ntmps12
 by_cases h1:e<0
 ·have bG:Hid (fO s e t i k=1/\eO s e t i k=s):=iF (by rw[aW];omega)
  go_wp2
  go_ret
  exact NOT.out 1 bG.out
 ·skip
  by_cases h2:65535<e
  ·have bG:Hid (fO s e t i k=1/\eO s e t i k=s):=iF (by rw[aW];omega)
   go_wp2
   go_ret
   exact NOT.out 1 bG.out
  ·skip
   by_cases h3:t<0
   ·have bG:Hid (fO s e t i k=1/\eO s e t i k=s):=iF (by rw[aW];omega)
    go_wp2
    go_ret
    exact NOT.out 1 bG.out
   ·skip
    by_cases h4:1048576<=t
    ·have bG:Hid (fO s e t i k=1/\eO s e t i k=s):=iF (by rw[aW];omega)
     go_wp2
     go_ret
     exact NOT.out 1 bG.out
    ·skip
     by_cases h5:i<0
     ·have bG:Hid (fO s e t i k=1/\eO s e t i k=s):=iF (by rw[aW];omega)
      go_wp2
      go_ret
      exact NOT.out 1 bG.out
     ·skip
      by_cases h6:s.c.k<i
      ·have bG:Hid (fO s e t i k=1/\eO s e t i k=s):=iF (by rw[aW];omega)
       go_wp2
       go_ret
       exact NOT.out 1 bG.out
      ·skip
       by_cases h7:k.length=16
       ·have hka:gU s i k=true:=aW.2 ⟨by omega,by omega,h7⟩
        have E:=OV (s:=s) (e:=e) (t:=t) (i:=i) (k:=k) ⟨by omega,by omega,by omega,by omega,hka⟩
        have K5:Hid (k.length=16):=h7
        have PI:=wE w.drew s.ix ka kc s.key i x cx k (H.out.key.below (Below.refl _ _).drew) (HX.out.below (Below.refl _ _).drew)
        have PK:=wE w.drew i x cx k s.ix ka kc s.key (HX.out.below (Below.refl _ _).drew) (H.out.key.below (Below.refl _ _).drew)
        rw[h7] at PI PK
        rw[h7]
        clear h7 hka
        by_cases g1:e<s.ep
        ·have bG:Hid (fO s e t i k=10/\eO s e t i k=s):=⟨E.1.trans (if_pos g1),E.2.trans (if_pos g1)⟩
         clear E
         go_wp2
         go_ret
         exact NOT.out 10 bG.out
        ·have E2:=And.intro (E.1.trans (if_neg g1)) (E.2.trans (if_neg g1))
         clear E
         by_cases g2:s.ep<e
         ·have bG:Hid (fO s e t i k=0/\eO s e t i k={ s with ep:=e,st:=t,ix:=i,key:=k,b:=mR s.b (e,0) }):=⟨E2.1.trans (if_pos g2),E2.2.trans (if_pos g2)⟩
          clear E2 PI PK
          obtain⟨W3,hW3⟩:=ai (((w.setCell ⟨R,11,none⟩ (.int .i64 e)).setCell ⟨R,12,none⟩ (.int .i64 t)).setCell ⟨R,13,none⟩ (.int .i64 i))
          obtain⟨q1,a1⟩:=H.out.set 11 (.int .i64 e) (t:={ s with ep:=e }) (kb:=ka) (kd:=kc) rfl rfl H.out.key
          obtain⟨q2,a2⟩:=q1.set 12 (.int .i64 t) (t:={ s with ep:=e,st:=t }) (kb:=ka) (kd:=kc) rfl rfl q1.key
          obtain⟨q3,a3⟩:=q2.set 13 (.int .i64 i) (t:={ s with ep:=e,st:=t,ix:=i }) (kb:=ka) (kd:=kc) rfl rfl q2.key
          have Vd:=(a1.trans a2 λ_ h=>.inl h).trans a3 λ_ h=>.inl h
          rw[<-hW3] at q3 Vd
          obtain⟨d,cd,w4,hap,hs4,hb4⟩:=xY W3 x cx k (HX.out.apart Vd λj hj=>H.out.plain hj) hk
          have q4:=q3.below hb4
          obtain⟨q5,a5⟩:=q4.set 14 (.slice d k.length cd) (t:={ s with ep:=e,st:=t,ix:=i,key:=k }) (kb:=d) (kd:=cd) rfl rfl hs4
          rw[K5.out] at hap q5 a5
          obtain⟨W5,PG⟩:=ai (w4.setCell ⟨R,14,none⟩ (.slice d 16 cd))
          rw[<-PG] at q5 a5
          have c14:w4.cell? ⟨R,14,none⟩=some (.slice ka s.key.length kc):=q4.at'.cell 14 rfl
          have f14:=q4.at'.fz 14
          have c15:W5.cell? ⟨R,15,none⟩=some (.pointer (some ⟨r,0,none⟩)):=q5.at'.cell 15 rfl
          have KD:=LC W5 r v s.b ss q5.buf (e,0)
          have FU:Hid ((Builtin.append_ #[24,24] 24 #[.slice (some ⟨W3.heap.size,0,none⟩) 0 0,.slice x 16 cx]).run Tryz.prog (W3.alloc (.cells #[] 5))=.ok (.slice d 16 cd) w4):=hap
          have HA5:Hid (Apart (lM R r v) w W5):=(Vd.trans (Apart.of_below (F:=λ_=>False) hb4) (λ_ h=>h.elim)).trans a5 λ_ h=>.inl h
          have H5:Hid (dS W5 R { s with ep:=e,st:=t,ix:=i,key:=k } r v d cd ss):=q5
          clear q1 a1 q2 a2 q3 a3 Vd q4 q5 a5 hs4 hb4 hap
          go_upto_region 9 with fail
          rw[<-hW3]
          clear hW3 c4 c11 c12 c13 f11 f12 f13
          go_upto_region 10 with (at_builtin;refine wpList_append_run rfl (.tmp 69) (.tmp 70) 24 rfl _ _ _ rfl rfl FU.out ?_)
          rw[<-PG]
          clear PG c14 f14
          go_wp2_with fail
          refine KD.mono ?_
          rintro ev w6 ⟨rfl,hp6⟩
          have HG:Hid (rX W5 R r v { s with ep:=e,st:=t,ix:=i,key:=k,b:=mR s.b (e,0) } w6):=fB.go H5.out hp6
          clear hp6 KD c15
          go_wp2
          go_ret
          exact⟨by rw[bG.out.1];rfl,by rw[bG.out.2];exact rX.after HA5.out HG.out⟩
         ·have E3:=And.intro (E2.1.trans (if_neg g2)) (E2.2.trans (if_neg g2))
          clear E2
          by_cases g3:t=s.st
          ·have E4:=And.intro (E3.1.trans (if_neg (λhh=>hh g3))) (E3.2.trans (if_neg (λhh=>hh g3)))
           have g3':(t==s.st)=true:=by simpa using g3
           clear g3 E3
           have hS0:(λV=>V.cell? ⟨R,13,none⟩=some (.int .i64 s.ix)/\V.cell? ⟨R,14,none⟩=some (.slice ka s.key.length kc)) w.drew:=⟨H.out.at'.cell 13 rfl,H.out.at'.cell 14 rfl⟩
           by_cases g4:s.ix<i
           ·have E5:=E4.1.trans (if_pos g4)
            by_cases q:dx s.ix s.key i k=0
            ·have bG:Hid (fO s e t i k=0/\eO s e t i k=jB s i k):=⟨E5.trans (by rw[q];rfl),E4.2.trans (if_pos ⟨g4,q⟩)⟩
             rw[q,show ((0:Nat):Int)=0 from rfl] at PI
             clear E4 E5 q PK
             go_wp2_with fail
             refine wp_region_noPanic ?_
             refine wp_region_held (S:=λV=>V.cell? ⟨R,13,none⟩=some (.int .i64 s.ix)/\V.cell? ⟨R,14,none⟩=some (.slice ka s.key.length kc)) (by kernel_rfl) ?_
             have hS:=hS0
             refine tk 0 hS ?_
             refine tk 1 hS ?_
             refine tk 2 hS ?_
             refine tk 3 hS ?_
             refine tk 4 hS ?_
             refine tk 5 hS ?_
             refine tk 6 hS ?_
             refine tk 7 hS ?_
             refine tk 8 hS ?_
             refine tk 9 hS ?_
             refine aI 10 rfl (by kernel_rfl) (by rfl) (λK hK=>?_)
             clear hS
             go_simp
             refine PI.mono ?_
             rintro ev w1 ⟨rfl,hb1⟩
             have H1:Hid (dS w1 R s r v ka kc ss):=H.out.below ((Below.refl _ _).drew.trans hb1)
             have HB1:Hid (Below w.heap.size w w1):=(Below.refl _ _).drew.trans hb1
             clear hb1 PI
             refine hK.out _ _ (⟨H1.out.at'.cell 13 rfl,H1.out.at'.cell 14 rfl⟩) (λhS=>?_)
             clear hK
             (try simp only[Act.put,sT])
             refine tk 11 hS ?_
             refine wpAnyH_done (by kernel_rfl) (NoPanic.normal ?_) _
             clear hS hS0 c4 c11 c12 c13 f11 f12 f13
             obtain⟨W3,hW3⟩:=ai (w1.setCell ⟨R,13,none⟩ (.int .i64 i))
             obtain⟨q3,a3⟩:=H1.out.set 13 (.int .i64 i) (t:={ s with ix:=i }) (kb:=ka) (kd:=kc) rfl rfl H1.out.key
             rw[<-hW3] at q3 a3
             obtain⟨d,cd,w4,hap,hs4,hb4⟩:=xY W3 x cx k ((HX.out.below HB1.out).apart a3 λj hj=>H1.out.plain hj) hk
             have q4:=q3.below hb4
             obtain⟨q5,a5⟩:=q4.set 14 (.slice d k.length cd) (t:=jB s i k) (kb:=d) (kd:=cd) rfl rfl hs4
             rw[K5.out] at hap q5 a5
             have c13:w1.cell? ⟨R,13,none⟩=some (.int .i64 s.ix):=H1.out.at'.cell 13 rfl
             have f13:=H1.out.at'.fz 13
             have c14:w4.cell? ⟨R,14,none⟩=some (.slice ka s.key.length kc):=q4.at'.cell 14 rfl
             have f14:=q4.at'.fz 14
             have FU:Hid ((Builtin.append_ #[24,24] 24 #[.slice (some ⟨W3.heap.size,0,none⟩) 0 0,.slice x 16 cx]).run Tryz.prog (W3.alloc (.cells #[] 5))=.ok (.slice d 16 cd) w4):=hap
             have HG:Hid (rX w R r v (jB s i k) (w4.setCell ⟨R,14,none⟩ (.slice d 16 cd))):=rX.same q5 ((((Apart.of_below HB1.out).trans a3 λ_ h=>.inl h).trans (Apart.of_below (F:=λ_=>False) hb4) (λ_ h=>h.elim)).trans a5 λ_ h=>.inl h)
             clear q3 a3 q4 q5 a5 hs4 hb4 hap
             go_upto_region 18 with fail
             rw[<-hW3]
             clear hW3 c13 f13
             go_wp2_with (at_builtin;refine wpList_append_run rfl (.tmp 110) (.tmp 111) 24 rfl _ _ _ rfl rfl FU.out ?_)
             go_ret
             exact⟨by rw[bG.out.1];rfl,by rw[bG.out.2];exact HG.out⟩
            ·have bG:Hid (fO s e t i k=(dx s.ix s.key i k:Int)/\eO s e t i k=s):=⟨E5,E4.2.trans (if_neg (λhh=>q hh.2))⟩
             have d:(((dx s.ix s.key i k:Nat):Int)==0)=false:=by simpa using q
             clear E4 E5 PK
             go_wp2_with fail
             refine wp_region_noPanic ?_
             refine wp_region_held (S:=λV=>V.cell? ⟨R,13,none⟩=some (.int .i64 s.ix)/\V.cell? ⟨R,14,none⟩=some (.slice ka s.key.length kc)) (by kernel_rfl) ?_
             have hS:=hS0
             refine tk 0 hS ?_
             refine tk 1 hS ?_
             refine tk 2 hS ?_
             refine tk 3 hS ?_
             refine tk 4 hS ?_
             refine tk 5 hS ?_
             refine tk 6 hS ?_
             refine tk 7 hS ?_
             refine tk 8 hS ?_
             refine tk 9 hS ?_
             refine aI 10 rfl (by kernel_rfl) (by rfl) (λK hK=>?_)
             clear hS
             go_simp
             refine PI.mono ?_
             rintro ev w1 ⟨rfl,hb1⟩
             have H1:Hid (dS w1 R s r v ka kc ss):=H.out.below ((Below.refl _ _).drew.trans hb1)
             have HB1:Hid (Below w.heap.size w w1):=(Below.refl _ _).drew.trans hb1
             clear hb1 PI
             refine hK.out _ _ (⟨H1.out.at'.cell 13 rfl,H1.out.at'.cell 14 rfl⟩) (λhS=>?_)
             clear hK
             (try simp only[Act.put,sT])
             refine tk 11 hS ?_
             refine wpAnyH_done (by kernel_rfl) (NoPanic.normal ?_) _
             clear hS hS0
             go_wp2
             go_ret
             exact⟨by rw[bG.out.1];rfl,by rw[bG.out.2];exact rX.same H1.out (Apart.of_below HB1.out)⟩
           ·have E5:=And.intro (E4.1.trans (if_neg g4)) (E4.2.trans (if_neg (λhh=>g4 hh.1)))
            by_cases q:dx i k s.ix s.key=0
            ·have bG:Hid (fO s e t i k=0/\eO s e t i k=s):=⟨E5.1.trans (if_neg (λhh=>hh q)),E5.2⟩
             rw[q,show ((0:Nat):Int)=0 from rfl] at PK
             clear E4 E5 q PI
             go_wp2_with fail
             refine wp_region_noPanic ?_
             refine wp_region_held (S:=λV=>V.cell? ⟨R,13,none⟩=some (.int .i64 s.ix)/\V.cell? ⟨R,14,none⟩=some (.slice ka s.key.length kc)) (by kernel_rfl) ?_
             have hS:=hS0
             refine tk 0 hS ?_
             refine tk 1 hS ?_
             refine tk 2 hS ?_
             refine tk 3 hS ?_
             refine tk 4 hS ?_
             refine tk 5 hS ?_
             refine tk 6 hS ?_
             refine tk 7 hS ?_
             refine tk 8 hS ?_
             refine tk 9 hS ?_
             refine aI 10 rfl (by kernel_rfl) (by rfl) (λK hK=>?_)
             clear hS
             go_simp
             refine PK.mono ?_
             rintro ev w1 ⟨rfl,hb1⟩
             have H1:Hid (dS w1 R s r v ka kc ss):=H.out.below ((Below.refl _ _).drew.trans hb1)
             have HB1:Hid (Below w.heap.size w w1):=(Below.refl _ _).drew.trans hb1
             clear hb1 PK
             refine hK.out _ _ (⟨H1.out.at'.cell 13 rfl,H1.out.at'.cell 14 rfl⟩) (λhS=>?_)
             clear hK
             (try simp only[Act.put,sT])
             refine tk 11 hS ?_
             refine wpAnyH_done (by kernel_rfl) (NoPanic.normal ?_) _
             clear hS hS0
             go_wp2
             go_ret
             exact⟨by rw[bG.out.1];rfl,by rw[bG.out.2];exact rX.same H1.out (Apart.of_below HB1.out)⟩
            ·have bG:Hid (fO s e t i k=11/\eO s e t i k=s):=⟨E5.1.trans (if_pos q),E5.2⟩
             have d:(((dx i k s.ix s.key:Nat):Int)==0)=false:=by simpa using q
             clear E4 E5 PI
             go_wp2_with fail
             refine wp_region_noPanic ?_
             refine wp_region_held (S:=λV=>V.cell? ⟨R,13,none⟩=some (.int .i64 s.ix)/\V.cell? ⟨R,14,none⟩=some (.slice ka s.key.length kc)) (by kernel_rfl) ?_
             have hS:=hS0
             refine tk 0 hS ?_
             refine tk 1 hS ?_
             refine tk 2 hS ?_
             refine tk 3 hS ?_
             refine tk 4 hS ?_
             refine tk 5 hS ?_
             refine tk 6 hS ?_
             refine tk 7 hS ?_
             refine tk 8 hS ?_
             refine tk 9 hS ?_
             refine aI 10 rfl (by kernel_rfl) (by rfl) (λK hK=>?_)
             clear hS
             go_simp
             refine PK.mono ?_
             rintro ev w1 ⟨rfl,hb1⟩
             have H1:Hid (dS w1 R s r v ka kc ss):=H.out.below ((Below.refl _ _).drew.trans hb1)
             have HB1:Hid (Below w.heap.size w w1):=(Below.refl _ _).drew.trans hb1
             clear hb1 PK
             refine hK.out _ _ (⟨H1.out.at'.cell 13 rfl,H1.out.at'.cell 14 rfl⟩) (λhS=>?_)
             clear hK
             (try simp only[Act.put,sT])
             refine tk 11 (v:=Value.bool true) (hv:=by intro w hSw;go_simp;first|done|simpa using q) hS ?_
             refine wpAnyH_done (by kernel_rfl) (NoPanic.normal ?_) _
             clear hS hS0
             go_wp2
             go_ret
             exact⟨by rw[bG.out.1];rfl,by rw[bG.out.2];exact rX.same H1.out (Apart.of_below HB1.out)⟩
          ·have bG:Hid (fO s e t i k=11/\eO s e t i k=s):=⟨E3.1.trans (if_pos g3),E3.2.trans (if_pos g3)⟩
           have g3':(t==s.st)=false:=by simpa using g3
           clear E3 PI PK
           go_wp2
           go_ret
           exact NOT.out 11 bG.out
       ·have bG:Hid (fO s e t i k=1/\eO s e t i k=s):=iF (by rw[aW];omega)
        have d7:((k.length:Int)==16)=false:=by simp;omega
        go_wp2
        go_ret
        exact NOT.out 1 bG.out
end Go.Proofs.YtmffplhaclnehaaGreatDoor
