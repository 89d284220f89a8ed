/- A helper. -/
import Derived.Test.YtmffplhaclnehaaGreatDoorTesU
import Derived.Test.YtmffplhaclnehaaGreatDoorTesQ
namespace Go.Proofs.YtmffplhaclnehaaGreatDoor
set_option maxRecDepth 20000
set_option maxHeartbeats 6400000
open Go.ChangeShapes Go.WideShapes Go.ChangeAt Go.RowKit
variable {s:Rv}
theorem dS.oC {w:World}{R:Nat}{r:Nat}{v:Value}{ka:Option Addr}{kc:Nat}{ss:List eU}(h:dS w R s r v ka kc ss){k:Nat}{cur:Array Value}{t:TypeId}{fr:Nat×Nat}(hk:w.heap[k]?=some (.cells cur t fr))(h1:t≠50)(h2:t≠53)(h3:t≠140):¬ lM R r v k:=λho=>by
 rcases ho with rfl|rfl|ho
 ·have e:=h.at'
  unfold AY at e
  rw[e] at hk;cases hk;exact h1 rfl
 ·have e:=h.buf.at'
  unfold RA at e
  rw[e] at hk;cases hk;exact h2 rfl
 ·obtain⟨cur',e,_⟩:=h.buf.row.isRow ho
  rw[e] at hk;cases hk;exact h3 rfl
theorem iP.FL {w:World}{R:Nat}{r:Nat}{v:Value}{ka:Option Addr}{kc:Nat}{ss:List eU}(h:dS w R s r v ka kc ss){u:Value}{L:List Fr}(hf:iP w u L){k:Nat}(hk:u.ownBlock=some k):¬ lM R r v k:=by
 obtain⟨os,h1,_,_⟩:=hf
 obtain⟨cur,h2,_⟩:=h1.isRow hk
 exact h.oC h2 (by decide) (by decide) (by decide)
theorem Il {e i:Int}{k:List UInt8}(h:gz s e i k≠0):jw s e i k=(s,[]):=if_pos h
def Pp (w:World)(R r:Nat)(v:Value)(s:Rv)(e i:Int)(k:List UInt8)(ev:Ending)(w':World):Prop:=
 ∃ vo,ev=.returned (.tuple #[vo,.int .i64 (gz s e i k)])/\iP w' vo (jw s e i k).2/\(∀ j,vo.ownBlock=some j->w.heap.size<=j)/\rX w R r v (jw s e i k).1 w'
def DT (w:World)(R r:Nat)(v:Value)(q:Rv×List Fr)(vo:Value)(x:Option Addr)(cx:Nat)(k:List UInt8)(W:World):Prop:=
 ∃ v' kb kd ss',dS W R q.1 r v' kb kd ss'/\Apart (lM R r v) w W/\(∀ j,v'.ownBlock=some j->v.ownBlock=some j\/w.heap.size<=j)/\iP W vo q.2/\(∀ j,vo.ownBlock=some j->w.heap.size<=j)/\ag W x cx k
theorem RS (w:World)(R:Nat)(s:Rv)(r:Nat)(v:Value)(ka:Option Addr)(kc:Nat)(ss:List eU)(h:dS w R s r v ka kc ss)(hok:s.ok)(e i:Int)(x:Option Addr)(cx:Nat)(k:List UInt8)(hx:ag w x cx k)(hk:k.length<=140737488351232):
  Calls Tryz.prog 16 #[.pointer (some ⟨R,0,none⟩),.int .i64 e,.int .i64 i,.slice x k.length cx] w λev w'=>Pp w R r v s e i k ev w':=by
 have c4:w.cell? ⟨R,4,none⟩=some (.int .i64 s.c.k):=h.at'.cell 4 rfl
 have c11:w.cell? ⟨R,11,none⟩=some (.int .i64 s.ep):=h.at'.cell 11 rfl
 have c13:w.cell? ⟨R,13,none⟩=some (.int .i64 s.ix):=h.at'.cell 13 rfl
 have H:Hid (dS w R s r v ka kc ss):=h
 have HX:Hid (ag w x cx k):=hx
 have oG:Hid s.ok:=hok
 have hfm:Tryz.prog.follows .mixedOrders=true:=by kernel_rfl
 have hkm:k.length<=9223372036854775807:=by omega
 have NOT:Hid (∀ N:Int,(N==0)=false->gz s e i k=N->∀ w',Below w.heap.size w w'->Pp w R r v s e i k (.returned (.tuple #[.slice none 0 0,.int .i64 N])) w'):=λN hN hE w' hb=>by
  have h0:gz s e i k≠0:=by rw[hE];simpa using hN
  refine⟨_,by rw[hE],?_,(λj hj=>by cases hj),?_⟩
  ·rw[Il h0];exact iP.nil w'
  ·rw[Il h0];exact rX.same (h.below hb) (Apart.of_below hb)
 have hS0:(λV=>V.cell? ⟨R,13,none⟩=some (.int .i64 s.ix)/\V.cell? ⟨R,14,none⟩=some (.slice ka s.key.length kc)) w.drew:=⟨h.at'.cell 13 rfl,h.at'.cell 14 rfl⟩
 clear h hx hok
 go_enter Tryz.func16,Tryz.ntmps16
 by_cases h1:s.ep<0
 ·have bG:Hid (gz s e i k=6):=if_pos (.inl h1)
  go_wp2
  go_ret2
  exact NOT.out 6 rfl bG.out _ (Below.refl _ _)
 ·by_cases h2:e=s.ep
  ·have d2:(e==s.ep)=true:=by simpa using h2
   have U1:Hid (gz s e i k=if gU s i k=false then 1 else if i<=s.ix then 10 else (dx s.ix s.key i k:Int)):=if_neg (by omega)
   have HEP:Hid (0<=s.ep/\e=s.ep):=⟨by omega,h2⟩
   clear h2
   by_cases h3:i<0
   ·have bG:Hid (gz s e i k=1):=U1.out.trans (if_pos (by rw[<-Bool.not_eq_true,aW];omega))
    clear U1
    go_wp2
    go_ret2
    exact NOT.out 1 rfl bG.out _ (Below.refl _ _)
   ·by_cases h4:s.c.k<i
    ·have bG:Hid (gz s e i k=1):=U1.out.trans (if_pos (by rw[<-Bool.not_eq_true,aW];omega))
     clear U1
     go_wp2
     go_ret2
     exact NOT.out 1 rfl bG.out _ (Below.refl _ _)
    ·by_cases h7:k.length=16
     ·have U2:Hid (gz s e i k=if i<=s.ix then 10 else (dx s.ix s.key i k:Int)):=U1.out.trans (if_neg (by rw[Bool.not_eq_false,aW];exact⟨by omega,by omega,h7⟩))
      have K5:Hid (k.length=16):=h7
      have KF:=wE w.drew s.ix ka kc s.key i x cx k (H.out.key.below (Below.refl _ _).drew) (HX.out.below (Below.refl _ _).drew)
      rw[h7] at KF
      rw[h7]
      clear h7 U1
      by_cases h5:i<=s.ix
      ·have bG:Hid (gz s e i k=10):=U2.out.trans (if_pos h5)
       clear U2
       go_wp2
       go_ret2
       exact NOT.out 10 rfl bG.out _ (Below.refl _ _)
      ·have U3:Hid (gz s e i k=(dx s.ix s.key i k:Int)):=U2.out.trans (if_neg h5)
       have d5:decide (i<=s.ix)=false:=decide_eq_false h5
       clear U2
       go_wp2_with fail
       by_cases q:dx s.ix s.key i k=0
       ·have HZ:Hid (gz s e i k=0):=U3.out.trans (by rw[q];rfl)
        rw[q,show ((0:Nat):Int)=0 from rfl] at KF
        clear U3 q
        refine wp_region_noPanic ?_
        refine wp_region_held (S:=λV=>V.cell? ⟨R,13,none⟩=some (.int .i64 s.ix)/\V.cell? ⟨R,14,none⟩=some (.slice ka s.key.length kc)) (by kernel_rfl) ?_
        have hS:=hS0
        refine tk 0 hS ?_
        refine tk 1 hS ?_
        refine tk 2 hS ?_
        refine tk 3 hS ?_
        refine tk 4 hS ?_
        refine tk 5 hS ?_
        refine tk 6 hS ?_
        refine tk 7 hS ?_
        refine tk 8 hS ?_
        refine tk 9 hS ?_
        refine aI 10 rfl (by kernel_rfl) (by rfl) (λK hK=>?_)
        clear hS
        go_simp
        refine KF.mono ?_
        rintro ev w1 ⟨rfl,hb1⟩
        have H1:Hid (dS w1 R s r v ka kc ss):=H.out.below ((Below.refl _ _).drew.trans hb1)
        have HB1:Hid (Below w.heap.size w w1):=(Below.refl _ _).drew.trans hb1
        clear hb1 KF
        refine hK.out _ _ (⟨H1.out.at'.cell 13 rfl,H1.out.at'.cell 14 rfl⟩) (λhS=>?_)
        clear hK
        (try simp only[Act.put,sT])
        refine tk 11 hS ?_
        refine wpAnyH_done (by kernel_rfl) (NoPanic.normal ?_) _
        clear hS hS0 c4 c11 c13
        obtain⟨W3,hW3⟩:=ai (w1.setCell ⟨R,13,none⟩ (.int .i64 i))
        obtain⟨q3,a3⟩:=H1.out.set 13 (.int .i64 i) (t:={ s with ix:=i }) (kb:=ka) (kd:=kc) rfl rfl H1.out.key
        rw[<-hW3] at q3 a3
        have hx3:=(HX.out.below HB1.out).apart a3 λj hj=>H1.out.plain hj
        obtain⟨d,cd,w4,hap,hs4,hb4⟩:=xY W3 x cx k hx3 hk
        have q4:=q3.below hb4
        obtain⟨q5,a5⟩:=q4.set 14 (.slice d k.length cd) (t:=jB s i k) (kb:=d) (kd:=cd) rfl rfl hs4
        have hx5:=(hx3.below hb4).apart a5 λj hj=>q4.plain hj
        rw[K5.out] at hap q5 a5 hx5
        have c13:w1.cell? ⟨R,13,none⟩=some (.int .i64 s.ix):=H1.out.at'.cell 13 rfl
        have f13:=H1.out.at'.fz 13
        have c14:w4.cell? ⟨R,14,none⟩=some (.slice ka s.key.length kc):=q4.at'.cell 14 rfl
        have f14:=q4.at'.fz 14
        obtain⟨W5,PG⟩:=ai (w4.setCell ⟨R,14,none⟩ (.slice d 16 cd))
        rw[<-PG] at q5 a5 hx5
        have FU:Hid ((Builtin.append_ #[24,24] 24 #[.slice (some ⟨W3.heap.size,0,none⟩) 0 0,.slice x 16 cx]).run Tryz.prog (W3.alloc (.cells #[] 5))=.ok (.slice d 16 cd) w4):=hap
        have HD5:Hid (DT w R r v (bU k i (s.ix+1) (jB s i k) 0) (.slice none 0 0) x cx k W5):=⟨v,d,cd,ss,q5,(((Apart.of_below HB1.out).trans a3 λ_ h=>.inl h).trans (Apart.of_below (F:=λ_=>False) hb4) (λ_ h=>h.elim)).trans a5 λ_ h=>.inl h,λ_ h=>.inl h,iP.nil _,(λj hj=>by cases hj),hx5⟩
        have hx0 : -1<=s.ix/\s.ix<=256/\i<=256:=by
         have h6:=gP oG.out.cfg
         rcases oG.out.ep with h|h
         ·have:=HEP.out;omega
         ·omega
        obtain⟨cnt,hcnt⟩:∃ cnt:Nat,(cnt:Int)=i-s.ix:=⟨(i-s.ix).toNat,by omega⟩
        have Yt:Hid (jw s e i k=bU k i (s.ix+1) (jB s i k) cnt):=by
         show jw s e i k=_
         unfold jw
         rw[if_neg (λhh=>hh HZ.out),show (i-s.ix).toNat=cnt by omega]
        have w1x:IntKind.i64.wrap (s.ix+1)=s.ix+1:=by rw[IntKind.wrap_i64];omega
        clear q3 a3 hx3 q4 q5 a5 hs4 hb4 hap hx5
        go_upto_region 12 with fail
        rw[<-hW3]
        clear hW3 c13 f13
        go_upto_region 13 with (at_builtin;refine wpList_append_run rfl (.tmp 75) (.tmp 76) 24 rfl _ _ _ rfl rfl FU.out ?_)
        rw[<-PG]
        clear PG c14 f14
        go_wp2
        go_loopw [12,13] (λov iv wr=>∃ (j:Nat),j<=cnt/\iv=.int .i64 (s.ix+1+(j:Int))/\DT w R r v (bU k i (s.ix+1) (jB s i k) j) ov x cx k wr) (λ_ iv _=>(i+1-intOf iv).toNat)
        case atStart=>exact⟨0,by omega,by simp,HD5.out⟩
        case round=>
         obtain⟨j,hj,rfl,v',kb,kd,ss',p1,a1,o1,f1,Yx,hx1⟩:=hrel
         clear HD5
         obtain⟨oa,oc,rfl⟩:=f1.shape
         by_cases hjc:j<cnt
         ·obtain⟨e1,e2,e3,e4,e5,e6,e7,e8⟩:=kG k i (s.ix+1) (jB s i k) j
          have Dr:=tC (Bd oG.out HZ.out) k i (s.ix+1) j
          have KB:=yM wr x cx k (i-(s.ix+1+(j:Int))) hx1
          rw[K5.out] at KB
          obtain⟨kj,hkj⟩:=ai ((fC k (i-(s.ix+1+(j:Int)))).1)
          have HB2:Hid ((fC k (i-(s.ix+1+(j:Int)))).2=0):=by
           show _=_
           unfold fC
           rw[if_pos ⟨K5.out,by omega,by omega⟩]
          rw[<-hkj,HB2.out] at KB
          have Vn:Hid (bU k i (s.ix+1) (jB s i k) (j+1)=((jg (bU k i (s.ix+1) (jB s i k) j).1 (s.ix+1+(j:Int)) kj).1,(bU k i (s.ix+1) (jB s i k) j).2++(jg (bU k i (s.ix+1) (jB s i k) j).1 (s.ix+1+(j:Int)) kj).2)):=by rw[hkj];rfl
          obtain⟨qj,hqj⟩:=ai (bU k i (s.ix+1) (jB s i k) j)
          rw[<-hqj] at p1 f1 Yx Dr e8 Vn ⊢
          have HP:Hid (dS wr R qj.1 r v' kb kd ss'/\Apart (lM R r v) w wr/\(∀ j,v'.ownBlock=some j->v.ownBlock=some j\/w.heap.size<=j)/\iP wr (.slice oa qj.2.length oc) qj.2/\(∀ j,(Value.slice oa qj.2.length oc).ownBlock=some j->w.heap.size<=j)/\ag wr x cx k):=⟨p1,a1,o1,f1,Yx,hx1⟩
          have Re:Hid (qj.1.ok/\qj.2.length<=j):=⟨Dr,e8⟩
          have wa:IntKind.i64.wrap (i-(s.ix+1+(j:Int)))=i-(s.ix+1+(j:Int)):=by rw[IntKind.wrap_i64];omega
          have wb:s.ix+1+(j:Int)<=i:=by omega
          clear p1 a1 o1 f1 Yx hx1 hkj hqj Dr e1 e2 e3 e4 e5 e6 e7 e8
          go_wp2_with fail
          refine KB.mono ?_
          rintro ev w2 ⟨d2,DD,rfl,hs2,hb2⟩
          have KFr:=Po w2 R qj.1 r v' kb kd ss' (HP.out.1.below hb2) Re.out.1 (s.ix+1+(j:Int)) d2 DD kj hs2
          have Br:Hid (Below wr.heap.size wr w2):=hb2
          clear KB hs2 hb2
          go_wp2_with fail
          refine KFr.mono ?_
          rintro ev w3 ⟨vf,rfl,hFf,hOf,hG⟩
          obtain⟨v3,kb3,kd3,ss3,p3,a3,o3⟩:=hG
          obtain⟨fa,fc,rfl⟩:=hFf.shape
          have p2:=HP.out.1.below Br.out
          have f2:=HP.out.2.2.2.1.below Br.out
          have f3:=f2.apart a3 (λk hk=>iP.FL p2 f2 hk) (λk hk=>p2.plain hk)
          have hfl:=(xW qj.1 (s.ix+1+(j:Int)) kj).2
          obtain⟨v4,w4,hrun,f4,a4,o4⟩:=f3.append hFf (by have:=Re.out.2;omega)
          have Zq:Hid ((Builtin.append_ #[41,41] 41 #[.slice oa qj.2.length oc,.slice fa (jg qj.1 (s.ix+1+(j:Int)) kj).2.length fc]).run Tryz.prog w3=.ok v4 w4):=hrun
          have hA3:Apart (lM R r v) w w3:=(HP.out.2.1.trans (Apart.of_below (F:=λ_=>False) Br.out) (λ_ h=>h.elim)).trans a3 (rX.own HP.out.2.2.1)
          have HN:Hid (DT w R r v (bU k i (s.ix+1) (jB s i k) (j+1)) v4 x cx k w4):=by
           show DT w R r v _ v4 x cx k w4
           rw[Vn.out]
           refine⟨v3,kb3,kd3,ss3,p3.apart a4 (λk hk ho=>iP.FL p3 f3 hk ho) (λk hk=>f3.plain hk),hA3.trans a4 (λk hk=>.inr (HP.out.2.2.2.2.1 k hk)),λj hj=>?_,f4,λj hj=>?_,((HP.out.2.2.2.2.2.below Br.out).apart a3 λk hk=>p2.plain hk).apart a4 λk hk=>f3.plain hk⟩
           ·rcases o3 j hj with h|h
            ·exact HP.out.2.2.1 j h
            ·exact .inr (Nat.le_trans HP.out.2.1.size (Nat.le_trans Br.out.size h))
           ·rcases o4 j hj with h|h
            ·exact HP.out.2.2.2.2.1 j h
            ·exact Nat.le_trans hA3.size h
          obtain⟨a4',c4',e4⟩:=f4.shape
          obtain⟨l4,hl4⟩:=ai ((qj.2++(jg qj.1 (s.ix+1+(j:Int)) kj).2).length)
          rw[<-hl4] at e4
          subst e4
          clear hl4
          clear KFr hFf hOf p3 a3 o3 p2 f2 f3 hrun f4 a4 o4 hA3 hfl HP Vn
          go_wp2_with (at_builtin;refine wpList_append_run rfl (.tmp 94) (.tmp 98) 41 rfl _ _ _ rfl rfl Zq.out ?_)
          go_roundw
          case rel=>exact⟨j+1,by omega,by go_num,HN.out⟩
          case measure=>simp[intOf];omega
         ·have Yp:j=cnt:=by omega
          have HE:Hid (Pp w R r v s e i k (.returned (.tuple #[.slice oa (bU k i (s.ix+1) (jB s i k) j).2.length oc,.int .i64 0])) wr):=by
           subst Yp
           refine⟨_,by rw[HZ.out],by rw[Yt.out];exact f1,Yx,?_⟩
           rw[Yt.out]
           exact⟨v',kb,kd,ss',p1,a1,o1⟩
          have hdi:decide (s.ix+1+(j:Int)<=i)=false:=decide_eq_false (by omega)
          clear p1 a1 o1 f1 Yx hx1 Yp
          go_wp2
          go_ret2
          exact HE.out
       ·have d6:(((dx s.ix s.key i k:Nat):Int)==0)=false:=by simpa using q
        refine wp_region_noPanic ?_
        refine wp_region_held (S:=λV=>V.cell? ⟨R,13,none⟩=some (.int .i64 s.ix)/\V.cell? ⟨R,14,none⟩=some (.slice ka s.key.length kc)) (by kernel_rfl) ?_
        have hS:=hS0
        refine tk 0 hS ?_
        refine tk 1 hS ?_
        refine tk 2 hS ?_
        refine tk 3 hS ?_
        refine tk 4 hS ?_
        refine tk 5 hS ?_
        refine tk 6 hS ?_
        refine tk 7 hS ?_
        refine tk 8 hS ?_
        refine tk 9 hS ?_
        refine aI 10 rfl (by kernel_rfl) (by rfl) (λK hK=>?_)
        clear hS
        go_simp
        refine KF.mono ?_
        rintro ev w1 ⟨rfl,hb1⟩
        have HB1:Hid (Below w.heap.size w w1):=(Below.refl _ _).drew.trans hb1
        have H1:Hid (dS w1 R s r v ka kc ss):=H.out.below HB1.out
        clear hb1 KF
        refine hK.out _ _ (⟨H1.out.at'.cell 13 rfl,H1.out.at'.cell 14 rfl⟩) (λhS=>?_)
        clear hK
        (try simp only[Act.put,sT])
        refine tk 11 hS ?_
        refine wpAnyH_done (by kernel_rfl) (NoPanic.normal ?_) _
        clear hS hS0
        go_wp2
        go_ret2
        exact NOT.out _ d6 U3.out _ HB1.out
     ·have bG:Hid (gz s e i k=1):=U1.out.trans (if_pos (by rw[<-Bool.not_eq_true,aW];omega))
      have d7:((k.length:Int)==16)=false:=by simp;omega
      clear U1
      go_wp2
      go_ret2
      exact NOT.out 1 rfl bG.out _ (Below.refl _ _)
  ·have d2:(e==s.ep)=false:=by simpa using h2
   have bG:Hid (gz s e i k=6):=if_pos (.inr h2)
   go_wp2
   go_ret2
   exact NOT.out 6 rfl bG.out _ (Below.refl _ _)
end Go.Proofs.YtmffplhaclnehaaGreatDoor
namespace Go.Proofs.YtmffplhaclnehaaGreatDoor
set_option maxRecDepth 20000
open Go.ChangeShapes Go.WideShapes Go.ChangeAt Go.RowKit
variable {w W W':World} {R D n B:Nat} {s t:Rv} {kk:Int×Int×Int}
def lu (w W:World)(R D:Nat)(s t:Rv)(n:Nat):Prop:=∃ F G,PM W R (s,n) F/\DM W D t G/\(∀ k,F k->¬ G k)/\(∀ k,F k->w.heap.size<=k)/\(∀ k,G k->w.heap.size<=k)/\Below w.heap.size w W
theorem lu.aM (h:lu w W R D s t n):Below w.heap.size w W:=by
 obtain⟨F,G,_,_,_,_,_,h⟩:=h;exact h
theorem lu.oks (h:lu w W R D s t n):s.ok/\t.ok:=by
 obtain⟨F,G,h1,h2,_⟩:=h;exact⟨h1.ok,h2.ok⟩
theorem lu.below (h:lu w W R D s t n)(hb:Below W.heap.size W W'):lu w W' R D s t n:=by
 obtain⟨F,G,h1,h2,h3,h4,h5,h6⟩:=h
 exact⟨F,G,h1.below hb,h2.below hb,h3,h4,h5,h6.trans (hb.mono h6.size)⟩
def iO (w:World)(B:Nat)(k:Int×Int×Int):Prop:=w.heap[B]?=some (.cells #[.int .i64 k.1,.int .i64 k.2.1,.int .i64 k.2.2] 36 (0,0))
theorem iO.lt {k:Int×Int×Int}(h:iO w B k):B<w.heap.size:=(Array.getElem?_eq_some_iff.1 h).1
theorem iO.c0 {k:Int×Int×Int}(h:iO w B k):w.cell? ⟨B,0,none⟩=some (.int .i64 k.1):=cell_of_row _ _ 0 _ _ _ h
theorem iO.c1 {k:Int×Int×Int}(h:iO w B k):w.cell? ⟨B,1,none⟩=some (.int .i64 k.2.1):=cell_of_row _ _ 1 _ _ _ h
theorem iO.c2 {k:Int×Int×Int}(h:iO w B k):w.cell? ⟨B,2,none⟩=some (.int .i64 k.2.2):=cell_of_row _ _ 2 _ _ _ h
theorem iO.below {w':World}{k:Int×Int×Int}(h:iO w B k)(hb:Below w.heap.size w w'):iO w' B k:=(hb.block B h.lt).trans h
def bZ (w W:World)(R D:Nat)(s t:Rv)(n:Nat)(B:Nat)(k:Int×Int×Int):Prop:=∃ F G,PM W R (s,n) F/\DM W D t G/\(∀ k,F k->¬ G k)/\(∀ k,F k->w.heap.size<=k)/\(∀ k,G k->w.heap.size<=k)/\Below w.heap.size w W/\¬ F B/\¬ G B/\iO W B k
theorem bZ.base {k:Int×Int×Int}(h:bZ w W R D s t n B k):lu w W R D s t n:=by
 obtain⟨F,G,h1,h2,h3,h4,h5,h6,_⟩:=h;exact⟨F,G,h1,h2,h3,h4,h5,h6⟩
theorem bZ.aM {k:Int×Int×Int}(h:bZ w W R D s t n B k):Below w.heap.size w W:=h.base.aM
theorem bZ.box {k:Int×Int×Int}(h:bZ w W R D s t n B k):iO W B k:=by
 obtain⟨F,G,h1,h2,h3,h4,h5,h6,_,_,h7⟩:=h;exact h7
theorem lu.with {k:Int×Int×Int}(h:lu w W R D s t n)(hb:Below W.heap.size W W')(hB:W.heap.size<=B)(hx:iO W' B k):bZ w W' R D s t n B k:=by
 obtain⟨F,G,h1,h2,h3,h4,h5,h6⟩:=h
 exact⟨F,G,h1.below hb,h2.below hb,h3,h4,h5,h6.trans (hb.mono h6.size),λhf=>by have:=h1.lt hf;omega,λhg=>by have:=h2.lt hg;omega,hx⟩
theorem bZ.below {k:Int×Int×Int}(h:bZ w W R D s t n B k)(hb:Below W.heap.size W W'):bZ w W' R D s t n B k:=by
 obtain⟨F,G,h1,h2,h3,h4,h5,h6,h7,h8,h9⟩:=h
 exact⟨F,G,h1.below hb,h2.below hb,h3,h4,h5,h6.trans (hb.mono h6.size),h7,h8,h9.below hb⟩
theorem xw.duo {c:Cf}{me:Int}(h:xw w R c me W)(h':OW W D c me W'):lu w W' R D (newR c me) (newR c me) 0:=by
 obtain⟨F,h1,h2,h3⟩:=h
 obtain⟨G,g1,g2,g3⟩:=h'
 refine⟨F,G,h1.below g3,g1,λk hk hg=>?_,h2,λk hk=>Nat.le_trans h3.size (g2 k hk),h3.trans (g3.mono h3.size)⟩
 have:=h1.lt hk
 have:=g2 k hg
 omega
theorem Ve {s':Rv}{n':Nat}{F G:Nat->Prop}(h1:PM W R (s,n) F)(h2:DM W D t G)(h3:∀ k,F k->¬ G k)(h4:∀ k,F k->w.heap.size<=k)(h5:∀ k,G k->w.heap.size<=k)(h6:Below w.heap.size w W)(h7:¬ F B)(h8:¬ G B)(h9:iO W B kk)(hl:Left PM W F R (s',n') W'):bZ w W' R D s' t n' B kk:=by
 obtain⟨F',g1,g2,g3⟩:=hl
 refine⟨F',G,g1,h2.apart g2 h3 (λk hk=>h1.plain hk),λk hk hg=>?_,λk hk=>?_,h5,g2.below h6 h4 h6.size,λhf=>?_,h8,(g2.block B h9.lt h7).trans h9⟩
 ·rcases g3 k hk with h|h
  ·exact h3 k h hg
  ·have:=h2.lt hg;omega
 ·rcases g3 k hk with h|h
  ·exact h4 k h
  ·exact Nat.le_trans h6.size h
 ·rcases g3 B hf with h|h
  ·exact h7 h
  ·have:=h9.lt;omega
theorem Vf {t':Rv}{F G:Nat->Prop}(h1:PM W R (s,n) F)(h2:DM W D t G)(h3:∀ k,F k->¬ G k)(h4:∀ k,F k->w.heap.size<=k)(h5:∀ k,G k->w.heap.size<=k)(h6:Below w.heap.size w W)(h7:¬ F B)(h8:¬ G B)(h9:iO W B kk)(hl:Left DM W G D t' W'):bZ w W' R D s t' n B kk:=by
 obtain⟨G',g1,g2,g3⟩:=hl
 refine⟨F,G',h1.apart g2 (λk hk hf=>h3 k hf hk) (λk hk=>h2.plain hk),g1,λk hk hg=>?_,h4,λk hk=>?_,g2.below h6 h5 h6.size,h7,λhf=>?_,(g2.block B h9.lt h8).trans h9⟩
 ·rcases g3 k hg with h|h
  ·exact h3 k hk h
  ·have:=h1.lt hk;omega
 ·rcases g3 k hk with h|h
  ·exact h5 k h
  ·exact Nat.le_trans h6.size h
 ·rcases g3 B hf with h|h
  ·exact h8 h
  ·have:=h9.lt;omega
theorem bZ.sees (h:bZ w W R D s t n B kk){a:Option Addr}{c:Nat}{l:List UInt8}(hs:ag w a c l):ag W a c l:=hs.below h.aM
theorem bZ.anchor (h:bZ w W R D s t n B kk)(hT:iw w)(hn:n<=80000000)(e st i:Int)(x:Option Addr)(cx:Nat)(k:List UInt8)(hx:ag W x cx k)(hk:k.length<=140737488355328):
  Calls Tryz.prog 11 #[.pointer (some ⟨R,0,none⟩),.int .i64 e,.int .i64 st,.int .i64 i,.slice x k.length cx] W λev w'=>ev=.returned (.int .i64 (fO s e st i k))/\bZ w w' R D (eO s e st i k) t (n+64) B kk:=by
 obtain⟨F,G,h1,h2,h3,h4,h5,h6,h7,h8,h9⟩:=h
 exact(vw W R s n F h1 (hT.below h6) (by omega) e st i x cx k hx hk).mono λ_ _ ⟨he,hl⟩=>⟨he,Ve h1 h2 h3 h4 h5 h6 h7 h8 h9 hl⟩
theorem bZ.Rf (h:bZ w W R D s t n B kk)(e st i:Int)(x:Option Addr)(cx:Nat)(k:List UInt8)(hx:ag W x cx k)(hk:k.length<=140737488351232):
  Calls Tryz.prog 12 #[.pointer (some ⟨D,0,none⟩),.int .i64 e,.int .i64 st,.int .i64 i,.slice x k.length cx] W λev w'=>ev=.returned (.int .i64 (fO t e st i k))/\bZ w w' R D s (eO t e st i k) n B kk:=by
 obtain⟨F,G,h1,h2,h3,h4,h5,h6,h7,h8,h9⟩:=h
 obtain⟨r,v,ka,kc,ss,hd,hok,hhi,rfl⟩:=id h2
 exact(RP W D t r v ka kc ss hd e st i x cx k hx hk).mono λ_ _ ⟨he,hg⟩=>⟨he,Vf h1 h2 h3 h4 h5 h6 h7 h8 h9 (hg.left (Ie hok e st i k) hhi hd.at'.lt)⟩
theorem bZ.offer (h:bZ w W R D s t n B kk)(hT:iw w)(hn:n<=80000000)(hlo:s.b.lost<=1000000)(x:Option Addr)(cx:Nat)(b:List UInt8)(hx:ag W x cx b)(hl:b.length<=140737488351232)(M:Int):
  Calls Tryz.prog 13 #[.pointer (some ⟨R,0,none⟩),.slice x b.length cx,.int .i64 M] W λev w'=>ev=.returned (.int .i64 (jy s b M))/\bZ w w' R D (iC s b M) t (n+65) B kk:=by
 obtain⟨F,G,h1,h2,h3,h4,h5,h6,h7,h8,h9⟩:=h
 exact(FK W R s n F h1 (hT.below h6) hn hlo x cx b hx hl M).mono λ_ _ ⟨he,hl⟩=>⟨he,Ve h1 h2 h3 h4 h5 h6 h7 h8 h9 hl⟩
theorem bZ.UO (h:bZ w W R D s t n B kk)(hlo:t.b.lost<=1000000)(x:Option Addr)(cx:Nat)(b:List UInt8)(hx:ag W x cx b)(hl:b.length<=140737488351232)(M:Int):
  Calls Tryz.prog 14 #[.pointer (some ⟨D,0,none⟩),.slice x b.length cx,.int .i64 M] W λev w'=>ev=.returned (.int .i64 (jy t b M))/\bZ w w' R D s (iC t b M) n B kk:=by
 obtain⟨F,G,h1,h2,h3,h4,h5,h6,h7,h8,h9⟩:=h
 obtain⟨r,v,ka,kc,ss,hd,hok,hhi,rfl⟩:=id h2
 exact(RQ W D t r v ka kc ss hd hlo x cx b hx hl M).mono λ_ _ ⟨he,hg⟩=>⟨he,Vf h1 h2 h3 h4 h5 h6 h7 h8 h9 (hg.left (Ig hok b M) hhi hd.at'.lt)⟩
theorem bZ.tells (h:bZ w W R D s t n B kk)(hT:iw w)(hn:n<=80000000)(e i:Int)(x:Option Addr)(cx:Nat)(k:List UInt8)(hx:ag w x cx k)(hk:k.length<=140737488351232):
  Calls Tryz.prog 15 #[.pointer (some ⟨R,0,none⟩),.int .i64 e,.int .i64 i,.slice x k.length cx] W λev w1=>∃ va vn vc,ev=.returned (.tuple #[.slice va vn vc,.int .i64 (gz s e i k)])/\Below w.heap.size w w1/\iO w1 B kk /\
   ∀ w1',Below w1.heap.size w1 w1'->Calls Tryz.prog 16 #[.pointer (some ⟨D,0,none⟩),.int .i64 e,.int .i64 i,.slice x k.length cx] w1' λev w2=>∃ ua un uc,ev=.returned (.tuple #[.slice ua un uc,.int .i64 (gz t e i k)])/\bZ w w2 R D (jw s e i k).1 (jw t e i k).1 (n+16448) B kk/\iP w2 (.slice va vn vc) (jw s e i k).2/\iP w2 (.slice ua un uc) (jw t e i k).2:=by
 have hxW:=h.sees hx
 obtain⟨F,G,h1,h2,h3,h4,h5,h6,h7,h8,h9⟩:=h
 refine(KE W R s n F h1 (hT.below h6) hn e i x cx k hxW (by omega)).mono ?_
 rintro ev w1 ⟨vo,rfl,hF,hO,hl⟩
 have hD1:=Ve h1 h2 h3 h4 h5 h6 h7 h8 h9 hl
 obtain⟨va,vc,rfl⟩:=hF.shape
 refine⟨va,_,vc,rfl,hD1.aM,hD1.box,λw1' hb=>?_⟩
 have OO:=hD1.below hb
 have hx1:=OO.sees hx
 obtain⟨F1,G1,g1,g2,g3,g4,g5,g6,g7,g8,g9⟩:=OO
 obtain⟨r,v,ka,kc,ss,hd,hok,hhi,rfl⟩:=id g2
 refine(RS w1' D t r v ka kc ss hd hok e i x cx k hx1 hk).mono ?_
 rintro ev w2 ⟨uo,rfl,hF2,hO2,hg⟩
 have hlD:=hg.left (Ih hok e i k) hhi hd.at'.lt
 have hD2:=Vf g1 g2 g3 g4 g5 g6 g7 g8 g9 hlD
 obtain⟨ua,uc,rfl⟩:=hF2.shape
 obtain⟨_,_,ha2,_⟩:=hlD
 have Pz:=hF.below hb
 exact⟨ua,_,uc,rfl,hD2,Pz.apart ha2 (λk hk=>iP.FL hd Pz hk) (λk hk=>hd.plain hk),hF2⟩
theorem lu.told (h:lu w W R D s s n):
  (∀ i,Calls Tryz.prog 18 #[.pointer (some ⟨R,0,none⟩)] (W.drewN i) λe w'=>e=.returned (.int .i64 s.ep)/\w'=W.drewN i)/\(∀ i,Calls Tryz.prog 19 #[.pointer (some ⟨R,0,none⟩)] (W.drewN i) λe w'=>e=.returned (.int .i64 s.ix)/\w'=W.drewN i) /\
  (∀ i,Calls Tryz.prog 20 #[.pointer (some ⟨R,0,none⟩)] (W.drewN i) λe w'=>e=.returned (.int .i64 (s.b.L.length:Int))/\w'=W.drewN i)/\(∀ i,Calls Tryz.prog 21 #[.pointer (some ⟨R,0,none⟩)] (W.drewN i) λe w'=>e=.returned (.int .i64 s.last)/\w'=W.drewN i) /\
  W.cell? ⟨D,11,none⟩=some (.int .i64 s.ep)/\W.cell? ⟨D,13,none⟩=some (.int .i64 s.ix)/\W.cell? ⟨D,16,none⟩=some (.int .i64 s.last)/\∃ r,W.cell? ⟨D,15,none⟩=some (.pointer (some ⟨r,0,none⟩))/\∃ a c,W.cell? ⟨r,1,none⟩=some (.slice a s.b.L.length c):=by
 obtain⟨F,G,h1,h2,_⟩:=h
 obtain⟨g,m,v,ka,kc,ss,hp,_⟩:=h1
 obtain⟨r,v',ka',kc',ss',hd,_⟩:=h2
 have hb:∀ i,Below W.heap.size W (W.drewN i):=λi=>below_drewN (Below.refl _ _) i
 refine⟨λi=>zx _ R s ka kc g (hp.below (hb i)).at',λi=>Kw _ R s ka kc g (hp.below (hb i)).at',λi=>Dj _ R s n g m v ka kc ss (hp.below (hb i)),λi=>OT _ R s ka kc g (hp.below (hb i)).at',hd.at'.cell 11 rfl,hd.at'.cell 13 rfl,hd.at'.cell 16 rfl,r,hd.at'.cell 15 rfl,?_⟩
 obtain⟨a,c,rfl,-⟩:=hd.buf.row.shape
 have:=hd.buf.at'.c1
 rw[hd.buf.len.1] at this
 exact⟨a,c,this⟩
end Go.Proofs.YtmffplhaclnehaaGreatDoor
namespace Go.Proofs.YtmffplhaclnehaaGreatDoor
set_option maxRecDepth 20000
set_option maxHeartbeats 1600000
open Go.ChangeShapes Go.WideShapes Go.ChangeAt Go.RowKit
theorem FJ (F:Fr):kW F F=true:=by simp[kW]
theorem Row.frame {w:World}{a:Option Addr}{n c:Nat}{os:List (Fr×At)}(h:Row VD w (.slice a n c) os){j:Nat}{p:Fr×At}(hp:os[j]?=some p):∃ q,a=some ⟨q,0,none⟩/\(Instr.loadAt 61 (.pointer (some ⟨q,j*13,none⟩))).run Tryz.prog w=.ok (.agg (au p.1 p.2)) w:=by
 obtain⟨_,q,rfl,hc⟩:=h.get hp
 exact⟨q,rfl,run_loadAt_mid w q (j*13) 61 (wJ p.1 p.2) _ (λt v hv=>hc t v hv) Tryz.underlying61 rfl (by kernel_rfl)⟩
theorem JW (w:World)(a b:Option Addr)(n m c d:Nat)(L:List Fr)(ha:iP w (.slice a n c) L)(hb:iP w (.slice b m d) L)(hl:L.length<=900):Calls Tryz.prog 17 #[.slice a n c,.slice b m d] w λe w'=>e=.returned (.bool true)/\Below w.heap.size w w':=by
 obtain⟨_,_,e1⟩:=ha.shape
 obtain⟨_,_,e2⟩:=hb.shape
 cases e1
 cases e2
 have hfm:Tryz.prog.follows .mixedOrders=true:=by kernel_rfl
 obtain⟨os,r1,s1,m1⟩:=ha
 obtain⟨ps,r2,s2,m2⟩:=hb
 have HA:Hid (Row VD w (.slice a L.length c) os/\(∀ p∈os,Seen w p.1 p.2)/\os.map Prod.fst=L):=⟨r1,s1,m1⟩
 have HB:Hid (Row VD w (.slice b L.length d) ps/\(∀ p∈ps,Seen w p.1 p.2)/\ps.map Prod.fst=L):=⟨r2,s2,m2⟩
 clear r1 s1 m1 r2 s2 m2
 go_enter Tryz.func17,Tryz.ntmps17
 go_wp2
 go_loopw [5] (λiv wr=>∃ (t:Nat),t<=L.length/\iv=.int .i64 (t:Int)/\Below w.heap.size w wr) (λiv _=>(L.length-intOf iv).toNat)
 case atStart=>exact⟨0,by omega,rfl,Below.refl _ _⟩
 case round=>
  obtain⟨t,ht,rfl,hbr⟩:=hrel
  by_cases htc:t<L.length
  ·obtain⟨F,hF⟩:∃ F,L[t]?=some F:=⟨L[t]'htc,List.getElem?_eq_getElem htc⟩
   have hbd:Below wr.heap.size wr wr.drew:=(Below.refl _ _).drew
   have OU:=hbr.trans (hbd.mono hbr.size)
   obtain⟨⟨F1,A1⟩,hp1⟩:∃ p,os[t]?=some p:=⟨os[t]'(by have:=congrArg List.length HA.out.2.2;simp at this;omega),List.getElem?_eq_getElem _⟩
   obtain⟨⟨F2,A2⟩,hp2⟩:∃ p,ps[t]?=some p:=⟨ps[t]'(by have:=congrArg List.length HB.out.2.2;simp at this;omega),List.getElem?_eq_getElem _⟩
   have e1:F1=F:=by
    have h:=hF
    rw[<-HA.out.2.2,List.getElem?_map,hp1] at h
    exact Option.some.inj h
   have e2:F2=F:=by
    have h:=hF
    rw[<-HB.out.2.2,List.getElem?_map,hp2] at h
    exact Option.some.inj h
   subst e1
   subst e2
   obtain⟨q1,rfl,-⟩:=HA.out.1.frame hp1
   obtain⟨q2,rfl,-⟩:=HB.out.1.frame hp2
   have HS:Hid (∀ V,Below w.heap.size w V->(λV=>(Instr.loadAt 61 (.pointer (some ⟨q1,t*13,none⟩))).run Tryz.prog V=.ok (.agg (au F2 A1)) V/\(Instr.loadAt 61 (.pointer (some ⟨q2,t*13,none⟩))).run Tryz.prog V=.ok (.agg (au F2 A2)) V) V):=λV hv=>by
    obtain⟨_,e1,l1⟩:=(HA.out.1.below hv).frame hp1
    obtain⟨_,e2,l2⟩:=(HB.out.1.below hv).frame hp2
    cases e1
    cases e2
    exact⟨l1,l2⟩
   have KS:=JE wr.drew F2 A1 F2 A2 ((HA.out.2.1 _ (List.mem_of_getElem? hp1)).below OU) ((HB.out.2.1 _ (List.mem_of_getElem? hp2)).below OU) true (FJ F2)
   have hS0:=HS.out _ OU
   have Vb:Hid (Below w.heap.size w wr.drew):=OU
   clear hbd hbr OU hF hp1 hp2
   go_wp2_with fail
   refine wp_region_noPanic ?_
   refine wp_region_held (S:=λV=>(Instr.loadAt 61 (.pointer (some ⟨q1,t*13,none⟩))).run Tryz.prog V=.ok (.agg (au F2 A1)) V/\(Instr.loadAt 61 (.pointer (some ⟨q2,t*13,none⟩))).run Tryz.prog V=.ok (.agg (au F2 A2)) V) (by kernel_rfl) ?_
   have hS:=hS0
   refine tk 0 hS ?_
   refine tk 1 hS ?_
   refine tk 2 hS ?_
   refine tk 3 (v:=Value.agg (au F2 A1)) (hv:=λW hW=>fZ 61 (.tmp 19) rfl _ _ rfl hW.1) hS ?_
   refine tk 4 hS ?_
   refine tk 5 hS ?_
   refine tk 6 hS ?_
   refine tk 7 (v:=Value.agg (au F2 A2)) (hv:=λW hW=>fZ 61 (.tmp 23) rfl _ _ rfl hW.2) hS ?_
   refine aI 8 rfl (by kernel_rfl) (by rfl) (λK hK=>?_)
   clear hS
   go_simp
   refine KS.mono ?_
   rintro ev w2 ⟨rfl,hb2⟩
   have HB2:Hid (Below w.heap.size w w2):=Vb.out.trans (hb2.mono Vb.out.size)
   clear hb2 KS
   refine hK.out _ _ (HS.out _ HB2.out) (λhS=>?_)
   clear hK
   (try simp only[Act.put,sT])
   refine tk 9 hS ?_
   refine wpAnyH_done (by kernel_rfl) (NoPanic.normal ?_) _
   clear hS hS0
   go_wp2
   go_roundw
   case rel=>exact⟨t+1,by omega,by go_num,HB2.out⟩
   case measure=>simp[intOf];omega
  ·have hdt:decide ((t:Int)<(L.length:Int))=false:=decide_eq_false (by omega)
   have Vb:Hid (Below w.heap.size w wr):=hbr
   clear hbr
   go_wp2
   go_ret
   exact⟨rfl,Vb.out⟩
end Go.Proofs.YtmffplhaclnehaaGreatDoor
