/-
  The program's Hear, where it hears what it waited for.
-/
import Derived.Test.YthogohkieiogiaaGreatDoorPeH
namespace Go.Proofs.YthogohkieiogiaaGreatDoor
set_option maxRecDepth 20000
set_option maxHeartbeats 12800000
open Go.ChangeShapes Go.WideShapes Go.ChangeAt Go.RowKit
def PHeardV (w w':World)(e:Ending)(R:Nat)(s:Ec)(x:An)(n:Int)(ma:Option Addr)(mc:Nat):Prop:=∃ a c,e=.returned (.tuple #[.agg (anC x a c),.int .i64 n])/\Sees w' a c x.key/\PEAll w' R s ma mc/\Apart (λk=>k=R) w w'
theorem pehear_took (w:World)(R:Nat)(s:Ec)(ma:Option Addr)(mc:Nat)(h:PEAll w R s ma mc)(hok:s.ok)(F:Fr)(A:At)(hF:Seen w F A)(now:Int)(hB:s.heB F now=true)(n:Nat)(t:Int)(hat:s.ws[F.f.toNat]?=some (some (n,t)))(hnn:n=F.n)(htn:t<=now)(S1:Ec)(hS1:S1={ s with ws:=s.ws.set F.f.toNat none })(x:An)(hx:x=if s.c.v<now-t then An.zero else ⟨F.f,F.m-now,F.m+mostN (now-t) (s.c.r+s.c.l)-now,F.e,F.s,F.i,F.key⟩)(E:Int)(hE:E=if s.c.v<now-t then 12 else 0):
  Calls Tryz.prog 12 #[.pointer (some ⟨R,0,none⟩),.agg (frC F A),.int .i64 now] w λe w'=>PHeardV w w' e R S1 x E ma mc:=by
 subst hnn
 have hm:=hok.ms
 obtain⟨W,hW⟩:∃ W,W=(w.alloc (.cells (frC F A) 41)).alloc (.cells (anC An.zero none 0) 48):=⟨_,rfl⟩
 have hb0:Below w.heap.size w W:=by rw[hW];exact(Go.Joins.below_alloc1 _ _).alloc (by simp) _
 have hfr:FrAt W w.heap.size F A:=by rw[hW];exact(FrAt.new w F A).alloc _
 have han:PnAt W (w.heap.size+1) An.zero none 0:=by
  rw[hW]
  simpa using PnAt.new (w.alloc (.cells (frC F A) 41)) An.zero none 0
 have hzW:W.heap.size=w.heap.size+2:=by rw[hW];simp
 have H0:Hid (PEAll W R s ma mc/\FrAt W w.heap.size F A/\PnAt W (w.heap.size+1) An.zero none 0/\Below w.heap.size w W/\Seen W F A/\s.ms.length=16/\R<w.heap.size/\W.heap.size=w.heap.size+2):=⟨h.below hb0,hfr,han,hb0,hF.below hb0,hm,h.at'.lt,hzW⟩
 have HW:Hid ((w.alloc (.cells (frC F A) 41)).alloc (.cells (anC An.zero none 0) 48)=W):=hW.symm
 have KM:=pemade_ok W R s ma mc H0.out.1.at' hm
 have KF:=pefor_ok W R s ma mc H0.out.1.at' F A H0.out.2.2.2.2.1 3
 have HL0:Hid ((Instr.loadAt 41 (.pointer (some ⟨w.heap.size,0,none⟩))).run Tryz.prog W=.ok (.agg (frC F A)) W):=H0.out.2.1.loads
 obtain⟨hk3,ht3,hr3,⟨hf0,hfn⟩,hT,hk16,hm0,hm1⟩:=Ec.heB_iff hB
 have hsp:=Ec.heB_split (s:=s) (F:=F) (now:=now)
 rw[hB] at hsp
 have hsp2:=hsp.symm
 rw[Bool.and_eq_true,Bool.and_eq_true] at hsp2
 have h3:=hsp2.1
 have h4:=hsp2.2.1
 clear hsp2
 rw[h3] at KF
 have hf8:F.f<8:=by have:=(right_of hok.cfg).n1;omega
 obtain⟨p,hp⟩:∃ p,p=some (F.n,t):=⟨_,rfl⟩
 rw[<-hp] at hat
 have ht0:=(hok.wait p (List.mem_of_getElem? hat) F.n t hp).2
 have hnow:=(timeB_iff.1 hT).2
 have HI:Hid (s.ws[F.f.toNat]?=some p/\s.othB F.f=true/\timeB now=true/\s.ok/\F.f.toNat<s.ws.length/\s.ws.length<=8):=⟨hat,h4,hT,hok,(List.getElem?_eq_some_iff.1 hat).1,by have:=hok.num;have:=(right_of hok.cfg).n1;omega⟩
 have HX:Hid (S1={ s with ws:=s.ws.set F.f.toNat none }/\(∀ W,Seen W F A->Calls Tryz.prog 32 #[.agg (pwC (some (F.n,t))).toArray,.agg (cfC s.c),.agg (frC F A),.int .i64 now] W λe w'=>HeardN W w' e x E)):=⟨hS1,λW hs=>peanswer W s.c hok.cfg (F.n,t) F A hs now ht0.1 htn hnow ⟨hm0,hm1⟩ (by omega) x E hx hE⟩
 clear h hF hW hb0 hfr han hm hzW hok hB hE hk3 ht3 hr3 hfn hT hk16 hm0 hm1 hsp h3 h4 hat ht0 hnow hx hS1
 go_enter Tryz.func12,Tryz.ntmps12
 go_upto_region 1 with fail
 rw[show ((w.alloc (.cells (frC F A) 41)).alloc (.cells #[Value.int IntKind.i64 0,Value.int IntKind.i64 0,Value.int IntKind.i64 0,Value.int IntKind.i64 0,Value.int IntKind.i64 0,Value.int IntKind.i64 0,Value.slice none 0 0] 48))=W from HW.out]
 go_wp2_with fail
 refine KM.mono ?_
 rintro e w1 ⟨rfl,hw1⟩
 rw[hw1]
 clear hw1 w1 KM
 go_wp2_with (first|(refine wpList_gload_run rfl 41 _ rfl _ _ rfl HL0.out ?_)|fail)
 refine KF.mono ?_
 rintro e V ⟨rfl,hbV⟩
 clear KF
 have e1:=(H0.out.2.1.below hbV).c1
 have KO:=peother_ok V R s ma mc (H0.out.1.at'.below hbV) F.f
 rw[HI.out.2.1] at KO
 have KT:=petime_ok V now
 rw[HI.out.2.2.1] at KT
 have HBV:Hid (Below W.heap.size W V):=hbV
 clear hbV
 go_wp2_with fail
 refine KO.mono ?_
 rintro e w1 ⟨rfl,hw1⟩
 rw[hw1]
 clear hw1 w1 KO
 go_wp2_with fail
 refine KT.mono ?_
 rintro e w1 ⟨rfl,hw1⟩
 rw[hw1]
 clear hw1 w1 KT
 go_upto_region 5 with fail
 go_quiet (fail)
 obtain⟨V1,hV1⟩:∃ V1,V1=V.drewN nq:=⟨_,rfl⟩
 have hb1:Below W.heap.size W V1:=by rw[hV1];exact HBV.out.trans ((below_drewN (Below.refl _ _) nq).mono HBV.out.size)
 rw[<-hV1]
 have HV1:Hid (Below W.heap.size W V1):=hb1
 clear hV1 e1
 have HQ:Hid (∀ U,Below V1.heap.size V1 U->((Instr.loadAt 64 (.pointer (some ⟨R,14+F.f.toNat*2,none⟩))).run Tryz.prog U=.ok (.agg (pwC p).toArray) U/\(∀ n t,p=some (n,t)->U.cell? ⟨R,14+F.f.toNat*2,none⟩=some (.int .u64 (n:Int))/\U.cell? ⟨R,14+F.f.toNat*2+1,none⟩=some (.int .i64 t))/\U.cell? ⟨w.heap.size,6,none⟩=some (.int .u64 (F.n:Int)))):=λU hU=>by
  have h1:=(H0.out.1.at'.below hb1).below hU
  refine⟨h1.loads HI.out.1,?_,((H0.out.2.1.below hb1).below hU).c6⟩
  rintro n t rfl
  exact⟨h1.at? HI.out.1 0 rfl,h1.at? HI.out.1 1 rfl⟩
 have HB0:Hid (∀ U,(Instr.build 64 #[]).run Tryz.prog U=.ok (.agg #[.int .u64 0,.int .i64 0]) U):=pqbuild0
 have HP:Hid (∀ n t,p=some (n,t)->0<n):=λn t e=>(HI.out.2.2.2.1.wait p (List.mem_of_getElem? HI.out.1) n t e).1.1
 have hS0:=HQ.out V1.drew (Below.refl _ _).drew
 clear hb1
 go_upto_region 6 with fail
 subst hp
 obtain⟨hS1,hS2,hS3⟩:=hS0
 have h0n:=HP.out F.n t rfl
 obtain⟨hS4,hS5⟩:=hS2 F.n t rfl
 have hnb:((F.n:Int) != (F.n:Int))=false:=by simp
 have hlb:decide (now<t)=false:=by simp;omega
 have hS6:=And.intro hS1 (And.intro hS4 (And.intro hS5 hS3))
 clear hS1 hS2 hS3 hS4 hS5
 refine wp_region_noPanic ?_
 refine wp_region_held (S:=λU=>(Instr.loadAt 64 (.pointer (some ⟨R,14+F.f.toNat*2,none⟩))).run Tryz.prog U=.ok (.agg (pwC (some (F.n,t))).toArray) U/\U.cell? ⟨R,14+F.f.toNat*2,none⟩=some (.int .u64 (F.n:Int))/\U.cell? ⟨R,14+F.f.toNat*2+1,none⟩=some (.int .i64 t)/\U.cell? ⟨w.heap.size,6,none⟩=some (.int .u64 (F.n:Int))) (by kernel_rfl) ?_
 have hS:=hS6
 refine tk 0 hS ?_
 refine tk 1 hS ?_
 refine tk 2 (v:=Value.agg (pwC (some (F.n,t))).toArray) (hv:=λU hU=>exec_load 64 (.tmp 40) rfl _ _ rfl hU.1) hS ?_
 refine tk 3 (v:=Value.agg #[.int .u64 0,.int .i64 0]) (hv:=λU _=>pexec_build 64 _ rfl [] _ rfl (HB0.out U)) hS ?_
 refine tk 4 (v:=Value.bool false) (hv:=λU hU=>exec_eqQu _ _ rfl (some (F.n,t)) (λ_ _ h=>by cases h;exact h0n) rfl rfl) hS ?_
 refine tk 5 hS ?_
 refine tk 6 hS ?_
 refine tk 7 hS ?_
 refine tk 8 hS ?_
 refine tk 9 hS ?_
 refine tk 10 hS ?_
 refine tk 11 hS ?_
 refine tk 12 (v:=Value.bool false) (hv:=by intro w hSw;(try dsimp only at hSw);go_split_ands;go_simp) hS ?_
 refine tk 13 (v:=Value.bool false) (hv:=by intro w hSw;(try dsimp only at hSw);go_split_ands;go_simp) hS ?_
 refine tk 14 hS ?_
 refine tk 15 hS ?_
 refine tk 16 hS ?_
 refine tk 17 hS ?_
 refine tk 18 hS ?_
 refine tk 19 hS ?_
 refine tk 20 (v:=Value.bool false) (hv:=by intro w hSw;(try dsimp only at hSw);go_split_ands;go_simp) hS ?_
 refine tk 21 (v:=Value.bool false) (hv:=by intro w hSw;(try dsimp only at hSw);go_split_ands;go_simp) hS ?_
 refine wpAnyH_done (by kernel_rfl) ?_ _
 refine NoPanic.normal ?_
 obtain⟨V,hV⟩:∃ V,V=V1.drew:=⟨_,rfl⟩
 rw[show ({ heap:=V1.heap,tape:=V1.tape,drawn:=V1.drawn+1,os:=V1.os,output:=V1.output }:World)=V from hV.symm]
 have hbV:Below W.heap.size W V:=by rw[hV];exact HV1.out.trans ((Below.refl _ _).drew.mono HV1.out.size)
 clear hS hV
 clear hS6 hnb hlb h0n HQ
 have pV:=H0.out.1.below hbV
 have HLQ:Hid ((Instr.loadAt 64 (.pointer (some ⟨R,14+F.f.toNat*2,none⟩))).run Tryz.prog V=.ok (.agg (pwC (some (F.n,t))).toArray) V):=pV.at'.loads HI.out.1
 obtain⟨V2,hst2,pV2,aV2⟩:=pV.at'.stores HI.out.2.2.2.2.2 F.f.toNat HI.out.2.2.2.2.1 none (.int .u64 0) (.int .i64 0) rfl (by
  intro u hu
  simp only[List.mem_cons,List.not_mem_nil,or_false] at hu
  rcases hu with rfl|rfl<;>rfl)
 rw[<-HX.out.1] at pV2
 have HST2:Hid ((Instr.storeAt 64 (.pointer (some ⟨R,14+F.f.toNat*2,none⟩)) (.agg #[.int .u64 0,.int .i64 0])).run Tryz.prog V=.ok () V2):=hst2
 have hms:S1.ms=s.ms:=by rw[HX.out.1]
 have hcc:S1.c=s.c:=by rw[HX.out.1]
 have H2:Hid (PEAll V2 R S1 ma mc/\FrAt V2 w.heap.size F A/\Seen V2 F A/\PnAt V2 (w.heap.size+1) An.zero none 0/\Apart (λk=>k=R) w V2/\w.heap.size+2<=V2.heap.size):=by
  have hR:=H0.out.2.2.2.2.2.2.1
  have hz:=H0.out.2.2.2.2.2.2.2
  have hzV:=hbV.size
  have sw:=λ{x c l} (hs:Sees V x c l)=>pV.at'.aside (x:=x) (c:=c) (l:=l) aV2 hs
  have hs5:=H0.out.2.2.2.2.1.below hbV
  refine⟨⟨pV2,by rw[hms];exact sw pV.ms⟩,(aV2.block _ (H0.out.2.1.below hbV).lt (by omega)).trans (H0.out.2.1.below hbV),⟨sw hs5.key,sw hs5.body,sw hs5.tag⟩,(aV2.block _ (H0.out.2.2.1.below hbV).lt (by omega)).trans (H0.out.2.2.1.below hbV),?_,?_⟩
  ·exact(Apart.of_below (F:=λk=>k=R) (H0.out.2.2.2.1.trans (hbV.mono H0.out.2.2.2.1.size))).trans aV2 (λk hk=>.inl hk)
  ·have:=aV2.size;omega
 clear pV pV2 aV2 hst2 hms hbV
 have hmf:∀ (fn:Fn) (first cap:Array Value) (w:World),(Instr.makeFunc fn first cap).run Tryz.prog w=.ok (.func fn first cap) w:=λ_ _ _ _=>rfl
 go_upto_region 10 with (first|(refine wpList_load_run rfl 64 _ rfl _ _ rfl HLQ.out ?_)|(refine wpList_build_run rfl 64 _ rfl [] _ rfl (HB0.out _) ?_)|(refine wpList_store_run rfl 64 _ _ rfl _ _ rfl rfl HST2.out ?_)|fail)
 have HQ:Hid (∀ U,Apart (λk=>k=w.heap.size+1) V2 U->((Instr.loadAt 24 (.pointer (some ⟨R,0,none⟩))).run Tryz.prog U=.ok (.agg (cfC s.c)) U/\(Instr.loadAt 41 (.pointer (some ⟨w.heap.size,0,none⟩))).run Tryz.prog U=.ok (.agg (frC F A)) U)):=λU hU=>by
  have hR:=H0.out.2.2.2.2.2.2.1
  have h1:PEAt U R S1 ma mc:=(hU.block _ H2.out.1.at'.lt (by omega)).trans H2.out.1.at'
  have h2:FrAt U w.heap.size F A:=(hU.block _ H2.out.2.1.lt (by omega)).trans H2.out.2.1
  rw[<-hcc]
  exact⟨h1.config,h2.loads⟩
 have hS0:=HQ.out V2.drew (Apart.refl _ V2).drew
 have KA:=HX.out.2 V2.drew (H2.out.2.2.1.below (Below.refl _ _).drew)
 refine wp_region_noPanic ?_
 refine wp_region_held (S:=λU=>(Instr.loadAt 24 (.pointer (some ⟨R,0,none⟩))).run Tryz.prog U=.ok (.agg (cfC s.c)) U/\(Instr.loadAt 41 (.pointer (some ⟨w.heap.size,0,none⟩))).run Tryz.prog U=.ok (.agg (frC F A)) U) (by kernel_rfl) ?_
 have hS:=hS0
 refine tk 0 hS ?_
 refine tk 1 hS ?_
 refine tk 2 hS ?_
 refine tk 3 hS ?_
 refine tk 4 (v:=Value.agg (cfC s.c)) (hv:=λU hU=>exec_load 24 (.tmp 72) rfl _ _ rfl hU.1) hS ?_
 refine tk 5 (v:=Value.agg (frC F A)) (hv:=λU hU=>exec_load 41 (.tmp 4) rfl _ _ rfl hU.2) hS ?_
 refine tk 6 hS ?_
 refine any_one 7 rfl (by kernel_rfl) (by rfl) (λK hK=>?_)
 clear hS
 go_simp
 refine KA.mono ?_
 rintro ev U ⟨d,cd,rfl,hsU,hbU0⟩
 have hbU:Below V2.heap.size V2 U:=(Below.refl V2.heap.size V2).drew.trans hbU0
 have HQ1:=HQ.out U (Apart.of_below hbU)
 have HU:Hid (Sees U d cd x.key/\Below V2.heap.size V2 U):=⟨hsU,hbU⟩
 clear hsU hbU0 hbU KA
 refine hK.out _ _ (HQ1) (λhS=>?_)
 clear hK
 (try simp only[Act.put,sT])
 refine tk 8 hS ?_
 refine tk 9 hS ?_
 refine any_one 10 rfl (by kernel_rfl) (by rfl) (λK hK=>?_)
 clear hS
 obtain⟨X,hst,hX,hs,aX⟩:=pn_stored (H2.out.2.2.2.1.below HU.out.2) x d cd HU.out.1
 refine op_store_run 48 _ _ rfl _ _ rfl rfl hst ?_
 have aVX:Apart (λk=>k=w.heap.size+1) V2 X:=(Apart.of_below (F:=λk=>k=w.heap.size+1) HU.out.2).trans aX (λk hk=>.inl hk)
 have HQ2:=HQ.out X aVX
 have HE:Hid (PnAt X (w.heap.size+1) x d cd/\Sees X d cd x.key/\Apart (λk=>k=w.heap.size+1) V2 X):=⟨hX,hs,aVX⟩
 have HE2:Hid (PEAll X R S1 ma mc):=by
  have hR:=H0.out.2.2.2.2.2.2.1
  have hU2:=H2.out.1.below HU.out.2
  exact⟨(aX.block _ hU2.at'.lt (by omega)).trans hU2.at',aX.sees hU2.ms (λb off e hne hb=>(H2.out.2.2.2.1.below HU.out.2).apart hU2.ms b off e hne hb)⟩
 clear hst hX hs aX aVX
 refine hK.out _ _ (HQ2) (λhS=>?_)
 clear hK
 (try simp only[Act.put])
 refine tk 11 hS ?_
 refine wpAnyH_done (by kernel_rfl) ?_ _
 refine NoPanic.normal ?_
 clear hS hS0 HQ HQ1 HQ2 hmf
 go_wp2
 refine bodyPost_ret (res_pn_tmp rfl rfl HE.out.1) rfl ?_
 refine⟨d,cd,rfl,HE.out.2.1,HE2.out,H2.out.2.2.2.2.1.trans HE.out.2.2 (λk hk=>.inr (by omega))⟩
theorem pehear_any (w:World)(R:Nat)(s:Ec)(ma:Option Addr)(mc:Nat)(h:PEAll w R s ma mc)(hok:s.ok)(F:Fr)(A:At)(hF:Seen w F A)(now:Int):
  Calls Tryz.prog 12 #[.pointer (some ⟨R,0,none⟩),.agg (frC F A),.int .i64 now] w λe w'=>PHeardV w w' e R (s.heV F now) (s.heA F now) (s.heE F now) ma mc:=by
 have keep:∀ e w' n,HeardN w w' e An.zero n->PHeardV w w' e R s An.zero n ma mc:=by
  rintro e w' n ⟨a,c,he,hs,hb⟩
  exact⟨a,c,he,hs,h.below hb,Apart.of_below hb⟩
 by_cases hB:s.heB F now=true
 ·obtain⟨_,_,_,⟨hf0,hfn⟩,hT,_⟩:=Ec.heB_iff hB
  obtain⟨p,hp⟩:∃ p,s.ws[F.f.toNat]?=some p:=by
   have hl:F.f.toNat<s.ws.length:=by rw[hok.num];omega
   exact⟨s.ws[F.f.toNat],by simp[hl]⟩
  have six:s.heE F now=6->Calls Tryz.prog 12 #[.pointer (some ⟨R,0,none⟩),.agg (frC F A),.int .i64 now] w λe w'=>PHeardV w w' e R (s.heV F now) (s.heA F now) (s.heE F now) ma mc:=λhE=>by
   have e1:s.heV F now=s:=by unfold Ec.heV;rw[hE];simp
   have e2:s.heA F now=An.zero:=by unfold Ec.heA;rw[hE];simp
   rw[e1,e2,hE]
   exact(pehear_six w R s ma mc h hok F A hF now hB hE).mono λe w'=>keep e w' 6
  have hat:s.at? F=p:=by unfold Ec.at?;rw[hp];rfl
  rcases p with _|⟨n,t⟩
  ·exact six (by unfold Ec.heE;rw[if_pos hB,hat])
  ·have hEE:s.heE F now=if n≠F.n\/now<t then 6 else if s.c.v<now-t then 12 else 0:=by unfold Ec.heE;rw[if_pos hB,hat]
   by_cases hc:n≠F.n\/now<t
   ·exact six (hEE.trans (if_pos hc))
   ·have hE:s.heE F now=if s.c.v<now-t then 12 else 0:=hEE.trans (if_neg hc)
    have e1:s.heV F now={ s with ws:=s.ws.set F.f.toNat none }:=by
     unfold Ec.heV
     rw[if_pos]
     rw[hE]
     split
     ·exact .inr rfl
     ·exact .inl rfl
    have e2:s.heA F now=if s.c.v<now-t then An.zero else ⟨F.f,F.m-now,F.m+mostN (now-t) (s.c.r+s.c.l)-now,F.e,F.s,F.i,F.key⟩:=by
     unfold Ec.heA
     rw[hE,hat]
     split
     ·rw[if_neg (by decide)]
     ·rw[if_pos rfl]
    exact pehear_took w R s ma mc h hok F A hF now hB n t hp (Classical.byContradiction λhh=>hc (.inl hh)) (Int.not_lt.1 λhh=>hc (.inr hh)) _ e1 _ e2 _ hE
 ·have hB0:s.heB F now=false:=Bool.eq_false_iff.2 hB
  have hE:s.heE F now=1:=if_neg hB
  have e1:s.heV F now=s:=by unfold Ec.heV;rw[hE];simp
  have e2:s.heA F now=An.zero:=by unfold Ec.heA;rw[hE];simp
  rw[e1,e2,hE]
  exact(pehear_no w R s ma mc h hok.ms F A hF now hB0).mono λe w'=>keep e w' 1
end Go.Proofs.YthogohkieiogiaaGreatDoor
