/-
  The document's Hear, where it hears what it waited for.
-/
import Derived.Test.YtahnbljbhfpldaaGreatDoorEchoL
namespace Go.Proofs.YtahnbljbhfpldaaGreatDoor
set_option maxRecDepth 20000
set_option maxHeartbeats 12800000
open Go.ChangeShapes Go.WideShapes Go.ChangeAt Go.RowKit
theorem Tryz.underIv:Tryz.prog.underlying 49=some (.struct (match Tryz.prog.underlying 49 with|some (.struct f)=>f|_=>default)):=by kernel_rfl
theorem oneW:∀ u∈[Value.bool false,.int .u64 0,.int .i64 0],u.oneCell'=true:=by
 intro u hu
 simp only[List.mem_cons,List.not_mem_nil,or_false] at hu
 rcases hu with rfl|rfl|rfl<;>rfl
theorem sees_wd {w w':World}{g:Nat}{ws:List (Option (Nat×Int))}(h:DWAt w g ws)(a:Apart (λk=>k=g) w w'){x:Option Addr}{c:Nat}{l:List UInt8}(hs:Sees w x c l):Sees w' x c l:=a.sees hs (by
 intro k off e hne
 rintro rfl
 obtain⟨k',off',ha',hc⟩:=hs.at' hne
 rw[e] at ha'
 simp only[Option.some.injEq,Addr.mk.injEq,and_true] at ha'
 obtain⟨rfl,rfl⟩:=ha'
 obtain⟨y,l',hl⟩:=List.exists_cons_of_ne_nil hne
 have h0:=hc 0 y (by rw[hl];rfl)
 rw[cell_of_row _ _ (off+0) _ _ _ h] at h0
 exact wdL_no _ _ _ h0)
theorem an_stored2 {W:World}{k:Nat}{z:An}{za:Option Addr}{zc:Nat}(h:AnAt W k z za zc)(x:An)(a:Option Addr)(c:Nat)(hs:Sees W a c x.key):
  ∃ W',(Instr.storeAt 54 (.pointer (some ⟨k,0,none⟩)) (.agg (anC x a c))).run Tryz.prog W=.ok () W'/\AnAt W' k x a c/\Sees W' a c x.key/\Apart (λj=>j=k) W W':=by
 have aX:Apart (λj=>j=k) W (W.setRow k (anC x a c)):=⟨rfl,rfl,rfl,by simp,λj _ hn=>setRow_other _ _ _ _ hn⟩
 exact⟨_,h.stores x a c,setRow_heap _ _ _ _ 54 _ h,aX.sees hs (λb off e hne hb=>h.apart hs b off e hne hb),aX⟩
theorem DEAll.kept {w w':World}{R g k:Nat}{s:Ec}{ma:Option Addr}{mc:Nat}{z:An}{za:Option Addr}{zc:Nat}(h:DEAll w R g s ma mc)(hk:AnAt w k z za zc)(a:Apart (λj=>j=k) w w')(hR:R≠k)(hg:g≠k):DEAll w' R g s ma mc:=
 ⟨(a.block R h.at'.lt hR).trans h.at',(a.block g (Array.getElem?_eq_some_iff.1 h.ws).1 hg).trans h.ws,a.sees h.ms (λb off e hne hb=>hk.apart h.ms b off e hne hb)⟩
def HeardV (w w':World)(e:Ending)(R g:Nat)(s:Ec)(x:An)(n:Int)(ma:Option Addr)(mc:Nat):Prop:=∃ a c,e=.returned (.tuple #[.agg (anC x a c),.int .i64 n])/\Sees w' a c x.key/\DEAll w' R g s ma mc/\Apart (λk=>k=g) w w'
theorem dehear_took (w:World)(R g:Nat)(s:Ec)(ma:Option Addr)(mc:Nat)(h:DEAll w R g s ma mc)(hok:s.ok)(F:Fr)(A:At)(hF:Seen w F A)(now:Int)(hB:s.heB F now=true)(n:Nat)(t:Int)(hat:s.ws[F.f.toNat]?=some (some (n,t)))(hnn:n=F.n)(htn:t<=now)(S1:Ec)(hS1:S1={ s with ws:=s.ws.set F.f.toNat none })(D M:Int)(hD:D=now-t)(hM:M=mostN D (s.c.r+s.c.l))(x:An)(hx:x=if s.c.v<D then An.zero else ⟨F.f,F.m-now,F.m+M-now,F.e,F.s,F.i,F.key⟩)(E:Int)(hE:E=if s.c.v<D then 12 else 0):
  Calls Tryz.prog 19 #[.pointer (some ⟨R,0,none⟩),.agg (frC F A),.int .i64 now] w λe w'=>HeardV w w' e R g S1 x E ma mc:=by
 have hgR:R<w.heap.size/\g<w.heap.size/\R≠g:=by
  refine⟨h.at'.lt,(Array.getElem?_eq_some_iff.1 h.ws).1,?_⟩
  rintro rfl
  have h2:=h.ws
  have h3:=h.at'
  unfold DWAt at h2
  unfold DEAt at h3
  rw[h2] at h3
  simp at h3
 obtain⟨W,hW⟩:∃ W,W=(w.alloc (.cells (frC F A) 40)).alloc (.cells (anC An.zero none 0) 54):=⟨_,rfl⟩
 have hb0:Below w.heap.size w W:=by rw[hW];exact(Go.Joins.below_alloc1 _ _).alloc (by simp) _
 have hfr:FrAt W w.heap.size F A:=by rw[hW];exact(FrAt.new w F A).alloc _
 have han:AnAt W (w.heap.size+1) An.zero none 0:=by
  rw[hW]
  simpa using AnAt.new (w.alloc (.cells (frC F A) 40)) An.zero none 0
 have H0:Hid (DEAll W R g s ma mc/\FrAt W w.heap.size F A/\AnAt W (w.heap.size+1) An.zero none 0/\Below w.heap.size w W/\Seen W F A/\W=(w.alloc (.cells (frC F A) 40)).alloc (.cells (anC An.zero none 0) 54)):=⟨h.below hb0,hfr,han,hb0,hF.below hb0,hW⟩
 have HQ:Hid (∀ V,Below W.heap.size W V->((Instr.loadAt 40 (.pointer (some ⟨w.heap.size,0,none⟩))).run Tryz.prog V=.ok (.agg (frC F A)) V/\V.cell? ⟨w.heap.size,0,none⟩=some (.int .i64 F.k)/\V.cell? ⟨w.heap.size,1,none⟩=some (.int .i64 F.f)/\V.cell? ⟨w.heap.size,2,none⟩=some (.int .i64 F.t)/\V.cell? ⟨R,11,none⟩=some (.int .i64 s.i)/\V.cell? ⟨R,0,none⟩=some (.int .i64 s.c.n))):=λV hV=>
  ⟨(H0.out.2.1.below hV).loads,(H0.out.2.1.below hV).c0,(H0.out.2.1.below hV).c1,(H0.out.2.1.below hV).c2,(H0.out.1.below hV).at'.cell 11 rfl,(H0.out.1.below hV).at'.cell 0 rfl⟩
 have hS0:=HQ.out W.drew (Below.refl _ _).drew
 have KT:Hid (∀ W,Calls Tryz.prog 35 #[.int .i64 now] W λe w'=>e=.returned (.bool (timeB now))/\w'=W):=λW=>detime_ok W now
 have KC:=rcheck_ok W.drew F A (H0.out.2.2.2.2.1.below (Below.refl _ _).drew)
 obtain⟨hk,ht,hr,⟨hf0,hfn⟩,hT,_⟩:=Ec.heB_iff hB
 have hkb:(F.k != 3)=false:=by simp[hk]
 have htb:(F.t != s.i)=false:=by simp[ht]
 have hn:¬ s.c.n<=F.f:=by omega
 rw[hT] at KT
 rw[if_pos hr] at KC
 obtain⟨L,hL⟩:∃ L,L=s.ws.length:=⟨_,rfl⟩
 have hfL:F.f<(L:Int):=by rw[hL,hok.num];omega
 obtain⟨p,hpp⟩:∃ p,p=some (n,t):=⟨_,rfl⟩
 have hp:s.ws[F.f.toNat]?=some p:=by rw[hpp];exact hat
 have HI:Hid (L=s.ws.length/\s.ws[F.f.toNat]?=some p/\s.ok/\s.heB F now=true/\F.f<s.c.n):=⟨hL,hp,hok,hB,hfn⟩
 have HJ:Hid (F.f.toNat<s.ws.length):=(by omega:F.f.toNat<s.ws.length)
 have htb2:=timeB_iff.1 hT
 have ht0:=(hok.wait _ (List.mem_of_getElem? hat) n t rfl).2
 have HN:Hid (n=F.n/\p=some (n,t)/\t<=now/\(0<=t/\t<=1099511627776)/\(0<=now/\now<=1099511627776)/\R<w.heap.size/\g<w.heap.size/\R≠g):=⟨hnn,hpp,htn,ht0,htb2,hgR⟩
 have HS:Hid (S1={ s with ws:=s.ws.set F.f.toNat none }/\D=now-t/\M=mostN D (s.c.r+s.c.l)/\(x=if s.c.v<D then An.zero else ⟨F.f,F.m-now,F.m+M-now,F.e,F.s,F.i,F.key⟩)/\(E=if s.c.v<D then 12 else 0)):=⟨hS1,hD,hM,hx,hE⟩
 clear h hF hW hb0 hfr han hB hk ht hr hT hfn hok hL hp hE hx hM hD hS1 hgR ht0 htb2 hnn htn hpp hat
 go_enter Tryz.func19,Tryz.ntmps19
 go_upto_region 1 with fail
 rw[show ((w.alloc (.cells (frC F A) 40)).alloc (.cells #[Value.int IntKind.i64 0,Value.int IntKind.i64 0,Value.int IntKind.i64 0,Value.int IntKind.i64 0,Value.int IntKind.i64 0,Value.int IntKind.i64 0,Value.slice none 0 0] 54))=W from H0.out.2.2.2.2.2.symm]
 refine wp_region_noPanic ?_
 refine wp_region_held (S:=λV=>(Instr.loadAt 40 (.pointer (some ⟨w.heap.size,0,none⟩))).run Tryz.prog V=.ok (.agg (frC F A)) V/\V.cell? ⟨w.heap.size,0,none⟩=some (.int .i64 F.k)/\V.cell? ⟨w.heap.size,1,none⟩=some (.int .i64 F.f)/\V.cell? ⟨w.heap.size,2,none⟩=some (.int .i64 F.t)/\V.cell? ⟨R,11,none⟩=some (.int .i64 s.i)/\V.cell? ⟨R,0,none⟩=some (.int .i64 s.c.n)) (by kernel_rfl) ?_
 have hS:=hS0
 refine tk 0 hS ?_
 refine tk 1 hS ?_
 refine tk 2 (v:=Value.bool false) (hv:=by intro w hSw;(try dsimp only at hSw);go_split_ands;go_simp) hS ?_
 refine tk 3 hS ?_
 refine tk 4 hS ?_
 refine tk 5 hS ?_
 refine tk 6 hS ?_
 refine tk 7 hS ?_
 refine tk 8 hS ?_
 refine tk 9 hS ?_
 refine tk 10 (v:=Value.bool false) (hv:=by intro w hSw;(try dsimp only at hSw);go_split_ands;go_simp) hS ?_
 refine tk 11 hS ?_
 refine tk 12 hS ?_
 refine tk 13 (v:=Value.agg (frC F A)) (hv:=λW hW=>exec_load 40 (.tmp 4) rfl _ _ rfl hW.1) hS ?_
 refine any_one 14 rfl (by kernel_rfl) (by rfl) (λK hK=>?_)
 clear hS
 go_simp
 refine KC.mono ?_
 rintro ev V ⟨rfl,hb⟩
 have hbV:Below W.heap.size W V:=(Below.refl W.heap.size W).drew.trans hb
 have HQ1:=HQ.out V hbV
 clear hb KC
 refine hK.out _ _ (HQ1) (λhS=>?_)
 clear hK
 (try simp only[Act.put,sT])
 refine tk 15 hS ?_
 refine tk 16 (v:=Value.bool false) (hv:=by intro w hSw;(try dsimp only at hSw);go_split_ands;go_simp) hS ?_
 refine tk 17 hS ?_
 refine tk 18 hS ?_
 refine tk 19 hS ?_
 refine tk 20 hS ?_
 refine tk 21 hS ?_
 refine tk 22 hS ?_
 refine tk 23 hS ?_
 refine tk 24 hS ?_
 refine tk 25 (v:=Value.bool false) (hv:=by intro w hSw;(try dsimp only at hSw);go_split_ands;go_simp) hS ?_
 refine tk 26 (v:=Value.bool false) (hv:=by intro w hSw;(try dsimp only at hSw);go_split_ands;go_simp) hS ?_
 refine tk 27 hS ?_
 refine tk 28 hS ?_
 refine any_one 29 rfl (by kernel_rfl) (by rfl) (λK hK=>?_)
 clear hS
 go_simp
 refine(KT.out _).mono ?_
 rintro ev V2 ⟨rfl,rfl⟩
 refine hK.out _ _ (HQ1) (λhS=>?_)
 clear hK
 (try simp only[Act.put,sT])
 refine tk 30 hS ?_
 refine tk 31 hS ?_
 refine wpAnyH_done (by kernel_rfl) ?_ _
 refine NoPanic.normal ?_
 clear hS hS0 HQ HQ1
 have HV:Hid (Below W.heap.size W V2):=hbV
 have HP:Hid (∀ U,Below V2.heap.size V2 U->(U.cell? ⟨R,14,none⟩=some (.slice (some ⟨g,0,none⟩) L L)/\U.cell? ⟨w.heap.size,1,none⟩=some (.int .i64 F.f)/\(Instr.loadAt 63 (.pointer (some ⟨g,F.f.toNat*3,none⟩))).run Tryz.prog U=.ok (.agg (wdC p).toArray) U)):=λU hU=>by
  have h1:=(H0.out.1.below HV.out).below hU
  refine⟨?_,((H0.out.2.1.below HV.out).below hU).c1,h1.ws.loads HI.out.2.1⟩
  rw[HI.out.1];exact h1.at'.cell 14 rfl
 have hS0:=HP.out V2.drew (Below.refl _ _).drew
 clear hbV hn hkb htb
 go_upto_region 3 with fail
 refine wp_region_noPanic ?_
 refine wp_region_held (S:=λU=>U.cell? ⟨R,14,none⟩=some (.slice (some ⟨g,0,none⟩) L L)/\U.cell? ⟨w.heap.size,1,none⟩=some (.int .i64 F.f)/\(Instr.loadAt 63 (.pointer (some ⟨g,F.f.toNat*3,none⟩))).run Tryz.prog U=.ok (.agg (wdC p).toArray) U) (by kernel_rfl) ?_
 have hS:=hS0
 refine tk 0 hS ?_
 refine tk 1 hS ?_
 refine tk 2 hS ?_
 refine tk 3 hS ?_
 refine tk 4 hS ?_
 refine tk 5 hS ?_
 refine tk 6 hS ?_
 refine tk 7 (v:=Value.agg (wdC p).toArray) (hv:=λU hU=>exec_load 63 (.tmp 51) rfl _ _ rfl hU.2.2) hS ?_
 refine any_one 8 rfl (by kernel_rfl) (by rfl) (λK hK=>?_)
 clear hS
 go_simp
 obtain⟨V1,hV1⟩:∃ V1,V1=(V2.alloc (.cells (wdC none).toArray 63)).drew:=⟨_,rfl⟩
 have hq1:(V2.alloc (.cells #[Value.bool false,Value.int IntKind.u64 0,Value.int IntKind.i64 0] 63)).drew=V1:=hV1.symm
 rw[hq1]
 have hb1:Below V2.heap.size V2 V1:=by rw[hV1];exact((Below.refl V2.heap.size V2).alloc (Nat.le_refl _) _).drew
 have hn1:BxAt V1 V2.heap.size none:=by rw[hV1];exact heap_alloc_new V2 _
 have HP1:=HP.out V1 hb1
 clear hV1 hq1
 refine hK.out _ _ (HP1) (λhS=>?_)
 clear hK
 (try simp only[Act.put,sT])
 refine any_one 9 rfl (by kernel_rfl) (by rfl) (λK hK=>?_)
 clear hS
 obtain⟨V3,hV3⟩:∃ V3,V3=V1.setRow V2.heap.size (wdC p).toArray:=⟨_,rfl⟩
 have hst3:(Instr.storeAt 63 (.pointer (some ⟨V2.heap.size,0,none⟩)) (.agg (wdC p).toArray)).run Tryz.prog V1=.ok () V3:=by rw[hV3];exact hn1.stores p
 refine op_store_run 63 _ _ rfl _ _ rfl rfl hst3 ?_
 have hb3:Below V2.heap.size V2 V3:=by rw[hV3];exact below_setRow hb1 (Nat.le_refl _) _
 have hn3:BxAt V3 V2.heap.size p:=by rw[hV3];exact setRow_heap _ _ _ _ 63 _ hn1
 have HP3:=HP.out V3 hb3
 clear hV3 hst3
 refine hK.out _ _ (HP3) (λhS=>?_)
 clear hK
 (try simp only[Act.put])
 refine wpAnyH_done (by kernel_rfl) ?_ _
 refine NoPanic.normal ?_
 clear hS hS0 HP HP1 HP3 hn1 hb1
 have hbW:Below W.heap.size W V3:=HV.out.trans (hb3.mono HV.out.size)
 have HA2:Hid (DEAll V3 R g s ma mc/\AnAt V3 (w.heap.size+1) An.zero none 0/\Below w.heap.size w V3):=⟨H0.out.1.below hbW,H0.out.2.2.1.below hbW,H0.out.2.2.2.1.trans (hbW.mono H0.out.2.2.2.1.size)⟩
 have HF2:Hid (FrAt V3 w.heap.size F A/\Seen V3 F A/\BxAt V3 V2.heap.size p):=⟨H0.out.2.1.below hbW,H0.out.2.2.2.2.1.below hbW,hn3⟩
 have hsz:w.heap.size+1<V2.heap.size:=by have:=H0.out.2.2.1.lt;have:=HV.out.size;omega
 have c6:=HF2.out.1.c6
 clear hbW hb3
 rw[HN.out.2.1] at hn3
 have b0:=hn3.cell 0 rfl
 have b1:=hn3.cell 1 rfl
 have b2:=hn3.cell 2 rfl
 have hlt:¬ now<t:=by have:=HN.out.2.2.1;omega
 obtain⟨zn,hzn⟩:∃ zn:Int,zn=(n:Int):=⟨_,rfl⟩
 rw[<-hzn] at b1
 rw[<-HN.out.1,<-hzn] at c6
 have HP6:Hid (∀ U,Apart (λk=>k=g) V3 U->(U.cell? ⟨R,14,none⟩=some (.slice (some ⟨g,0,none⟩) L L)/\U.cell? ⟨w.heap.size,1,none⟩=some (.int .i64 F.f))):=λU hU=>by
  refine⟨hU.cell ?_ HN.out.2.2.2.2.2.2.2,hU.cell HF2.out.1.c1 (by have:=HN.out.2.2.2.2.2.2.1;show ¬ w.heap.size=g;omega)⟩
  rw[HI.out.1];exact HA2.out.1.at'.cell 14 rfl
 have hS0:=HP6.out V3.drew (Apart.refl (λk=>k=g) V3).drew
 have HB0:Hid (∀ U,(Instr.build 63 #[]).run Tryz.prog U=.ok (.agg (wdC none).toArray) U):=λU=>run_build U 63 _ _ (by kernel_rfl)
 clear hn3
 go_upto_region 6 with fail
 refine wp_region_noPanic ?_
 refine wp_region_held (S:=λU=>U.cell? ⟨R,14,none⟩=some (.slice (some ⟨g,0,none⟩) L L)/\U.cell? ⟨w.heap.size,1,none⟩=some (.int .i64 F.f)) (by kernel_rfl) ?_
 have hS:=hS0
 refine tk 0 hS ?_
 refine tk 1 hS ?_
 refine tk 2 hS ?_
 refine tk 3 hS ?_
 refine tk 4 hS ?_
 refine tk 5 hS ?_
 refine tk 6 (v:=Value.agg (wdC none).toArray) (hv:=λU _=>exec_build 63 _ rfl [] _ rfl (HB0.out U)) hS ?_
 refine tk 7 hS ?_
 refine any_one 8 rfl (by kernel_rfl) (by rfl) (λK hK=>?_)
 clear hS
 obtain⟨V4,hst4,wV4,aV4⟩:=DWAt.stores (w:=V3.drew) HA2.out.1.ws F.f.toNat HJ.out none (.bool false) (.int .u64 0) (.int .i64 0) rfl oneW
 refine op_store_run 63 _ _ rfl _ _ rfl rfl hst4 ?_
 have a4:Apart (λk=>k=g) V3 V4:=(Apart.refl (λk=>k=g) V3).drew.trans aV4 (λk hk=>.inl hk)
 have HP4:=HP6.out V4 a4
 clear hst4 aV4
 refine hK.out _ _ (HP4) (λhS=>?_)
 clear hK
 (try simp only[Act.put])
 refine wpAnyH_done (by kernel_rfl) ?_ _
 refine NoPanic.normal ?_
 clear hS hS0 HP6 HP4 HB0 b0 b1 b2 c6 hlt
 have hg3:g<V3.heap.size:=by have:=HN.out.2.2.2.2.2.2.1;have:=HA2.out.2.2.size;omega
 have H4:Hid (DEAll V4 R g S1 ma mc/\AnAt V4 (w.heap.size+1) An.zero none 0/\FrAt V4 w.heap.size F A/\Seen V4 F A/\BxAt V4 V2.heap.size (some (n,t))/\Apart (λk=>k=g) w V4):=by
  have gg:=HN.out.2.2.2.2.2.2.1
  have sw:=λ{x c l} (hs:Sees V3 x c l)=>sees_wd (x:=x) (c:=c) (l:=l) HA2.out.1.ws a4 hs
  refine⟨⟨?_,?_,?_⟩,?_,?_,⟨sw HF2.out.2.1.key,sw HF2.out.2.1.body,sw HF2.out.2.1.tag⟩,?_,?_⟩
  ·have h1:=(a4.block R HA2.out.1.at'.lt HN.out.2.2.2.2.2.2.2).trans HA2.out.1.at'
   rw[HS.out.1]
   show DEAt V4 R _ ma mc (.slice (some ⟨g,0,none⟩) (s.ws.set _ _).length (s.ws.set _ _).length)
   rw[List.length_set]
   exact h1
  ·rw[HS.out.1];exact wV4
  ·rw[HS.out.1];exact sw HA2.out.1.ms
  ·exact(a4.block _ HA2.out.2.1.lt (by omega)).trans HA2.out.2.1
  ·exact(a4.block _ HF2.out.1.lt (by omega)).trans HF2.out.1
  ·have:=HF2.out.2.2
   rw[HN.out.2.1] at this
   exact(a4.block _ (Array.getElem?_eq_some_iff.1 this).1 (by omega)).trans this
  ·exact(Apart.of_below (F:=λk=>k=g) HA2.out.2.2).trans a4 (λk hk=>.inl hk)
 have b2:=H4.out.2.2.2.2.1.cell 2 rfl
 have q6:V4.cell? ⟨R,6,none⟩=some (.int .i64 s.c.v):=by have:=H4.out.1.at'.cell 6 rfl;rw[HS.out.1] at this;exact this
 have d1:IntKind.i64.wrap (now-t)=D:=by rw[HS.out.2.1,IntKind.wrap_i64];have:=HN.out;omega
 clear a4 wV4
 by_cases hv:s.c.v<D
 ·go_upto_region 7 with fail
  go_quiet (fail)
  obtain⟨V5,hV5⟩:∃ V5,V5=V4.drewN nq:=⟨_,rfl⟩
  have hb5:Below V4.heap.size V4 V5:=by rw[hV5];exact below_drewN (Below.refl _ _) nq
  rw[<-hV5]
  obtain⟨X,hst,hX,hs,aX⟩:=an_stored2 (H4.out.2.1.below hb5) An.zero none 0 (Sees.nil' _)
  have HB:Hid ((Instr.build 54 #[]).run Tryz.prog V5=.ok (.agg (anC An.zero none 0)) V5):=anbuild0 _
  have HST:Hid ((Instr.storeAt 54 (.pointer (some ⟨w.heap.size+1,0,none⟩)) (.agg (anC An.zero none 0))).run Tryz.prog V5=.ok () X):=hst
  have HE:Hid (AnAt X (w.heap.size+1) An.zero none 0/\Sees X none 0 An.zero.key/\DEAll X R g S1 ma mc/\Apart (λk=>k=g) w X/\x=An.zero/\E=12):=
   ⟨hX,hs,(H4.out.1.below hb5).kept (H4.out.2.1.below hb5) aX (by have:=HN.out.2.2.2.2.2.1;omega) (by have:=HN.out.2.2.2.2.2.2.1;omega),(H4.out.2.2.2.2.2.trans (Apart.of_below (F:=λ_=>False) hb5) (λk hk=>hk.elim)).trans aX (λk hk=>.inr (by omega)),HS.out.2.2.2.1.trans (if_pos hv),HS.out.2.2.2.2.trans (if_pos hv)⟩
  clear hst hX hs aX hV5 hb5 b2 q6
  go_wp2_with (first|(refine wpList_build_run rfl 54 _ rfl [] _ rfl HB.out ?_)|(refine wpList_store_run rfl 54 _ _ rfl _ _ rfl rfl HST.out ?_)|fail)
  refine bodyPost_ret (res_an_tmp rfl rfl HE.out.1) rfl ?_
  rw[HE.out.2.2.2.2.1,HE.out.2.2.2.2.2]
  exact⟨none,0,rfl,HE.out.2.1,HE.out.2.2.1,HE.out.2.2.2.1⟩
 ·have hvb:decide (s.c.v<D)=false:=by simp[hv]
  have hD:=HN.out
  have hrt:=right_of HI.out.2.2.1.cfg
  obtain⟨hf8,hm0,hm1⟩:True/\0<=F.m/\F.m<=1099511627776:=⟨trivial,(Ec.heB_iff HI.out.2.2.2.1).2.2.2.2.2.2⟩
  have hDr:0<=D/\D<=40000:=by rw[HS.out.2.1] at hv ⊢;have:=hrt.v1;have:=hrt.s1;omega
  obtain⟨RL,hRL⟩:∃ RL,RL=s.c.r+s.c.l:=⟨_,rfl⟩
  have hrl:0<=RL/\RL<=10:=by have:=hrt.r0;have:=hrt.r1;have:=hrt.l0;have:=hrt.l1;omega
  have d2:IntKind.i64.wrap (s.c.r+s.c.l)=RL:=by rw[<-hRL,IntKind.wrap_i64];omega
  have hM3:0<=M/\M<=120000:=by
   have h3:=most_le3 (a:=D) (d:=RL) hrl.1 (by omega) hDr.1
   have h4:=le_most (a:=D) (d:=RL) hrl.1 (by omega) hDr.1
   rw[HS.out.2.2.1,<-hRL]
   omega
  have KM:Hid (∀ W,Calls Tryz.prog 45 #[.int .i64 D,.int .i64 RL] W λe w'=>e=.returned (.tuple #[.int .i64 M,.int .i64 0])/\w'=W):=λW=>by
   have:=refmost_ok W D RL
   have he:ansN D RL (mostN D RL)=.tuple #[.int .i64 (mostN D RL),.int .i64 0]:=if_pos (mayB_of hrl.1 (by omega) hDr.1 (by omega))
   rw[he,hRL,<-HS.out.2.2.1,<-hRL] at this
   exact this
  obtain⟨LO,hLO⟩:∃ LO,LO=F.m-now:=⟨_,rfl⟩
  obtain⟨MM,hMM⟩:∃ MM,MM=F.m+M:=⟨_,rfl⟩
  obtain⟨HH,hHH⟩:∃ HH,HH=MM-now:=⟨_,rfl⟩
  have d3:IntKind.i64.wrap (F.m-now)=LO:=by rw[<-hLO,IntKind.wrap_i64];omega
  have d4:IntKind.i64.wrap (F.m+M)=MM:=by rw[<-hMM,IntKind.wrap_i64];omega
  have d5:IntKind.i64.wrap (MM-now)=HH:=by rw[<-hHH,IntKind.wrap_i64];omega
  have HX:Hid (x=⟨F.f,LO,HH,F.e,F.s,F.i,F.key⟩/\E=0):=⟨by rw[HS.out.2.2.2.1,if_neg hv,hLO,hHH,hMM],HS.out.2.2.2.2.trans (if_neg hv)⟩
  have q7:V4.cell? ⟨R,7,none⟩=some (.int .i64 s.c.r):=by have:=H4.out.1.at'.cell 7 rfl;rw[HS.out.1] at this;exact this
  have q8:V4.cell? ⟨R,8,none⟩=some (.int .i64 s.c.l):=by have:=H4.out.1.at'.cell 8 rfl;rw[HS.out.1] at this;exact this
  clear hD hrt hf8 hm0 hm1 hDr hrl hM3 hRL hLO hMM hHH
  go_upto_region 7 with fail
  go_quiet (fail)
  obtain⟨V5,hV5⟩:∃ V5,V5=V4.drewN nq:=⟨_,rfl⟩
  have hb5:Below V4.heap.size V4 V5:=by rw[hV5];exact below_drewN (Below.refl _ _) nq
  rw[<-hV5]
  have b25:V5.cell? ⟨V2.heap.size,2,none⟩=some (.int .i64 t):=(H4.out.2.2.2.2.1.below hb5).cell 2 rfl
  have q75:V5.cell? ⟨R,7,none⟩=some (.int .i64 s.c.r):=by rw[hV5];exact q7
  have q85:V5.cell? ⟨R,8,none⟩=some (.int .i64 s.c.l):=by rw[hV5];exact q8
  have HB5:Hid (Below V4.heap.size V4 V5):=hb5
  clear hV5 hb5 b2 q6 q7 q8
  go_upto_region 9 with fail
  go_quiet (first|(go_at_call 45;exact Calls.quiet_of_same (KM.out _)))
  obtain⟨V6,hV6⟩:∃ V6,V6=V5.drewN nq:=⟨_,rfl⟩
  have hb6:Below V4.heap.size V4 V6:=by rw[hV6];exact HB5.out.trans (below_drewN (Below.refl _ _) nq)
  rw[<-hV6]
  have HB6:Hid (Below V4.heap.size V4 V6):=hb6
  obtain⟨V7,hV7⟩:∃ V7,V7=(V6.alloc (.cells #[.int .i64 0,.int .i64 0] 49)).setRow V6.heap.size #[.int .i64 LO,.int .i64 HH]:=⟨_,rfl⟩
  have hn7:(V6.alloc (.cells #[.int .i64 0,.int .i64 0] 49)).heap[V6.heap.size]?=some (.cells #[.int .i64 0,.int .i64 0] 49 (0,0)):=heap_alloc_new V6 _
  have HST7:Hid ((Instr.storeAt 49 (.pointer (some ⟨V6.heap.size,0,none⟩)) (.agg #[.int .i64 LO,.int .i64 HH])).run Tryz.prog (V6.alloc (.cells #[.int .i64 0,.int .i64 0] 49))=.ok () V7):=by
   rw[hV7]
   exact storeAt_row _ _ 49 49 _ _ hn7 (by kernel_rfl) rfl (all_oneCell_toArray (cs:=[.int .i64 LO,.int .i64 HH]) (by
    intro v hv
    simp only[List.mem_cons,List.not_mem_nil,or_false] at hv
    rcases hv with rfl|rfl<;>rfl))
  have hb7:Below V4.heap.size V4 V7:=by
   rw[hV7]
   exact below_setRow (hb6.alloc hb6.size _) hb6.size _
  have hi7:V7.heap[V6.heap.size]?=some (.cells #[.int .i64 LO,.int .i64 HH] 49 (0,0)):=by rw[hV7];exact setRow_heap _ _ _ _ 49 _ hn7
  have HL7:Hid ((Instr.loadAt 49 (.pointer (some ⟨V6.heap.size,0,none⟩))).run Tryz.prog V7=.ok (.agg #[.int .i64 LO,.int .i64 HH]) V7):=loadAt_row V7 _ 49 49 _ (0,0) _ hi7 Tryz.underIv rfl (by kernel_rfl)
  have HB10:Hid (∀ U,(Instr.build 49 #[(0,.int .i64 LO),(1,.int .i64 HH)]).run Tryz.prog U=.ok (.agg #[.int .i64 LO,.int .i64 HH]) U):=λU=>run_build U 49 _ _ (by kernel_rfl)
  obtain⟨kl,hkl⟩:∃ kl,kl=F.key.length:=⟨_,rfl⟩
  have HB11:Hid (∀ U,(Instr.build 54 #[(0,.int .i64 F.f),(1,.agg #[.int .i64 LO,.int .i64 HH]),(2,.int .i64 F.e),(3,.int .i64 F.s),(4,.int .i64 F.i),(5,.slice A.ka kl A.kc)]).run Tryz.prog U=.ok (.agg (anC ⟨F.f,LO,HH,F.e,F.s,F.i,F.key⟩ A.ka A.kc)) U):=λU=>by rw[hkl];exact run_build U 54 _ _ (by kernel_rfl)
  have f7:=(H4.out.2.2.1.below hb6).c7
  have e1:=(H4.out.2.2.1.below hb7).c1
  have e3:=(H4.out.2.2.1.below hb7).c3
  have e4:=(H4.out.2.2.1.below hb7).c4
  have e9:=(H4.out.2.2.1.below hb7).c9
  have e10:=(H4.out.2.2.1.below hb7).c10
  rw[<-hkl] at e10
  obtain⟨X,hst,hX,hs,aX⟩:=an_stored2 (H4.out.2.1.below hb7) ⟨F.f,LO,HH,F.e,F.s,F.i,F.key⟩ A.ka A.kc (H4.out.2.2.2.1.key.below hb7)
  have HST:Hid ((Instr.storeAt 54 (.pointer (some ⟨w.heap.size+1,0,none⟩)) (.agg (anC ⟨F.f,LO,HH,F.e,F.s,F.i,F.key⟩ A.ka A.kc))).run Tryz.prog V7=.ok () X):=hst
  have HE:Hid (AnAt X (w.heap.size+1) ⟨F.f,LO,HH,F.e,F.s,F.i,F.key⟩ A.ka A.kc/\Sees X A.ka A.kc F.key/\DEAll X R g S1 ma mc/\Apart (λk=>k=g) w X):=
   ⟨hX,hs,(H4.out.1.below hb7).kept (H4.out.2.1.below hb7) aX (by have:=HN.out.2.2.2.2.2.1;omega) (by have:=HN.out.2.2.2.2.2.2.1;omega),(H4.out.2.2.2.2.2.trans (Apart.of_below (F:=λ_=>False) hb7) (λk hk=>hk.elim)).trans aX (λk hk=>.inr (by omega))⟩
  clear hst hX hs aX hV6 hb6 hb7 hV7 hn7 hi7 hkl b25 q75 q85 hv hvb
  go_wp2_with (first|(refine wpList_build_run rfl 49 _ rfl [(0,.int .i64 LO),(1,.int .i64 HH)] _ rfl (HB10.out _) ?_)|(refine wpList_store_run rfl 49 _ _ rfl _ _ rfl rfl HST7.out ?_)|(refine wpList_load_run rfl 49 _ rfl _ _ rfl HL7.out ?_)|(refine wpList_build_run rfl 54 _ rfl [(0,.int .i64 F.f),(1,.agg #[.int .i64 LO,.int .i64 HH]),(2,.int .i64 F.e),(3,.int .i64 F.s),(4,.int .i64 F.i),(5,.slice A.ka kl A.kc)] _ rfl (HB11.out _) ?_)|(refine wpList_store_run rfl 54 _ _ rfl _ _ rfl rfl HST.out ?_)|fail)
  refine bodyPost_ret (res_an_tmp rfl rfl HE.out.1) rfl ?_
  rw[HX.out.1,HX.out.2]
  exact⟨A.ka,A.kc,rfl,HE.out.2.1,HE.out.2.2.1,HE.out.2.2.2⟩
theorem dehear_any (w:World)(R g:Nat)(s:Ec)(ma:Option Addr)(mc:Nat)(h:DEAll w R g s ma mc)(hok:s.ok)(F:Fr)(A:At)(hF:Seen w F A)(now:Int):
  Calls Tryz.prog 19 #[.pointer (some ⟨R,0,none⟩),.agg (frC F A),.int .i64 now] w λe w'=>HeardV w w' e R g (s.heV F now) (s.heA F now) (s.heE F now) ma mc:=by
 have keep:∀ e w' n,HeardN w w' e An.zero n->HeardV w w' e R g s An.zero n ma mc:=by
  rintro e w' n ⟨a,c,he,hs,hb⟩
  exact⟨a,c,he,hs,h.below hb,Apart.of_below hb⟩
 by_cases hB:s.heB F now=true
 ·obtain⟨_,_,_,⟨hf0,hfn⟩,hT,_⟩:=Ec.heB_iff hB
  obtain⟨p,hp⟩:∃ p,s.ws[F.f.toNat]?=some p:=by
   have hl:F.f.toNat<s.ws.length:=by rw[hok.num];omega
   exact⟨s.ws[F.f.toNat],by simp[hl]⟩
  have six:s.heE F now=6->Calls Tryz.prog 19 #[.pointer (some ⟨R,0,none⟩),.agg (frC F A),.int .i64 now] w λe w'=>HeardV w w' e R g (s.heV F now) (s.heA F now) (s.heE F now) ma mc:=λhE=>by
   have e1:s.heV F now=s:=by unfold Ec.heV;rw[hE];simp
   have e2:s.heA F now=An.zero:=by unfold Ec.heA;rw[hE];simp
   rw[e1,e2,hE]
   exact(dehear_six w R g s ma mc h hok F A hF now hB hE).mono λe w'=>keep e w' 6
  have hat:s.at? F=p:=by unfold Ec.at?;rw[hp];rfl
  rcases p with _|⟨n,t⟩
  ·exact six (by unfold Ec.heE;rw[if_pos hB,hat])
  ·have hEE:s.heE F now=if n≠F.n\/now<t then 6 else if s.c.v<now-t then 12 else 0:=by unfold Ec.heE;rw[if_pos hB,hat]
   by_cases hc:n≠F.n\/now<t
   ·exact six (hEE.trans (if_pos hc))
   ·have hE:s.heE F now=if s.c.v<now-t then 12 else 0:=hEE.trans (if_neg hc)
    have e1:s.heV F now={ s with ws:=s.ws.set F.f.toNat none }:=by
     unfold Ec.heV
     rw[if_pos]
     rw[hE]
     split
     ·exact .inr rfl
     ·exact .inl rfl
    have e2:s.heA F now=if s.c.v<now-t then An.zero else ⟨F.f,F.m-now,F.m+mostN (now-t) (s.c.r+s.c.l)-now,F.e,F.s,F.i,F.key⟩:=by
     unfold Ec.heA
     rw[hE,hat]
     split
     ·rw[if_neg (by decide)]
     ·rw[if_pos rfl]
    exact dehear_took w R g s ma mc h hok F A hF now hB n t hp (Classical.byContradiction λhh=>hc (.inl hh)) (Int.not_lt.1 λhh=>hc (.inr hh)) _ e1 _ _ rfl rfl _ e2 _ hE
 ·have hB0:s.heB F now=false:=Bool.eq_false_iff.2 hB
  have hE:s.heE F now=1:=if_neg hB
  have e1:s.heV F now=s:=by unfold Ec.heV;rw[hE];simp
  have e2:s.heA F now=An.zero:=by unfold Ec.heA;rw[hE];simp
  rw[e1,e2,hE]
  exact(dehear_no w R g s ma mc h F A hF now hB0).mono λe w'=>keep e w' 1
end Go.Proofs.YtahnbljbhfpldaaGreatDoor
