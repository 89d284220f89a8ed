/-
  The program's answer to a question.
-/
import Derived.Test.YthogohkieiogiaaGreatDoorPeC
namespace Go.Proofs.YthogohkieiogiaaGreatDoor
set_option maxRecDepth 20000
set_option maxHeartbeats 6400000
open Go.ChangeShapes Go.WideShapes Go.ChangeAt Go.RowKit
def PnAt (w:World)(g:Nat)(x:An)(a:Option Addr)(c:Nat):Prop:=w.heap[g]?=some (.cells (anC x a c) 48 (0,0))
theorem PnAt.lt {w:World}{g:Nat}{x:An}{a:Option Addr}{c:Nat}(h:PnAt w g x a c):g<w.heap.size:=(Array.getElem?_eq_some_iff.1 h).1
theorem PnAt.below {w w':World}{g:Nat}{x:An}{a:Option Addr}{c:Nat}(h:PnAt w g x a c)(hb:Below w.heap.size w w'):PnAt w' g x a c:=(hb.block g h.lt).trans h
theorem PnAt.new (w:World)(x:An)(a:Option Addr)(c:Nat):PnAt (w.alloc (.cells (anC x a c) 48)) w.heap.size x a c:=heap_alloc_new _ _
theorem Tryz.underAe:Tryz.prog.underlying 48=some (.struct (match Tryz.prog.underlying 48 with|some (.struct f)=>f|_=>default)):=by kernel_rfl
theorem pnbuild0 (U:World):(Instr.build 48 #[]).run Tryz.prog U=.ok (.agg (anC An.zero none 0)) U:=run_build U 48 _ _ (by kernel_rfl)
theorem PnAt.stores {w:World}{g:Nat}{x:An}{a:Option Addr}{c:Nat}(h:PnAt w g x a c)(y:An)(b:Option Addr)(d:Nat):(Instr.storeAt 48 (.pointer (some ⟨g,0,none⟩)) (.agg (anC y b d))).run Tryz.prog w=.ok () (w.setRow g (anC y b d)):=
 storeAt_row w g 48 48 _ _ h (by rw[anC_size];kernel_rfl) rfl (anC_one y b d)
theorem res_pn_tmp {fn:Func}{p q:Tmp}(h:fn.results=#[.cell p 48,.tmp q]){tmps:Array Value}{w:World}{g:Nat}{x:An}{a:Option Addr}{c:Nat}(hp:tmps.getD p undef=.pointer (some ⟨g,0,none⟩))(hg:PnAt w g x a c):
  (results fn tmps).run Tryz.prog w=.ok (.tuple #[.agg (anC x a c),tmps.getD q undef]) w:=
 results_cell_tmp h tmps w g 48 _ (0,0) _ hp hg Tryz.underAe rfl (by rw[anC_size];kernel_rfl)
theorem PnAt.apart {w:World}{g:Nat}{z:An}{za:Option Addr}{zc:Nat}(h:PnAt w g z za zc){x:Option Addr}{c:Nat}{l:List UInt8}(hs:Sees w x c l):∀ b off,x=some ⟨b,off,none⟩->l≠[]->b≠g:=by
 rintro b off e hne rfl
 obtain⟨k',off',ha,hc⟩:=hs.at' hne
 rw[e] at ha
 simp only[Option.some.injEq,Addr.mk.injEq,and_true] at ha
 obtain⟨rfl,rfl⟩:=ha
 obtain⟨y,l',hl⟩:=List.exists_cons_of_ne_nil hne
 have h0:=hc 0 y (by rw[hl];rfl)
 rw[cell_of_row _ _ (off+0) _ _ _ h] at h0
 have:=List.mem_of_getElem? (show (anL z za zc)[off+0]?=_ by rw[<-h0];simp[anC])
 simp[anL] at this
theorem pn_stored {W:World}{k:Nat}{z:An}{za:Option Addr}{zc:Nat}(h:PnAt W k z za zc)(x:An)(a:Option Addr)(c:Nat)(hs:Sees W a c x.key):
  ∃ W',(Instr.storeAt 48 (.pointer (some ⟨k,0,none⟩)) (.agg (anC x a c))).run Tryz.prog W=.ok () W'/\PnAt W' k x a c/\Sees W' a c x.key/\Apart (λj=>j=k) W W':=by
 have aX:Apart (λj=>j=k) W (W.setRow k (anC x a c)):=⟨rfl,rfl,rfl,by simp,λj _ hn=>setRow_other _ _ _ _ hn⟩
 exact⟨_,h.stores x a c,setRow_heap _ _ _ _ 48 _ h,aX.sees hs (λb off e hne hb=>h.apart hs b off e hne hb),aX⟩
theorem Tryz.pnderIv:Tryz.prog.underlying 46=some (.struct (match Tryz.prog.underlying 46 with|some (.struct f)=>f|_=>default)):=by kernel_rfl
theorem peanswer (w:World)(c:Cf)(hc:okB c=true)(q:Nat×Int)(F:Fr)(A:At)(hF:Seen w F A)(now:Int)(ht:0<=q.2)(htn:q.2<=now)(hnow:now<=1099511627776)(hm:0<=F.m/\F.m<=1099511627776)(hk:F.key.length<=140737488355328)(x:An)(E:Int)(hx:x=if c.v<now-q.2 then An.zero else ⟨F.f,F.m-now,F.m+mostN (now-q.2) (c.r+c.l)-now,F.e,F.s,F.i,F.key⟩)(hE:E=if c.v<now-q.2 then 12 else 0):
  Calls Tryz.prog 32 #[.agg (pwC (some q)).toArray,.agg (cfC c),.agg (frC F A),.int .i64 now] w λe w'=>HeardN w w' e x E:=by
 obtain⟨n,t⟩:=q
 obtain⟨wa,hwa⟩:∃ wa,wa=w.alloc (.cells (pwC (some (n,t))).toArray 64):=⟨_,rfl⟩
 obtain⟨wb,hwb⟩:∃ wb,wb=wa.alloc (.cells (cfC c) 24):=⟨_,rfl⟩
 obtain⟨wc,hwc⟩:∃ wc,wc=wb.alloc (.cells (frC F A) 41):=⟨_,rfl⟩
 obtain⟨W,hW⟩:∃ W,W=wc.alloc (.cells (anC An.zero none 0) 48):=⟨_,rfl⟩
 have za:wa.heap.size=w.heap.size+1:=by rw[hwa];simp
 have zb:wb.heap.size=w.heap.size+2:=by rw[hwb];simp[za]
 have zc:wc.heap.size=w.heap.size+3:=by rw[hwc];simp[zb]
 have zW:W.heap.size=w.heap.size+4:=by rw[hW];simp[zc]
 have b1:Below wa.heap.size wa wb:=by rw[hwb];exact Go.Joins.below_alloc1 _ _
 have b2:Below wb.heap.size wb wc:=by rw[hwc];exact Go.Joins.below_alloc1 _ _
 have b3:Below wc.heap.size wc W:=by rw[hW];exact Go.Joins.below_alloc1 _ _
 have b0:Below w.heap.size w wa:=by rw[hwa];exact Go.Joins.below_alloc1 _ _
 have bW:Below w.heap.size w W:=((b0.trans (b1.mono (by omega))).trans (b2.mono (by omega))).trans (b3.mono (by omega))
 have hq:W.heap[w.heap.size]?=some (.cells (pwC (some (n,t))).toArray 64 (0,0)):=by
  have h0:wa.heap[w.heap.size]?=some (.cells (pwC (some (n,t))).toArray 64 (0,0)):=by rw[hwa];exact heap_alloc_new _ _
  rw[b3.block _ (by omega),b2.block _ (by omega),b1.block _ (by omega),h0]
 have hcf:CfAt W (w.heap.size+1) c:=by
  have h0:CfAt wb wa.heap.size c:=by rw[hwb];exact CfAt.new wa c
  rw[za] at h0
  exact(h0.below b2).below b3
 have hfr:FrAt W (w.heap.size+2) F A:=by
  have h0:FrAt wc wb.heap.size F A:=by rw[hwc];exact FrAt.new wb F A
  rw[zb] at h0
  exact h0.below b3
 have han:PnAt W (w.heap.size+3) An.zero none 0:=by
  rw[<-zc,hW];exact PnAt.new wc _ _ _
 have ct:W.cell? ⟨w.heap.size,1,none⟩=some (.int .i64 t):=by rw[cell_of_row W _ 1 _ _ _ hq];rfl
 have cv:=hcf.c6
 have H0:Hid (CfAt W (w.heap.size+1) c/\FrAt W (w.heap.size+2) F A/\PnAt W (w.heap.size+3) An.zero none 0/\Seen W F A/\Below w.heap.size w W/\W.heap.size=w.heap.size+4/\okB c=true):=⟨hcf,hfr,han,hF.below bW,bW,zW,hc⟩
 have HW:Hid ((((w.alloc (.cells #[.int .u64 (n:Int),.int .i64 t] 64)).alloc (.cells (cfC c) 24)).alloc (.cells (frC F A) 41)).alloc (.cells (anC An.zero none 0) 48)=W):=by rw[hW,hwc,hwb,hwa];rfl
 obtain⟨D,hD⟩:∃ D,D=now-t:=⟨_,rfl⟩
 have HS:Hid (D=now-t/\0<=t/\t<=now/\now<=1099511627776/\0<=F.m/\F.m<=1099511627776/\F.key.length<=140737488355328/\(x=if c.v<D then An.zero else ⟨F.f,F.m-now,F.m+mostN D (c.r+c.l)-now,F.e,F.s,F.i,F.key⟩)/\E=if c.v<D then 12 else 0):=by rw[hD];exact⟨rfl,ht,htn,hnow,hm.1,hm.2,hk,hx,hE⟩
 have d1:IntKind.i64.wrap (now-t)=D:=by rw[hD,IntKind.wrap_i64];simp only at ht htn;omega
 clear hwa hwb hwc hW b0 b1 b2 b3 bW hq hcf hfr han hc hF ht htn hnow hm hk hx hE za zb zc zW hD
 show Calls Tryz.prog 32 #[.agg #[.int .u64 (n:Int),.int .i64 t],.agg (cfC c),.agg (frC F A),.int .i64 now] w _
 go_enter Tryz.func32,Tryz.ntmps32
 go_upto_region 1 with fail
 rw[show ((((w.alloc (.cells #[.int .u64 (n:Int),.int .i64 t] 64)).alloc (.cells (cfC c) 24)).alloc (.cells (frC F A) 41)).alloc (.cells #[Value.int IntKind.i64 0,Value.int IntKind.i64 0,Value.int IntKind.i64 0,Value.int IntKind.i64 0,Value.int IntKind.i64 0,Value.int IntKind.i64 0,Value.slice none 0 0] 48))=W from HW.out]
 by_cases hv:c.v<D
 ·obtain⟨X,hst,hX,hs,aX⟩:=pn_stored H0.out.2.2.1 An.zero none 0 (Sees.nil' _)
  have HB:Hid ((Instr.build 48 #[]).run Tryz.prog W=.ok (.agg (anC An.zero none 0)) W):=pnbuild0 _
  have HST:Hid ((Instr.storeAt 48 (.pointer (some ⟨w.heap.size+3,0,none⟩)) (.agg (anC An.zero none 0))).run Tryz.prog W=.ok () X):=hst
  have HE:Hid (PnAt X (w.heap.size+3) An.zero none 0/\Sees X none 0 An.zero.key/\Below w.heap.size w X/\x=An.zero/\E=12):=
   ⟨hX,hs,aX.below H0.out.2.2.2.2.1 (λk hk=>by omega) H0.out.2.2.2.2.1.size,HS.out.2.2.2.2.2.2.2.1.trans (if_pos hv),HS.out.2.2.2.2.2.2.2.2.trans (if_pos hv)⟩
  clear hst hX hs aX
  go_wp2_with (first|(refine wpList_build_run rfl 48 _ rfl [] _ rfl HB.out ?_)|(refine wpList_store_run rfl 48 _ _ rfl _ _ rfl rfl HST.out ?_)|fail)
  refine bodyPost_ret (res_pn_tmp rfl rfl HE.out.1) rfl ?_
  rw[HE.out.2.2.2.1,HE.out.2.2.2.2]
  exact⟨none,0,rfl,HE.out.2.1,HE.out.2.2.1⟩
 ·have hvb:decide (c.v<D)=false:=by simp[hv]
  have hD:=HS.out
  have hrt:=right_of H0.out.2.2.2.2.2.2
  have hDr:0<=D/\D<=40000:=by have:=hrt.v1;have:=hrt.s1;omega
  obtain⟨RL,hRL⟩:∃ RL,RL=c.r+c.l:=⟨_,rfl⟩
  have hrl:0<=RL/\RL<=10:=by have:=hrt.r0;have:=hrt.r1;have:=hrt.l0;have:=hrt.l1;omega
  have d2:IntKind.i64.wrap (c.r+c.l)=RL:=by rw[<-hRL,IntKind.wrap_i64];omega
  obtain⟨M,hM⟩:∃ M,M=mostN D RL:=⟨_,rfl⟩
  have hM3:0<=M/\M<=120000:=by
   have h3:=most_le3 (a:=D) (d:=RL) hrl.1 (by omega) hDr.1
   have h4:=le_most (a:=D) (d:=RL) hrl.1 (by omega) hDr.1
   rw[hM]
   omega
  have KM:Calls Tryz.prog 60 #[.int .i64 D,.int .i64 RL] W λe w'=>e=.returned (.tuple #[.int .i64 M,.int .i64 0])/\w'=W:=by
   have:=most_ok W D RL
   have he:ansN D RL (mostN D RL)=.tuple #[.int .i64 (mostN D RL),.int .i64 0]:=if_pos (mayB_of hrl.1 (by omega) hDr.1 (by omega))
   rw[he,<-hM] at this
   exact this
  obtain⟨LO,hLO⟩:∃ LO,LO=F.m-now:=⟨_,rfl⟩
  obtain⟨MM,hMM⟩:∃ MM,MM=F.m+M:=⟨_,rfl⟩
  obtain⟨HH,hHH⟩:∃ HH,HH=MM-now:=⟨_,rfl⟩
  have d3:IntKind.i64.wrap (F.m-now)=LO:=by rw[<-hLO,IntKind.wrap_i64];omega
  have d4:IntKind.i64.wrap (F.m+M)=MM:=by rw[<-hMM,IntKind.wrap_i64];omega
  have d5:IntKind.i64.wrap (MM-now)=HH:=by rw[<-hHH,IntKind.wrap_i64];omega
  have HX:Hid (x=⟨F.f,LO,HH,F.e,F.s,F.i,F.key⟩/\E=0):=⟨by rw[HS.out.2.2.2.2.2.2.2.1,if_neg hv,hLO,hHH,hMM,hM,hRL],HS.out.2.2.2.2.2.2.2.2.trans (if_neg hv)⟩
  have q7:=H0.out.1.c7
  have q8:=H0.out.1.c8
  have f7:=H0.out.2.1.c7
  obtain⟨V,hV⟩:∃ V,V=(W.alloc (.cells #[.int .i64 0,.int .i64 0] 46)).setRow W.heap.size #[.int .i64 LO,.int .i64 HH]:=⟨_,rfl⟩
  have hn7:(W.alloc (.cells #[.int .i64 0,.int .i64 0] 46)).heap[W.heap.size]?=some (.cells #[.int .i64 0,.int .i64 0] 46 (0,0)):=heap_alloc_new W _
  have HST7:Hid ((Instr.storeAt 46 (.pointer (some ⟨W.heap.size,0,none⟩)) (.agg #[.int .i64 LO,.int .i64 HH])).run Tryz.prog (W.alloc (.cells #[.int .i64 0,.int .i64 0] 46))=.ok () V):=by
   rw[hV]
   exact storeAt_row _ _ 46 46 _ _ hn7 (by kernel_rfl) rfl (all_oneCell_toArray (cs:=[.int .i64 LO,.int .i64 HH]) (by
    intro v hv
    simp only[List.mem_cons,List.not_mem_nil,or_false] at hv
    rcases hv with rfl|rfl<;>rfl))
  have hbV:Below W.heap.size W V:=by rw[hV];exact below_setRow (Go.Joins.below_alloc1 _ _) (Nat.le_refl _) _
  have hiV:V.heap[W.heap.size]?=some (.cells #[.int .i64 LO,.int .i64 HH] 46 (0,0)):=by rw[hV];exact setRow_heap _ _ _ _ 46 _ hn7
  have HB10:Hid (∀ U,(Instr.build 46 #[(0,.int .i64 LO),(1,.int .i64 HH)]).run Tryz.prog U=.ok (.agg #[.int .i64 LO,.int .i64 HH]) U):=λU=>run_build U 46 _ _ (by kernel_rfl)
  obtain⟨kl,hkl⟩:∃ kl,kl=F.key.length:=⟨_,rfl⟩
  have HQ:Hid (∀ U,Apart (λk=>k=w.heap.size+3) V U->(U.cell? ⟨w.heap.size+2,1,none⟩=some (.int .i64 F.f)/\U.cell? ⟨w.heap.size+2,3,none⟩=some (.int .i64 F.e)/\U.cell? ⟨w.heap.size+2,4,none⟩=some (.int .i64 F.s)/\U.cell? ⟨w.heap.size+2,9,none⟩=some (.int .i64 F.i)/\U.cell? ⟨w.heap.size+2,10,none⟩=some (.slice A.ka kl A.kc)/\(Instr.loadAt 46 (.pointer (some ⟨W.heap.size,0,none⟩))).run Tryz.prog U=.ok (.agg #[.int .i64 LO,.int .i64 HH]) U)):=λU hU=>by
   have hz:=H0.out.2.2.2.2.2.1
   have hf:FrAt U (w.heap.size+2) F A:=(hU.block _ (H0.out.2.1.below hbV).lt (by omega)).trans (H0.out.2.1.below hbV)
   have hi:U.heap[W.heap.size]?=some (.cells #[.int .i64 LO,.int .i64 HH] 46 (0,0)):=(hU.block _ (Array.getElem?_eq_some_iff.1 hiV).1 (by omega)).trans hiV
   rw[hkl]
   exact⟨hf.c1,hf.c3,hf.c4,hf.c9,hf.c10,loadAt_row U _ 46 46 _ (0,0) _ hi Tryz.pnderIv rfl (by kernel_rfl)⟩
  have hS0:=HQ.out V.drew (Apart.refl _ V).drew
  have KB:Calls Tryz.prog 21 #[.slice A.ka kl A.kc] V.drew λe w'=>∃ d cd,e=.returned (.slice d kl cd)/\Sees w' d cd F.key/\Below V.heap.size V w':=by
   have hd:Below V.heap.size V V.drew:=(Below.refl _ _).drew
   rw[hkl]
   refine(bclone_any V.drew A.ka A.kc F.key ((H0.out.2.2.2.1.key.below hbV).below hd) HS.out.2.2.2.2.2.2.1).mono ?_
   rintro e w' ⟨d,cd,rfl,hs,hb⟩
   exact⟨d,cd,rfl,hs,hd.trans hb⟩
  have HB11:Hid (∀ U d cd,(Instr.build 48 #[(0,.int .i64 F.f),(1,.agg #[.int .i64 LO,.int .i64 HH]),(2,.int .i64 F.e),(3,.int .i64 F.s),(4,.int .i64 F.i),(5,.slice d kl cd)]).run Tryz.prog U=.ok (.agg (anC ⟨F.f,LO,HH,F.e,F.s,F.i,F.key⟩ d cd)) U):=λU d cd=>by rw[hkl];exact run_build U 48 _ _ (by kernel_rfl)
  have HV:Hid (PnAt V (w.heap.size+3) An.zero none 0/\Below w.heap.size w V/\W.heap.size<=V.heap.size):=⟨H0.out.2.2.1.below hbV,H0.out.2.2.2.2.1.trans (hbV.mono H0.out.2.2.2.2.1.size),hbV.size⟩
  clear hD hrt hDr hrl hM3 hM hRL hLO hMM hHH hV hn7 hbV hiV hkl
  go_wp2_with fail
  refine KM.mono ?_
  rintro e w1 ⟨rfl,hw1⟩
  rw[hw1]
  clear hw1 w1 KM
  go_upto_region 6 with (first|(refine wpList_build_run rfl 46 _ rfl [(0,.int .i64 LO),(1,.int .i64 HH)] _ rfl (HB10.out _) ?_)|(refine wpList_store_run rfl 46 _ _ rfl _ _ rfl rfl HST7.out ?_)|fail)
  refine wp_region_noPanic ?_
  refine wp_region_held (S:=λU=>U.cell? ⟨w.heap.size+2,1,none⟩=some (.int .i64 F.f)/\U.cell? ⟨w.heap.size+2,3,none⟩=some (.int .i64 F.e)/\U.cell? ⟨w.heap.size+2,4,none⟩=some (.int .i64 F.s)/\U.cell? ⟨w.heap.size+2,9,none⟩=some (.int .i64 F.i)/\U.cell? ⟨w.heap.size+2,10,none⟩=some (.slice A.ka kl A.kc)/\(Instr.loadAt 46 (.pointer (some ⟨W.heap.size,0,none⟩))).run Tryz.prog U=.ok (.agg #[.int .i64 LO,.int .i64 HH]) U) (by kernel_rfl) ?_
  have hS:=hS0
  refine tk 0 hS ?_
  refine tk 1 hS ?_
  refine tk 2 (v:=Value.agg #[.int .i64 LO,.int .i64 HH]) (hv:=λU hU=>exec_load 46 (.tmp 13) rfl _ _ rfl hU.2.2.2.2.2) hS ?_
  refine tk 3 hS ?_
  refine tk 4 hS ?_
  refine tk 5 hS ?_
  refine tk 6 hS ?_
  refine tk 7 hS ?_
  refine tk 8 hS ?_
  refine tk 9 hS ?_
  refine tk 10 hS ?_
  refine any_one 11 rfl (by kernel_rfl) (by rfl) (λK hK=>?_)
  clear hS
  go_simp
  refine KB.mono ?_
  rintro ev U ⟨d,cd,rfl,hsU,hbU⟩
  have HQ1:=HQ.out U (Apart.of_below hbU)
  have HU:Hid (Sees U d cd F.key/\Below V.heap.size V U):=⟨hsU,hbU⟩
  clear hsU hbU KB
  refine hK.out _ _ (HQ1) (λhS=>?_)
  clear hK
  (try simp only[Act.put,sT])
  refine tk 12 (v:=Value.agg (anC ⟨F.f,LO,HH,F.e,F.s,F.i,F.key⟩ d cd)) (hv:=λU _=>pexec_build 48 _ rfl [(0,.int .i64 F.f),(1,.agg #[.int .i64 LO,.int .i64 HH]),(2,.int .i64 F.e),(3,.int .i64 F.s),(4,.int .i64 F.i),(5,.slice d kl cd)] _ rfl (HB11.out U d cd)) hS ?_
  refine any_one 13 rfl (by kernel_rfl) (by rfl) (λK hK=>?_)
  clear hS
  obtain⟨X,hst,hX,hs,aX⟩:=pn_stored (HV.out.1.below HU.out.2) ⟨F.f,LO,HH,F.e,F.s,F.i,F.key⟩ d cd HU.out.1
  refine op_store_run 48 _ _ rfl _ _ rfl rfl hst ?_
  have aVX:Apart (λk=>k=w.heap.size+3) V X:=(Apart.of_below (F:=λk=>k=w.heap.size+3) HU.out.2).trans aX (λk hk=>.inl hk)
  have HQ2:=HQ.out X aVX
  have HE:Hid (PnAt X (w.heap.size+3) ⟨F.f,LO,HH,F.e,F.s,F.i,F.key⟩ d cd/\Sees X d cd F.key/\Below w.heap.size w X):=⟨hX,hs,aVX.below HV.out.2.1 (λk hk=>by omega) HV.out.2.1.size⟩
  clear hst hX hs aX aVX
  refine hK.out _ _ (HQ2) (λhS=>?_)
  clear hK
  (try simp only[Act.put])
  refine tk 14 hS ?_
  refine wpAnyH_done (by kernel_rfl) ?_ _
  refine NoPanic.normal ?_
  clear hS hS0 HQ HQ1 HQ2
  go_wp2
  refine bodyPost_ret (res_pn_tmp rfl rfl HE.out.1) rfl ?_
  rw[HX.out.1,HX.out.2]
  exact⟨d,cd,rfl,HE.out.2⟩
end Go.Proofs.YthogohkieiogiaaGreatDoor
