/-
  The program's Hear.
-/
import Derived.Test.YthogohkieiogiaaGreatDoorPeG
namespace Go.Proofs.YthogohkieiogiaaGreatDoor
set_option maxRecDepth 20000
set_option maxHeartbeats 6400000
open Go.ChangeShapes Go.WideShapes Go.ChangeAt Go.RowKit
theorem Ec.heB_split {s:Ec}{F:Fr}{now:Int}:s.heB F now=(s.forB F 3&&(s.othB F.f&&timeB now)):=by
 by_cases h3:s.forB F 3=true
 ·have h:=h3
  simp only[Ec.forB,Bool.and_eq_true,decide_eq_true_eq] at h
  obtain⟨⟨h1,h2⟩,hr⟩:=h
  have hc:(0<=F.f)/\F.f≠F.t:=by
   have:=hr
   simp[rightB,coreB,numsB,inB,h1] at this
   omega
  have ho:s.othB F.f=decide (F.f<s.c.n):=by
   unfold Ec.othB
   by_cases h4:F.f<s.c.n
   ·rw[decide_eq_true h4,decide_eq_true ⟨hc.1,h4,λe=>hc.2 (e.trans h2.symm)⟩]
   ·rw[decide_eq_false h4,decide_eq_false (λhh=>h4 hh.2.1)]
  unfold Ec.heB
  rw[h3,ho,hr,h1,h2]
  simp
 ·have h3f:=Bool.eq_false_iff.2 h3
  rw[h3f]
  unfold Ec.heB
  unfold Ec.forB at h3f
  rw[h3f]
  rfl
theorem pehear_no (w:World)(R:Nat)(s:Ec)(ma:Option Addr)(mc:Nat)(h:PEAll w R s ma mc)(hm:s.ms.length=16)(F:Fr)(A:At)(hF:Seen w F A)(now:Int)(hB:s.heB F now=false):
  Calls Tryz.prog 12 #[.pointer (some ⟨R,0,none⟩),.agg (frC F A),.int .i64 now] w λe w'=>HeardN w w' e An.zero 1:=by
 obtain⟨W,hW⟩:∃ W,W=(w.alloc (.cells (frC F A) 41)).alloc (.cells (anC An.zero none 0) 48):=⟨_,rfl⟩
 have hb0:Below w.heap.size w W:=by rw[hW];exact(Go.Joins.below_alloc1 _ _).alloc (by simp) _
 have hfr:FrAt W w.heap.size F A:=by rw[hW];exact(FrAt.new w F A).alloc _
 have han:PnAt W (w.heap.size+1) An.zero none 0:=by
  rw[hW]
  simpa using PnAt.new (w.alloc (.cells (frC F A) 41)) An.zero none 0
 have hzW:W.heap.size=w.heap.size+2:=by rw[hW];simp
 have H0:Hid (PEAll W R s ma mc/\FrAt W w.heap.size F A/\PnAt W (w.heap.size+1) An.zero none 0/\Below w.heap.size w W/\Seen W F A/\s.ms.length=16/\R<w.heap.size/\W.heap.size=w.heap.size+2):=⟨h.below hb0,hfr,han,hb0,hF.below hb0,hm,h.at'.lt,hzW⟩
 have HW:Hid ((w.alloc (.cells (frC F A) 41)).alloc (.cells (anC An.zero none 0) 48)=W):=hW.symm
 have KM:=pemade_ok W R s ma mc H0.out.1.at' hm
 have KF:=pefor_ok W R s ma mc H0.out.1.at' F A H0.out.2.2.2.2.1 3
 have HL0:Hid ((Instr.loadAt 41 (.pointer (some ⟨w.heap.size,0,none⟩))).run Tryz.prog W=.ok (.agg (frC F A)) W):=H0.out.2.1.loads
 rw[Ec.heB_split] at hB
 clear h hF hW hb0 hfr han hm hzW
 go_enter Tryz.func12,Tryz.ntmps12
 go_upto_region 1 with fail
 rw[show ((w.alloc (.cells (frC F A) 41)).alloc (.cells #[Value.int IntKind.i64 0,Value.int IntKind.i64 0,Value.int IntKind.i64 0,Value.int IntKind.i64 0,Value.int IntKind.i64 0,Value.int IntKind.i64 0,Value.slice none 0 0] 48))=W from HW.out]
 go_wp2_with fail
 refine KM.mono ?_
 rintro e w1 ⟨rfl,hw1⟩
 rw[hw1]
 clear hw1 w1 KM
 by_cases h3:s.forB F 3=true
 ·rw[h3] at KF hB
  go_wp2_with (first|(refine wpList_gload_run rfl 41 _ rfl _ _ rfl HL0.out ?_)|fail)
  refine KF.mono ?_
  rintro e V ⟨rfl,hbV⟩
  clear KF
  have e1:=(H0.out.2.1.below hbV).c1
  have KO:=peother_ok V R s ma mc (H0.out.1.at'.below hbV) F.f
  by_cases h4:s.othB F.f=true
  ·rw[h4] at hB KO
   have KT:=petime_ok V now
   rw[show timeB now=false from hB] at KT
   have HE0:Hid (Below W.heap.size W V):=hbV
   obtain⟨X,hst,hX,hs,aX⟩:=pn_stored (H0.out.2.2.1.below hbV) An.zero none 0 (Sees.nil' _)
   have HB:Hid ((Instr.build 48 #[]).run Tryz.prog V=.ok (.agg (anC An.zero none 0)) V):=pnbuild0 _
   have HST:Hid ((Instr.storeAt 48 (.pointer (some ⟨w.heap.size+1,0,none⟩)) (.agg (anC An.zero none 0))).run Tryz.prog V=.ok () X):=hst
   have HE:Hid (PnAt X (w.heap.size+1) An.zero none 0/\Sees X none 0 An.zero.key/\Below w.heap.size w X):=⟨hX,hs,aX.below (H0.out.2.2.2.1.trans (hbV.mono H0.out.2.2.2.1.size)) (λk hk=>by omega) (H0.out.2.2.2.1.trans (hbV.mono H0.out.2.2.2.1.size)).size⟩
   clear hst hX hs aX hbV
   clear hB h3 h4
   go_wp2_with fail
   refine KO.mono ?_
   rintro e w1 ⟨rfl,hw1⟩
   rw[hw1]
   clear hw1 w1 KO
   go_wp2_with fail
   refine KT.mono ?_
   rintro e w1 ⟨rfl,hw1⟩
   rw[hw1]
   clear hw1 w1 KT
   go_wp2_with (first|(refine wpList_build_run rfl 48 _ rfl [] _ rfl HB.out ?_)|(refine wpList_store_run rfl 48 _ _ rfl _ _ rfl rfl HST.out ?_)|fail)
   refine bodyPost_ret (res_pn_tmp rfl rfl HE.out.1) rfl ?_
   exact⟨none,0,rfl,HE.out.2⟩
  ·rw[Bool.eq_false_iff.2 h4] at KO
   have HE0:Hid (Below W.heap.size W V):=hbV
   obtain⟨X,hst,hX,hs,aX⟩:=pn_stored (H0.out.2.2.1.below hbV) An.zero none 0 (Sees.nil' _)
   have HB:Hid ((Instr.build 48 #[]).run Tryz.prog V=.ok (.agg (anC An.zero none 0)) V):=pnbuild0 _
   have HST:Hid ((Instr.storeAt 48 (.pointer (some ⟨w.heap.size+1,0,none⟩)) (.agg (anC An.zero none 0))).run Tryz.prog V=.ok () X):=hst
   have HE:Hid (PnAt X (w.heap.size+1) An.zero none 0/\Sees X none 0 An.zero.key/\Below w.heap.size w X):=⟨hX,hs,aX.below (H0.out.2.2.2.1.trans (hbV.mono H0.out.2.2.2.1.size)) (λk hk=>by omega) (H0.out.2.2.2.1.trans (hbV.mono H0.out.2.2.2.1.size)).size⟩
   clear hst hX hs aX hbV
   clear hB h3 h4
   go_wp2_with fail
   refine KO.mono ?_
   rintro e w1 ⟨rfl,hw1⟩
   rw[hw1]
   clear hw1 w1 KO
   go_wp2_with (first|(refine wpList_build_run rfl 48 _ rfl [] _ rfl HB.out ?_)|(refine wpList_store_run rfl 48 _ _ rfl _ _ rfl rfl HST.out ?_)|fail)
   refine bodyPost_ret (res_pn_tmp rfl rfl HE.out.1) rfl ?_
   exact⟨none,0,rfl,HE.out.2⟩
 ·rw[Bool.eq_false_iff.2 h3] at KF
  clear hB h3
  go_wp2_with (first|(refine wpList_gload_run rfl 41 _ rfl _ _ rfl HL0.out ?_)|fail)
  refine KF.mono ?_
  rintro e V ⟨rfl,hbV⟩
  clear KF
  have HE0:Hid (Below W.heap.size W V):=hbV
  obtain⟨X,hst,hX,hs,aX⟩:=pn_stored (H0.out.2.2.1.below hbV) An.zero none 0 (Sees.nil' _)
  have HB:Hid ((Instr.build 48 #[]).run Tryz.prog V=.ok (.agg (anC An.zero none 0)) V):=pnbuild0 _
  have HST:Hid ((Instr.storeAt 48 (.pointer (some ⟨w.heap.size+1,0,none⟩)) (.agg (anC An.zero none 0))).run Tryz.prog V=.ok () X):=hst
  have HE:Hid (PnAt X (w.heap.size+1) An.zero none 0/\Sees X none 0 An.zero.key/\Below w.heap.size w X):=⟨hX,hs,aX.below (H0.out.2.2.2.1.trans (hbV.mono H0.out.2.2.2.1.size)) (λk hk=>by omega) (H0.out.2.2.2.1.trans (hbV.mono H0.out.2.2.2.1.size)).size⟩
  clear hst hX hs aX hbV
  go_wp2_with (first|(refine wpList_build_run rfl 48 _ rfl [] _ rfl HB.out ?_)|(refine wpList_store_run rfl 48 _ _ rfl _ _ rfl rfl HST.out ?_)|fail)
  refine bodyPost_ret (res_pn_tmp rfl rfl HE.out.1) rfl ?_
  exact⟨none,0,rfl,HE.out.2⟩
theorem exec_eqQu {o:Oper}{a:Act}{w:World}(x y:Operand)(ho:o.op=.binOp .eql 64 x y 64)(p:Option (Nat×Int))(hp:∀ n t,p=some (n,t)->0<n)(hx:a.eval x=.agg (pwC p).toArray)(hy:a.eval y=.agg #[.int .u64 0,.int .i64 0]):(execOp a.eval o).run Tryz.prog w=.ok (.value (.bool p.isNone)) w:=by
 have hg:(eqGuard .eql 64 x y (.agg (pwC p).toArray) (.agg #[.int .u64 0,.int .i64 0])).run Tryz.prog w=.ok () w:=run_eqGuard_agg _ _ _ _ _ _ _ Tryz.eqGuardType64
 unfold execOp
 simp only[ho,hx,hy,Sem.run_bind,hg,eqQu p hp w,Result.andThen_ok,Sem.run_pure]
theorem pqbuild0 (U:World):(Instr.build 64 #[]).run Tryz.prog U=.ok (.agg #[.int .u64 0,.int .i64 0]) U:=run_build U 64 _ _ (by kernel_rfl)
theorem pehear_six (w:World)(R:Nat)(s:Ec)(ma:Option Addr)(mc:Nat)(h:PEAll w R s ma mc)(hok:s.ok)(F:Fr)(A:At)(hF:Seen w F A)(now:Int)(hB:s.heB F now=true)(hE:s.heE F now=6):
  Calls Tryz.prog 12 #[.pointer (some ⟨R,0,none⟩),.agg (frC F A),.int .i64 now] w λe w'=>HeardN w w' e An.zero 6:=by
 have hm:=hok.ms
 obtain⟨W,hW⟩:∃ W,W=(w.alloc (.cells (frC F A) 41)).alloc (.cells (anC An.zero none 0) 48):=⟨_,rfl⟩
 have hb0:Below w.heap.size w W:=by rw[hW];exact(Go.Joins.below_alloc1 _ _).alloc (by simp) _
 have hfr:FrAt W w.heap.size F A:=by rw[hW];exact(FrAt.new w F A).alloc _
 have han:PnAt W (w.heap.size+1) An.zero none 0:=by
  rw[hW]
  simpa using PnAt.new (w.alloc (.cells (frC F A) 41)) An.zero none 0
 have hzW:W.heap.size=w.heap.size+2:=by rw[hW];simp
 have H0:Hid (PEAll W R s ma mc/\FrAt W w.heap.size F A/\PnAt W (w.heap.size+1) An.zero none 0/\Below w.heap.size w W/\Seen W F A/\s.ms.length=16/\R<w.heap.size/\W.heap.size=w.heap.size+2):=⟨h.below hb0,hfr,han,hb0,hF.below hb0,hm,h.at'.lt,hzW⟩
 have HW:Hid ((w.alloc (.cells (frC F A) 41)).alloc (.cells (anC An.zero none 0) 48)=W):=hW.symm
 have KM:=pemade_ok W R s ma mc H0.out.1.at' hm
 have KF:=pefor_ok W R s ma mc H0.out.1.at' F A H0.out.2.2.2.2.1 3
 have HL0:Hid ((Instr.loadAt 41 (.pointer (some ⟨w.heap.size,0,none⟩))).run Tryz.prog W=.ok (.agg (frC F A)) W):=H0.out.2.1.loads
 obtain⟨hk3,ht3,hr3,⟨hf0,hfn⟩,hT,hk16,hm0,hm1⟩:=Ec.heB_iff hB
 have hsp:=Ec.heB_split (s:=s) (F:=F) (now:=now)
 rw[hB] at hsp
 have hsp2:=hsp.symm
 rw[Bool.and_eq_true,Bool.and_eq_true] at hsp2
 have h3:=hsp2.1
 have h4:=hsp2.2.1
 clear hsp2
 rw[h3] at KF
 have hf8:F.f<8:=by have:=(right_of hok.cfg).n1;omega
 obtain⟨p,hp⟩:∃ p,s.ws[F.f.toNat]?=some p:=by
  have hl:F.f.toNat<s.ws.length:=by rw[hok.num];omega
  exact⟨s.ws[F.f.toNat],by simp[hl]⟩
 have hat:s.at? F=p:=by unfold Ec.at?;rw[hp];rfl
 have hE6:∀ n t,p=some (n,t)->n≠F.n\/now<t:=by
  rintro n t rfl
  unfold Ec.heE at hE
  rw[if_pos hB,hat] at hE
  simp only at hE
  by_cases hc:n≠F.n\/now<t
  ·exact hc
  ·rw[if_neg hc] at hE
   split at hE<;>cases hE
 have HI:Hid (s.ws[F.f.toNat]?=some p/\s.othB F.f=true/\timeB now=true/\s.ok/\∀ n t,p=some (n,t)->n≠F.n\/now<t):=⟨hp,h4,hT,hok,hE6⟩
 clear h hF hW hb0 hfr han hm hzW hok hB hE hk3 ht3 hr3 hfn hT hk16 hm0 hm1 hsp h3 h4 hp hat hE6
 go_enter Tryz.func12,Tryz.ntmps12
 go_upto_region 1 with fail
 rw[show ((w.alloc (.cells (frC F A) 41)).alloc (.cells #[Value.int IntKind.i64 0,Value.int IntKind.i64 0,Value.int IntKind.i64 0,Value.int IntKind.i64 0,Value.int IntKind.i64 0,Value.int IntKind.i64 0,Value.slice none 0 0] 48))=W from HW.out]
 go_wp2_with fail
 refine KM.mono ?_
 rintro e w1 ⟨rfl,hw1⟩
 rw[hw1]
 clear hw1 w1 KM
 go_wp2_with (first|(refine wpList_gload_run rfl 41 _ rfl _ _ rfl HL0.out ?_)|fail)
 refine KF.mono ?_
 rintro e V ⟨rfl,hbV⟩
 clear KF
 have e1:=(H0.out.2.1.below hbV).c1
 have KO:=peother_ok V R s ma mc (H0.out.1.at'.below hbV) F.f
 rw[HI.out.2.1] at KO
 have KT:=petime_ok V now
 rw[HI.out.2.2.1] at KT
 have HBV:Hid (Below W.heap.size W V):=hbV
 clear hbV
 go_wp2_with fail
 refine KO.mono ?_
 rintro e w1 ⟨rfl,hw1⟩
 rw[hw1]
 clear hw1 w1 KO
 go_wp2_with fail
 refine KT.mono ?_
 rintro e w1 ⟨rfl,hw1⟩
 rw[hw1]
 clear hw1 w1 KT
 go_upto_region 5 with fail
 go_quiet (fail)
 obtain⟨V1,hV1⟩:∃ V1,V1=V.drewN nq:=⟨_,rfl⟩
 have hb1:Below W.heap.size W V1:=by rw[hV1];exact HBV.out.trans ((below_drewN (Below.refl _ _) nq).mono HBV.out.size)
 rw[<-hV1]
 have HV1:Hid (Below W.heap.size W V1):=hb1
 clear hV1 e1
 have HQ:Hid (∀ U,Below V1.heap.size V1 U->((Instr.loadAt 64 (.pointer (some ⟨R,14+F.f.toNat*2,none⟩))).run Tryz.prog U=.ok (.agg (pwC p).toArray) U/\(∀ n t,p=some (n,t)->U.cell? ⟨R,14+F.f.toNat*2,none⟩=some (.int .u64 (n:Int))/\U.cell? ⟨R,14+F.f.toNat*2+1,none⟩=some (.int .i64 t))/\U.cell? ⟨w.heap.size,6,none⟩=some (.int .u64 (F.n:Int)))):=λU hU=>by
  have h1:=(H0.out.1.at'.below hb1).below hU
  refine⟨h1.loads HI.out.1,?_,((H0.out.2.1.below hb1).below hU).c6⟩
  rintro n t rfl
  exact⟨h1.at? HI.out.1 0 rfl,h1.at? HI.out.1 1 rfl⟩
 have HB0:Hid (∀ U,(Instr.build 64 #[]).run Tryz.prog U=.ok (.agg #[.int .u64 0,.int .i64 0]) U):=pqbuild0
 have HP:Hid (∀ n t,p=some (n,t)->0<n):=λn t e=>(HI.out.2.2.2.1.wait p (List.mem_of_getElem? HI.out.1) n t e).1.1
 have hS0:=HQ.out V1.drew (Below.refl _ _).drew
 clear hb1
 go_upto_region 6 with fail
 rcases p with _|⟨n,t⟩
 ·obtain⟨hS1,_⟩:=hS0
  refine wp_region_noPanic ?_
  refine wp_region_held (S:=λU=>(Instr.loadAt 64 (.pointer (some ⟨R,14+F.f.toNat*2,none⟩))).run Tryz.prog U=.ok (.agg (pwC (none)).toArray) U) (by kernel_rfl) ?_
  have hS:=hS1
  refine tk 0 hS ?_
  refine tk 1 hS ?_
  refine tk 2 (v:=Value.agg (pwC (none)).toArray) (hv:=λU hU=>exec_load 64 (.tmp 40) rfl _ _ rfl hU) hS ?_
  refine tk 3 (v:=Value.agg #[.int .u64 0,.int .i64 0]) (hv:=λU _=>pexec_build 64 _ rfl [] _ rfl (HB0.out U)) hS ?_
  refine tk 4 (v:=Value.bool true) (hv:=λU hU=>exec_eqQu _ _ rfl none (λ_ _ h=>by cases h) rfl rfl) hS ?_
  refine tk 5 hS ?_
  refine tq 6 hS ?_
  refine tq 7 hS ?_
  refine tq 8 hS ?_
  refine tq 9 hS ?_
  refine tq 10 hS ?_
  refine tq 11 hS ?_
  refine tq 12 hS ?_
  refine tk 13 (v:=Value.bool true) (hv:=by intro w hSw;(try dsimp only at hSw);go_split_ands;go_simp) hS ?_
  refine tk 14 hS ?_
  refine tq 15 hS ?_
  refine tq 16 hS ?_
  refine tq 17 hS ?_
  refine tq 18 hS ?_
  refine tq 19 hS ?_
  refine tq 20 hS ?_
  refine tk 21 (v:=Value.bool true) (hv:=by intro w hSw;(try dsimp only at hSw);go_split_ands;go_simp) hS ?_
  refine wpAnyH_done (by kernel_rfl) ?_ _
  refine NoPanic.normal ?_
  obtain⟨V,hV⟩:∃ V,V=V1.drew:=⟨_,rfl⟩
  rw[show ({ heap:=V1.heap,tape:=V1.tape,drawn:=V1.drawn+1,os:=V1.os,output:=V1.output }:World)=V from hV.symm]
  have hbV:Below W.heap.size W V:=by rw[hV];exact HV1.out.trans ((Below.refl _ _).drew.mono HV1.out.size)
  clear hS hV
  clear hS1
  have HE0:Hid (Below W.heap.size W V):=hbV
  obtain⟨X,hst,hX,hs,aX⟩:=pn_stored (H0.out.2.2.1.below hbV) An.zero none 0 (Sees.nil' _)
  have HB:Hid ((Instr.build 48 #[]).run Tryz.prog V=.ok (.agg (anC An.zero none 0)) V):=pnbuild0 _
  have HST:Hid ((Instr.storeAt 48 (.pointer (some ⟨w.heap.size+1,0,none⟩)) (.agg (anC An.zero none 0))).run Tryz.prog V=.ok () X):=hst
  have HE:Hid (PnAt X (w.heap.size+1) An.zero none 0/\Sees X none 0 An.zero.key/\Below w.heap.size w X):=⟨hX,hs,aX.below (H0.out.2.2.2.1.trans (hbV.mono H0.out.2.2.2.1.size)) (λk hk=>by omega) (H0.out.2.2.2.1.trans (hbV.mono H0.out.2.2.2.1.size)).size⟩
  clear hst hX hs aX hbV
  go_wp2_with (first|(refine wpList_build_run rfl 48 _ rfl [] _ rfl HB.out ?_)|(refine wpList_store_run rfl 48 _ _ rfl _ _ rfl rfl HST.out ?_)|fail)
  refine bodyPost_ret (res_pn_tmp rfl rfl HE.out.1) rfl ?_
  exact⟨none,0,rfl,HE.out.2⟩
 ·obtain⟨hS1,hS2,hS3⟩:=hS0
  have h0n:=HP.out n t rfl
  obtain⟨hS4,hS5⟩:=hS2 n t rfl
  by_cases hn:n=F.n
  ·have hlt:now<t:=by
    rcases HI.out.2.2.2.2 n t rfl with h|h
    ·exact absurd hn h
    ·exact h
   have hnb:((n:Int) != (F.n:Int))=false:=by simp[hn]
   have hlb:decide (now<t)=true:=by simp[hlt]
   have hS6:=And.intro hS1 (And.intro hS4 (And.intro hS5 hS3))
   clear hS1 hS2 hS3 hS4 hS5 hn hlt
   refine wp_region_noPanic ?_
   refine wp_region_held (S:=λU=>(Instr.loadAt 64 (.pointer (some ⟨R,14+F.f.toNat*2,none⟩))).run Tryz.prog U=.ok (.agg (pwC (some (n,t))).toArray) U/\U.cell? ⟨R,14+F.f.toNat*2,none⟩=some (.int .u64 (n:Int))/\U.cell? ⟨R,14+F.f.toNat*2+1,none⟩=some (.int .i64 t)/\U.cell? ⟨w.heap.size,6,none⟩=some (.int .u64 (F.n:Int))) (by kernel_rfl) ?_
   have hS:=hS6
   refine tk 0 hS ?_
   refine tk 1 hS ?_
   refine tk 2 (v:=Value.agg (pwC (some (n,t))).toArray) (hv:=λU hU=>exec_load 64 (.tmp 40) rfl _ _ rfl hU.1) hS ?_
   refine tk 3 (v:=Value.agg #[.int .u64 0,.int .i64 0]) (hv:=λU _=>pexec_build 64 _ rfl [] _ rfl (HB0.out U)) hS ?_
   refine tk 4 (v:=Value.bool false) (hv:=λU hU=>exec_eqQu _ _ rfl (some (n,t)) (λ_ _ h=>by cases h;exact h0n) rfl rfl) hS ?_
   refine tk 5 hS ?_
   refine tk 6 hS ?_
   refine tk 7 hS ?_
   refine tk 8 hS ?_
   refine tk 9 hS ?_
   refine tk 10 hS ?_
   refine tk 11 hS ?_
   refine tk 12 (v:=Value.bool false) (hv:=by intro w hSw;(try dsimp only at hSw);go_split_ands;go_simp) hS ?_
   refine tk 13 (v:=Value.bool false) (hv:=by intro w hSw;(try dsimp only at hSw);go_split_ands;go_simp) hS ?_
   refine tk 14 hS ?_
   refine tk 15 hS ?_
   refine tk 16 hS ?_
   refine tk 17 hS ?_
   refine tk 18 hS ?_
   refine tk 19 hS ?_
   refine tk 20 (v:=Value.bool true) (hv:=by intro w hSw;(try dsimp only at hSw);go_split_ands;go_simp) hS ?_
   refine tk 21 (v:=Value.bool true) (hv:=by intro w hSw;(try dsimp only at hSw);go_split_ands;go_simp) hS ?_
   refine wpAnyH_done (by kernel_rfl) ?_ _
   refine NoPanic.normal ?_
   obtain⟨V,hV⟩:∃ V,V=V1.drew:=⟨_,rfl⟩
   rw[show ({ heap:=V1.heap,tape:=V1.tape,drawn:=V1.drawn+1,os:=V1.os,output:=V1.output }:World)=V from hV.symm]
   have hbV:Below W.heap.size W V:=by rw[hV];exact HV1.out.trans ((Below.refl _ _).drew.mono HV1.out.size)
   clear hS hV
   clear hS6 hnb hlb h0n
   have HE0:Hid (Below W.heap.size W V):=hbV
   obtain⟨X,hst,hX,hs,aX⟩:=pn_stored (H0.out.2.2.1.below hbV) An.zero none 0 (Sees.nil' _)
   have HB:Hid ((Instr.build 48 #[]).run Tryz.prog V=.ok (.agg (anC An.zero none 0)) V):=pnbuild0 _
   have HST:Hid ((Instr.storeAt 48 (.pointer (some ⟨w.heap.size+1,0,none⟩)) (.agg (anC An.zero none 0))).run Tryz.prog V=.ok () X):=hst
   have HE:Hid (PnAt X (w.heap.size+1) An.zero none 0/\Sees X none 0 An.zero.key/\Below w.heap.size w X):=⟨hX,hs,aX.below (H0.out.2.2.2.1.trans (hbV.mono H0.out.2.2.2.1.size)) (λk hk=>by omega) (H0.out.2.2.2.1.trans (hbV.mono H0.out.2.2.2.1.size)).size⟩
   clear hst hX hs aX hbV
   go_wp2_with (first|(refine wpList_build_run rfl 48 _ rfl [] _ rfl HB.out ?_)|(refine wpList_store_run rfl 48 _ _ rfl _ _ rfl rfl HST.out ?_)|fail)
   refine bodyPost_ret (res_pn_tmp rfl rfl HE.out.1) rfl ?_
   exact⟨none,0,rfl,HE.out.2⟩
  ·have hnb:((n:Int) != (F.n:Int))=true:=by simp;omega
   have hS6:=And.intro hS1 (And.intro hS4 hS3)
   clear hS1 hS2 hS3 hS4 hS5 hn
   refine wp_region_noPanic ?_
   refine wp_region_held (S:=λU=>(Instr.loadAt 64 (.pointer (some ⟨R,14+F.f.toNat*2,none⟩))).run Tryz.prog U=.ok (.agg (pwC (some (n,t))).toArray) U/\U.cell? ⟨R,14+F.f.toNat*2,none⟩=some (.int .u64 (n:Int))/\U.cell? ⟨w.heap.size,6,none⟩=some (.int .u64 (F.n:Int))) (by kernel_rfl) ?_
   have hS:=hS6
   refine tk 0 hS ?_
   refine tk 1 hS ?_
   refine tk 2 (v:=Value.agg (pwC (some (n,t))).toArray) (hv:=λU hU=>exec_load 64 (.tmp 40) rfl _ _ rfl hU.1) hS ?_
   refine tk 3 (v:=Value.agg #[.int .u64 0,.int .i64 0]) (hv:=λU _=>pexec_build 64 _ rfl [] _ rfl (HB0.out U)) hS ?_
   refine tk 4 (v:=Value.bool false) (hv:=λU hU=>exec_eqQu _ _ rfl (some (n,t)) (λ_ _ h=>by cases h;exact h0n) rfl rfl) hS ?_
   refine tk 5 hS ?_
   refine tk 6 hS ?_
   refine tk 7 hS ?_
   refine tk 8 hS ?_
   refine tk 9 hS ?_
   refine tk 10 hS ?_
   refine tk 11 hS ?_
   refine tk 12 (v:=Value.bool true) (hv:=by intro w hSw;(try dsimp only at hSw);go_split_ands;go_simp) hS ?_
   refine tk 13 (v:=Value.bool true) (hv:=by intro w hSw;(try dsimp only at hSw);go_split_ands;go_simp) hS ?_
   refine tk 14 hS ?_
   refine tq 15 hS ?_
   refine tq 16 hS ?_
   refine tq 17 hS ?_
   refine tq 18 hS ?_
   refine tq 19 hS ?_
   refine tq 20 hS ?_
   refine tk 21 (v:=Value.bool true) (hv:=by intro w hSw;(try dsimp only at hSw);go_split_ands;go_simp) hS ?_
   refine wpAnyH_done (by kernel_rfl) ?_ _
   refine NoPanic.normal ?_
   obtain⟨V,hV⟩:∃ V,V=V1.drew:=⟨_,rfl⟩
   rw[show ({ heap:=V1.heap,tape:=V1.tape,drawn:=V1.drawn+1,os:=V1.os,output:=V1.output }:World)=V from hV.symm]
   have hbV:Below W.heap.size W V:=by rw[hV];exact HV1.out.trans ((Below.refl _ _).drew.mono HV1.out.size)
   clear hS hV
   clear hS6 hnb h0n
   have HE0:Hid (Below W.heap.size W V):=hbV
   obtain⟨X,hst,hX,hs,aX⟩:=pn_stored (H0.out.2.2.1.below hbV) An.zero none 0 (Sees.nil' _)
   have HB:Hid ((Instr.build 48 #[]).run Tryz.prog V=.ok (.agg (anC An.zero none 0)) V):=pnbuild0 _
   have HST:Hid ((Instr.storeAt 48 (.pointer (some ⟨w.heap.size+1,0,none⟩)) (.agg (anC An.zero none 0))).run Tryz.prog V=.ok () X):=hst
   have HE:Hid (PnAt X (w.heap.size+1) An.zero none 0/\Sees X none 0 An.zero.key/\Below w.heap.size w X):=⟨hX,hs,aX.below (H0.out.2.2.2.1.trans (hbV.mono H0.out.2.2.2.1.size)) (λk hk=>by omega) (H0.out.2.2.2.1.trans (hbV.mono H0.out.2.2.2.1.size)).size⟩
   clear hst hX hs aX hbV
   go_wp2_with (first|(refine wpList_build_run rfl 48 _ rfl [] _ rfl HB.out ?_)|(refine wpList_store_run rfl 48 _ _ rfl _ _ rfl rfl HST.out ?_)|fail)
   refine bodyPost_ret (res_pn_tmp rfl rfl HE.out.1) rfl ?_
   exact⟨none,0,rfl,HE.out.2⟩
end Go.Proofs.YthogohkieiogiaaGreatDoor
