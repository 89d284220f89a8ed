/-
  The document's Hear, where it hears what it did not wait for.
-/
import Derived.Test.YtahnbljbhfpldaaGreatDoorEchoK
namespace Go.Proofs.YtahnbljbhfpldaaGreatDoor
set_option maxRecDepth 20000
set_option maxHeartbeats 6400000
open Go.ChangeShapes Go.WideShapes Go.ChangeAt Go.RowKit
def BxAt (w:World)(b:Nat)(p:Option (Nat×Int)):Prop:=w.heap[b]?=some (.cells (wdC p).toArray 63 (0,0))
theorem wdC_size (p:Option (Nat×Int)):(wdC p).toArray.size=3:=by simp[wdC_len]
theorem wdC_one (p:Option (Nat×Int)):(wdC p).toArray.all (·.oneCell')=true:=all_oneCell_toArray (by
 intro v hv
 rcases p with _|⟨n,t⟩<;>simp only[wdC,List.mem_cons,List.not_mem_nil,or_false] at hv<;>rcases hv with rfl|rfl|rfl<;>rfl)
theorem BxAt.stores {w:World}{b:Nat}{q:Option (Nat×Int)}(h:BxAt w b q)(p:Option (Nat×Int)):(Instr.storeAt 63 (.pointer (some ⟨b,0,none⟩)) (.agg (wdC p).toArray)).run Tryz.prog w=.ok () (w.setRow b (wdC p).toArray):=
 storeAt_row w b 63 63 _ _ h (by rw[wdC_size];kernel_rfl) (by rw[wdC_size,wdC_size]) (wdC_one p)
theorem BxAt.cell {w:World}{b:Nat}{p:Option (Nat×Int)}(h:BxAt w b p)(i:Nat){u:Value}(hu:(wdC p)[i]?=some u):w.cell? ⟨b,i,none⟩=some u:=by
 rw[cell_of_row w _ i _ _ _ h];simpa using hu
theorem BxAt.below {w w':World}{b:Nat}{p:Option (Nat×Int)}(h:BxAt w b p)(hb:Below w.heap.size w w'):BxAt w' b p:=(hb.block b (Array.getElem?_eq_some_iff.1 h).1).trans h
theorem Tryz.underWd:Tryz.prog.underlying 63=some (.struct (match Tryz.prog.underlying 63 with|some (.struct f)=>f|_=>default)):=by kernel_rfl
theorem DWAt.loads {w:World}{g:Nat}{ws:List (Option (Nat×Int))}(h:DWAt w g ws){j:Nat}{p:Option (Nat×Int)}(hp:ws[j]?=some p):(Instr.loadAt 63 (.pointer (some ⟨g,j*3,none⟩))).run Tryz.prog w=.ok (.agg (wdC p).toArray) w:=by
 refine run_loadAt_mid w g (j*3) 63 (wdC p) _ ?_ Tryz.underWd rfl (by rw[wdC_len];kernel_rfl)
 intro i u hu
 exact h.cell hp i hu
theorem dehear_six (w:World)(R g:Nat)(s:Ec)(ma:Option Addr)(mc:Nat)(h:DEAll w R g s ma mc)(hok:s.ok)(F:Fr)(A:At)(hF:Seen w F A)(now:Int)(hB:s.heB F now=true)(hE:s.heE F now=6):
  Calls Tryz.prog 19 #[.pointer (some ⟨R,0,none⟩),.agg (frC F A),.int .i64 now] w λe w'=>HeardN w w' e An.zero 6:=by
 obtain⟨W,hW⟩:∃ W,W=(w.alloc (.cells (frC F A) 40)).alloc (.cells (anC An.zero none 0) 54):=⟨_,rfl⟩
 have hb0:Below w.heap.size w W:=by rw[hW];exact(Go.Joins.below_alloc1 _ _).alloc (by simp) _
 have hfr:FrAt W w.heap.size F A:=by rw[hW];exact(FrAt.new w F A).alloc _
 have han:AnAt W (w.heap.size+1) An.zero none 0:=by
  rw[hW]
  simpa using AnAt.new (w.alloc (.cells (frC F A) 40)) An.zero none 0
 have H0:Hid (DEAll W R g s ma mc/\FrAt W w.heap.size F A/\AnAt W (w.heap.size+1) An.zero none 0/\Below w.heap.size w W/\Seen W F A/\W=(w.alloc (.cells (frC F A) 40)).alloc (.cells (anC An.zero none 0) 54)):=⟨h.below hb0,hfr,han,hb0,hF.below hb0,hW⟩
 have HQ:Hid (∀ V,Below W.heap.size W V->((Instr.loadAt 40 (.pointer (some ⟨w.heap.size,0,none⟩))).run Tryz.prog V=.ok (.agg (frC F A)) V/\V.cell? ⟨w.heap.size,0,none⟩=some (.int .i64 F.k)/\V.cell? ⟨w.heap.size,1,none⟩=some (.int .i64 F.f)/\V.cell? ⟨w.heap.size,2,none⟩=some (.int .i64 F.t)/\V.cell? ⟨R,11,none⟩=some (.int .i64 s.i)/\V.cell? ⟨R,0,none⟩=some (.int .i64 s.c.n))):=λV hV=>
  ⟨(H0.out.2.1.below hV).loads,(H0.out.2.1.below hV).c0,(H0.out.2.1.below hV).c1,(H0.out.2.1.below hV).c2,(H0.out.1.below hV).at'.cell 11 rfl,(H0.out.1.below hV).at'.cell 0 rfl⟩
 have hS0:=HQ.out W.drew (Below.refl _ _).drew
 have KT:Hid (∀ W,Calls Tryz.prog 35 #[.int .i64 now] W λe w'=>e=.returned (.bool (timeB now))/\w'=W):=λW=>detime_ok W now
 have KC:=rcheck_ok W.drew F A (H0.out.2.2.2.2.1.below (Below.refl _ _).drew)
 obtain⟨hk,ht,hr,⟨hf0,hfn⟩,hT,_⟩:=Ec.heB_iff hB
 have hkb:(F.k != 3)=false:=by simp[hk]
 have htb:(F.t != s.i)=false:=by simp[ht]
 have hn:¬ s.c.n<=F.f:=by omega
 rw[hT] at KT
 rw[if_pos hr] at KC
 obtain⟨L,hL⟩:∃ L,L=s.ws.length:=⟨_,rfl⟩
 have hfL:F.f<(L:Int):=by rw[hL,hok.num];omega
 obtain⟨p,hp⟩:∃ p,s.ws[F.f.toNat]?=some p:=⟨s.ws[F.f.toNat]'(by omega),by simp[show F.f.toNat<s.ws.length by omega]⟩
 have HI:Hid (L=s.ws.length/\s.ws[F.f.toNat]?=some p/\s.ok/\s.heB F now=true/\F.f<s.c.n):=⟨hL,hp,hok,hB,hfn⟩
 have HEE:Hid (s.heE F now=6):=hE
 clear h hF hW hb0 hfr han hB hk ht hr hT hfn hok hL hp hE
 go_enter Tryz.func19,Tryz.ntmps19
 go_upto_region 1 with fail
 rw[show ((w.alloc (.cells (frC F A) 40)).alloc (.cells #[Value.int IntKind.i64 0,Value.int IntKind.i64 0,Value.int IntKind.i64 0,Value.int IntKind.i64 0,Value.int IntKind.i64 0,Value.int IntKind.i64 0,Value.slice none 0 0] 54))=W from H0.out.2.2.2.2.2.symm]
 refine wp_region_noPanic ?_
 refine wp_region_held (S:=λV=>(Instr.loadAt 40 (.pointer (some ⟨w.heap.size,0,none⟩))).run Tryz.prog V=.ok (.agg (frC F A)) V/\V.cell? ⟨w.heap.size,0,none⟩=some (.int .i64 F.k)/\V.cell? ⟨w.heap.size,1,none⟩=some (.int .i64 F.f)/\V.cell? ⟨w.heap.size,2,none⟩=some (.int .i64 F.t)/\V.cell? ⟨R,11,none⟩=some (.int .i64 s.i)/\V.cell? ⟨R,0,none⟩=some (.int .i64 s.c.n)) (by kernel_rfl) ?_
 have hS:=hS0
 refine tk 0 hS ?_
 refine tk 1 hS ?_
 refine tk 2 (v:=Value.bool false) (hv:=by intro w hSw;(try dsimp only at hSw);go_split_ands;go_simp) hS ?_
 refine tk 3 hS ?_
 refine tk 4 hS ?_
 refine tk 5 hS ?_
 refine tk 6 hS ?_
 refine tk 7 hS ?_
 refine tk 8 hS ?_
 refine tk 9 hS ?_
 refine tk 10 (v:=Value.bool false) (hv:=by intro w hSw;(try dsimp only at hSw);go_split_ands;go_simp) hS ?_
 refine tk 11 hS ?_
 refine tk 12 hS ?_
 refine tk 13 (v:=Value.agg (frC F A)) (hv:=λW hW=>exec_load 40 (.tmp 4) rfl _ _ rfl hW.1) hS ?_
 refine any_one 14 rfl (by kernel_rfl) (by rfl) (λK hK=>?_)
 clear hS
 go_simp
 refine KC.mono ?_
 rintro ev V ⟨rfl,hb⟩
 have hbV:Below W.heap.size W V:=(Below.refl W.heap.size W).drew.trans hb
 have HQ1:=HQ.out V hbV
 clear hb KC
 refine hK.out _ _ (HQ1) (λhS=>?_)
 clear hK
 (try simp only[Act.put,sT])
 refine tk 15 hS ?_
 refine tk 16 (v:=Value.bool false) (hv:=by intro w hSw;(try dsimp only at hSw);go_split_ands;go_simp) hS ?_
 refine tk 17 hS ?_
 refine tk 18 hS ?_
 refine tk 19 hS ?_
 refine tk 20 hS ?_
 refine tk 21 hS ?_
 refine tk 22 hS ?_
 refine tk 23 hS ?_
 refine tk 24 hS ?_
 refine tk 25 (v:=Value.bool false) (hv:=by intro w hSw;(try dsimp only at hSw);go_split_ands;go_simp) hS ?_
 refine tk 26 (v:=Value.bool false) (hv:=by intro w hSw;(try dsimp only at hSw);go_split_ands;go_simp) hS ?_
 refine tk 27 hS ?_
 refine tk 28 hS ?_
 refine any_one 29 rfl (by kernel_rfl) (by rfl) (λK hK=>?_)
 clear hS
 go_simp
 refine(KT.out _).mono ?_
 rintro ev V2 ⟨rfl,rfl⟩
 refine hK.out _ _ (HQ1) (λhS=>?_)
 clear hK
 (try simp only[Act.put,sT])
 refine tk 30 hS ?_
 refine tk 31 hS ?_
 refine wpAnyH_done (by kernel_rfl) ?_ _
 refine NoPanic.normal ?_
 clear hS hS0 HQ HQ1
 have HV:Hid (Below W.heap.size W V2):=hbV
 have HP:Hid (∀ U,Below V2.heap.size V2 U->(U.cell? ⟨R,14,none⟩=some (.slice (some ⟨g,0,none⟩) L L)/\U.cell? ⟨w.heap.size,1,none⟩=some (.int .i64 F.f)/\(Instr.loadAt 63 (.pointer (some ⟨g,F.f.toNat*3,none⟩))).run Tryz.prog U=.ok (.agg (wdC p).toArray) U)):=λU hU=>by
  have h1:=(H0.out.1.below HV.out).below hU
  refine⟨?_,((H0.out.2.1.below HV.out).below hU).c1,h1.ws.loads HI.out.2.1⟩
  rw[HI.out.1];exact h1.at'.cell 14 rfl
 have hS0:=HP.out V2.drew (Below.refl _ _).drew
 clear hbV hn hkb htb
 go_upto_region 3 with fail
 refine wp_region_noPanic ?_
 refine wp_region_held (S:=λU=>U.cell? ⟨R,14,none⟩=some (.slice (some ⟨g,0,none⟩) L L)/\U.cell? ⟨w.heap.size,1,none⟩=some (.int .i64 F.f)/\(Instr.loadAt 63 (.pointer (some ⟨g,F.f.toNat*3,none⟩))).run Tryz.prog U=.ok (.agg (wdC p).toArray) U) (by kernel_rfl) ?_
 have hS:=hS0
 refine tk 0 hS ?_
 refine tk 1 hS ?_
 refine tk 2 hS ?_
 refine tk 3 hS ?_
 refine tk 4 hS ?_
 refine tk 5 hS ?_
 refine tk 6 hS ?_
 refine tk 7 (v:=Value.agg (wdC p).toArray) (hv:=λU hU=>exec_load 63 (.tmp 51) rfl _ _ rfl hU.2.2) hS ?_
 refine any_one 8 rfl (by kernel_rfl) (by rfl) (λK hK=>?_)
 clear hS
 go_simp
 obtain⟨V1,hV1⟩:∃ V1,V1=(V2.alloc (.cells (wdC none).toArray 63)).drew:=⟨_,rfl⟩
 have hq1:(V2.alloc (.cells #[Value.bool false,Value.int IntKind.u64 0,Value.int IntKind.i64 0] 63)).drew=V1:=hV1.symm
 rw[hq1]
 have hb1:Below V2.heap.size V2 V1:=by rw[hV1];exact((Below.refl V2.heap.size V2).alloc (Nat.le_refl _) _).drew
 have hn1:BxAt V1 V2.heap.size none:=by rw[hV1];exact heap_alloc_new V2 _
 have HP1:=HP.out V1 hb1
 clear hV1 hq1
 refine hK.out _ _ (HP1) (λhS=>?_)
 clear hK
 (try simp only[Act.put,sT])
 refine any_one 9 rfl (by kernel_rfl) (by rfl) (λK hK=>?_)
 clear hS
 obtain⟨V3,hV3⟩:∃ V3,V3=V1.setRow V2.heap.size (wdC p).toArray:=⟨_,rfl⟩
 have hst3:(Instr.storeAt 63 (.pointer (some ⟨V2.heap.size,0,none⟩)) (.agg (wdC p).toArray)).run Tryz.prog V1=.ok () V3:=by rw[hV3];exact hn1.stores p
 refine op_store_run 63 _ _ rfl _ _ rfl rfl hst3 ?_
 have hb3:Below V2.heap.size V2 V3:=by rw[hV3];exact below_setRow hb1 (Nat.le_refl _) _
 have hn3:BxAt V3 V2.heap.size p:=by rw[hV3];exact setRow_heap _ _ _ _ 63 _ hn1
 have HP3:=HP.out V3 hb3
 clear hV3 hst3
 refine hK.out _ _ (HP3) (λhS=>?_)
 clear hK
 (try simp only[Act.put])
 refine wpAnyH_done (by kernel_rfl) ?_ _
 refine NoPanic.normal ?_
 clear hS hS0 HP HP1 HP3 hn1 hb1
 have hbW:Below W.heap.size W V3:=HV.out.trans (hb3.mono HV.out.size)
 have HA2:Hid (DEAll V3 R g s ma mc/\AnAt V3 (w.heap.size+1) An.zero none 0/\Below w.heap.size w V3):=⟨H0.out.1.below hbW,H0.out.2.2.1.below hbW,H0.out.2.2.2.1.trans (hbW.mono H0.out.2.2.2.1.size)⟩
 have HF2:Hid (FrAt V3 w.heap.size F A/\Seen V3 F A/\BxAt V3 V2.heap.size p):=⟨H0.out.2.1.below hbW,H0.out.2.2.2.2.1.below hbW,hn3⟩
 have hsz:w.heap.size+1<V2.heap.size:=by have:=H0.out.2.2.1.lt;have:=HV.out.size;omega
 have c6:=HF2.out.1.c6
 clear hbW hb3
 rcases p with _|⟨n,t⟩
 ·have b0:=hn3.cell 0 rfl
  clear hn3 c6
  obtain⟨X,hst,hX,hs,hbX⟩:=an_stored (w:=w) (W:=V3) (k:=w.heap.size+1) HA2.out.2.1 (by omega) HA2.out.2.2 An.zero none 0 (Sees.nil' _)
  have HB:Hid ((Instr.build 54 #[]).run Tryz.prog V3=.ok (.agg (anC An.zero none 0)) V3):=anbuild0 _
  have HST:Hid ((Instr.storeAt 54 (.pointer (some ⟨w.heap.size+1,0,none⟩)) (.agg (anC An.zero none 0))).run Tryz.prog V3=.ok () X):=hst
  have HE:Hid (AnAt X (w.heap.size+1) An.zero none 0/\Sees X none 0 An.zero.key/\Below w.heap.size w X):=⟨hX,hs,hbX⟩
  clear hst hX hs hbX
  go_wp2_with (first|(refine wpList_build_run rfl 54 _ rfl [] _ rfl HB.out ?_)|(refine wpList_store_run rfl 54 _ _ rfl _ _ rfl rfl HST.out ?_)|fail)
  refine bodyPost_ret (res_an_tmp rfl rfl HE.out.1) rfl ?_
  exact⟨none,0,rfl,HE.out.2⟩
 ·have b0:=hn3.cell 0 rfl
  have b1:=hn3.cell 1 rfl
  have b2:=hn3.cell 2 rfl
  have hcase:n≠F.n\/now<t:=by
   have h1:=HEE.out
   unfold Ec.heE Ec.at? at h1
   rw[if_pos HI.out.2.2.2.1,HI.out.2.1] at h1
   simp only[Option.join_some] at h1
   by_cases hc:n≠F.n\/now<t
   ·exact hc
   ·rw[if_neg hc] at h1
    split at h1<;>cases h1
  obtain⟨zn,hzn⟩:∃ zn:Int,zn=(n:Int):=⟨_,rfl⟩
  obtain⟨zf,hzf⟩:∃ zf:Int,zf=(F.n:Int):=⟨_,rfl⟩
  rw[<-hzn] at b1
  rw[<-hzf] at c6
  by_cases hq:n=F.n
  ·have hq2:(zn != zf)=false:=by simp[hzn,hzf,hq]
   have hlt:now<t:=by rcases hcase with h|h;exact absurd hq h;exact h
   clear hn3 hcase hq hzn hzf
   obtain⟨X,hst,hX,hs,hbX⟩:=an_stored (w:=w) (W:=V3) (k:=w.heap.size+1) HA2.out.2.1 (by omega) HA2.out.2.2 An.zero none 0 (Sees.nil' _)
   have HB:Hid ((Instr.build 54 #[]).run Tryz.prog V3=.ok (.agg (anC An.zero none 0)) V3):=anbuild0 _
   have HST:Hid ((Instr.storeAt 54 (.pointer (some ⟨w.heap.size+1,0,none⟩)) (.agg (anC An.zero none 0))).run Tryz.prog V3=.ok () X):=hst
   have HE:Hid (AnAt X (w.heap.size+1) An.zero none 0/\Sees X none 0 An.zero.key/\Below w.heap.size w X):=⟨hX,hs,hbX⟩
   clear hst hX hs hbX
   go_wp2_with (first|(refine wpList_build_run rfl 54 _ rfl [] _ rfl HB.out ?_)|(refine wpList_store_run rfl 54 _ _ rfl _ _ rfl rfl HST.out ?_)|fail)
   refine bodyPost_ret (res_an_tmp rfl rfl HE.out.1) rfl ?_
   exact⟨none,0,rfl,HE.out.2⟩
  ·have hq2:(zn != zf)=true:=by simp[hzn,hzf];omega
   clear hn3 hcase hq hzn hzf
   obtain⟨X,hst,hX,hs,hbX⟩:=an_stored (w:=w) (W:=V3) (k:=w.heap.size+1) HA2.out.2.1 (by omega) HA2.out.2.2 An.zero none 0 (Sees.nil' _)
   have HB:Hid ((Instr.build 54 #[]).run Tryz.prog V3=.ok (.agg (anC An.zero none 0)) V3):=anbuild0 _
   have HST:Hid ((Instr.storeAt 54 (.pointer (some ⟨w.heap.size+1,0,none⟩)) (.agg (anC An.zero none 0))).run Tryz.prog V3=.ok () X):=hst
   have HE:Hid (AnAt X (w.heap.size+1) An.zero none 0/\Sees X none 0 An.zero.key/\Below w.heap.size w X):=⟨hX,hs,hbX⟩
   clear hst hX hs hbX
   go_wp2_with (first|(refine wpList_build_run rfl 54 _ rfl [] _ rfl HB.out ?_)|(refine wpList_store_run rfl 54 _ _ rfl _ _ rfl rfl HST.out ?_)|fail)
   refine bodyPost_ret (res_an_tmp rfl rfl HE.out.1) rfl ?_
   exact⟨none,0,rfl,HE.out.2⟩
end Go.Proofs.YtahnbljbhfpldaaGreatDoor
