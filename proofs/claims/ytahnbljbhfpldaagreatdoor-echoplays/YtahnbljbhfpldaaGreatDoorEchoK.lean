/-
  The document's Hear, where it hears nothing.
-/
import Derived.Test.YtahnbljbhfpldaaGreatDoorEchoJ
import Derived.Test.YtahnbljbhfpldaaGreatDoorEchoI
namespace Go.Proofs.YtahnbljbhfpldaaGreatDoor
set_option maxRecDepth 20000
set_option maxHeartbeats 6400000
open Go.ChangeShapes Go.WideShapes Go.ChangeAt Go.RowKit
def AnAt (w:World)(g:Nat)(x:An)(a:Option Addr)(c:Nat):Prop:=w.heap[g]?=some (.cells (anC x a c) 54 (0,0))
theorem AnAt.lt {w:World}{g:Nat}{x:An}{a:Option Addr}{c:Nat}(h:AnAt w g x a c):g<w.heap.size:=(Array.getElem?_eq_some_iff.1 h).1
theorem AnAt.below {w w':World}{g:Nat}{x:An}{a:Option Addr}{c:Nat}(h:AnAt w g x a c)(hb:Below w.heap.size w w'):AnAt w' g x a c:=(hb.block g h.lt).trans h
theorem AnAt.new (w:World)(x:An)(a:Option Addr)(c:Nat):AnAt (w.alloc (.cells (anC x a c) 54)) w.heap.size x a c:=heap_alloc_new _ _
theorem Tryz.underAd:Tryz.prog.underlying 54=some (.struct (match Tryz.prog.underlying 54 with|some (.struct f)=>f|_=>default)):=by kernel_rfl
theorem anbuild0 (U:World):(Instr.build 54 #[]).run Tryz.prog U=.ok (.agg (anC An.zero none 0)) U:=run_build U 54 _ _ (by kernel_rfl)
theorem AnAt.stores {w:World}{g:Nat}{x:An}{a:Option Addr}{c:Nat}(h:AnAt w g x a c)(y:An)(b:Option Addr)(d:Nat):(Instr.storeAt 54 (.pointer (some ⟨g,0,none⟩)) (.agg (anC y b d))).run Tryz.prog w=.ok () (w.setRow g (anC y b d)):=
 storeAt_row w g 54 54 _ _ h (by rw[anC_size];kernel_rfl) rfl (anC_one y b d)
theorem res_an_tmp {fn:Func}{p q:Tmp}(h:fn.results=#[.cell p 54,.tmp q]){tmps:Array Value}{w:World}{g:Nat}{x:An}{a:Option Addr}{c:Nat}(hp:tmps.getD p undef=.pointer (some ⟨g,0,none⟩))(hg:AnAt w g x a c):
  (results fn tmps).run Tryz.prog w=.ok (.tuple #[.agg (anC x a c),tmps.getD q undef]) w:=
 results_cell_tmp h tmps w g 54 _ (0,0) _ hp hg Tryz.underAd rfl (by rw[anC_size];kernel_rfl)
theorem AnAt.apart {w:World}{g:Nat}{z:An}{za:Option Addr}{zc:Nat}(h:AnAt w g z za zc){x:Option Addr}{c:Nat}{l:List UInt8}(hs:Sees w x c l):∀ b off,x=some ⟨b,off,none⟩->l≠[]->b≠g:=by
 rintro b off e hne rfl
 obtain⟨k',off',ha,hc⟩:=hs.at' hne
 rw[e] at ha
 simp only[Option.some.injEq,Addr.mk.injEq,and_true] at ha
 obtain⟨rfl,rfl⟩:=ha
 obtain⟨y,l',hl⟩:=List.exists_cons_of_ne_nil hne
 have h0:=hc 0 y (by rw[hl];rfl)
 rw[cell_of_row _ _ (off+0) _ _ _ h] at h0
 have:=List.mem_of_getElem? (show (anL z za zc)[off+0]?=_ by rw[<-h0];simp[anC])
 simp[anL] at this
theorem an_stored {w W:World}{k:Nat}{z:An}{za:Option Addr}{zc:Nat}(h:AnAt W k z za zc)(hk:w.heap.size<=k)(hb:Below w.heap.size w W)(x:An)(a:Option Addr)(c:Nat)(hs:Sees W a c x.key):
  ∃ W',(Instr.storeAt 54 (.pointer (some ⟨k,0,none⟩)) (.agg (anC x a c))).run Tryz.prog W=.ok () W'/\AnAt W' k x a c/\Sees W' a c x.key/\Below w.heap.size w W':=by
 refine⟨_,h.stores x a c,setRow_heap _ _ _ _ 54 _ h,⟨hs.fits,hs.room,hs.bare,λhne=>?_⟩,below_setRow hb hk _⟩
 obtain⟨b',off,ha,hc⟩:=hs.at' hne
 refine⟨b',off,ha,λj y hy=>?_⟩
 rw[World.cell?_of_block (w:=W) (setRow_other _ _ _ _ (h.apart hs b' off ha hne)),hc j y hy]
theorem dehear_no (w:World)(R g:Nat)(s:Ec)(ma:Option Addr)(mc:Nat)(h:DEAll w R g s ma mc)(F:Fr)(A:At)(hF:Seen w F A)(now:Int)(hB:s.heB F now=false):
  Calls Tryz.prog 19 #[.pointer (some ⟨R,0,none⟩),.agg (frC F A),.int .i64 now] w λe w'=>HeardN w w' e An.zero 1:=by
 obtain⟨W,hW⟩:∃ W,W=(w.alloc (.cells (frC F A) 40)).alloc (.cells (anC An.zero none 0) 54):=⟨_,rfl⟩
 have hb0:Below w.heap.size w W:=by rw[hW];exact(Go.Joins.below_alloc1 _ _).alloc (by simp) _
 have hfr:FrAt W w.heap.size F A:=by rw[hW];exact(FrAt.new w F A).alloc _
 have han:AnAt W (w.heap.size+1) An.zero none 0:=by
  rw[hW]
  simpa using AnAt.new (w.alloc (.cells (frC F A) 40)) An.zero none 0
 have H0:Hid (DEAll W R g s ma mc/\FrAt W w.heap.size F A/\AnAt W (w.heap.size+1) An.zero none 0/\Below w.heap.size w W/\Seen W F A/\W=(w.alloc (.cells (frC F A) 40)).alloc (.cells (anC An.zero none 0) 54)):=⟨h.below hb0,hfr,han,hb0,hF.below hb0,hW⟩
 have HQ:Hid (∀ V,Below W.heap.size W V->((Instr.loadAt 40 (.pointer (some ⟨w.heap.size,0,none⟩))).run Tryz.prog V=.ok (.agg (frC F A)) V/\V.cell? ⟨w.heap.size,0,none⟩=some (.int .i64 F.k)/\V.cell? ⟨w.heap.size,1,none⟩=some (.int .i64 F.f)/\V.cell? ⟨w.heap.size,2,none⟩=some (.int .i64 F.t)/\V.cell? ⟨R,11,none⟩=some (.int .i64 s.i)/\V.cell? ⟨R,0,none⟩=some (.int .i64 s.c.n))):=λV hV=>
  ⟨(H0.out.2.1.below hV).loads,(H0.out.2.1.below hV).c0,(H0.out.2.1.below hV).c1,(H0.out.2.1.below hV).c2,(H0.out.1.below hV).at'.cell 11 rfl,(H0.out.1.below hV).at'.cell 0 rfl⟩
 have hS0:=HQ.out W.drew (Below.refl _ _).drew
 have KT:Hid (∀ W,Calls Tryz.prog 35 #[.int .i64 now] W λe w'=>e=.returned (.bool (timeB now))/\w'=W):=λW=>detime_ok W now
 have KC:=rcheck_ok W.drew F A (H0.out.2.2.2.2.1.below (Below.refl _ _).drew)
 have HBB:Hid (s.heB F now=false):=hB
 clear h hF hW hb0 hfr han hB
 go_enter Tryz.func19,Tryz.ntmps19
 go_upto_region 1 with fail
 rw[show ((w.alloc (.cells (frC F A) 40)).alloc (.cells #[Value.int IntKind.i64 0,Value.int IntKind.i64 0,Value.int IntKind.i64 0,Value.int IntKind.i64 0,Value.int IntKind.i64 0,Value.int IntKind.i64 0,Value.slice none 0 0] 54))=W from H0.out.2.2.2.2.2.symm]
 by_cases hk:F.k=3
 rotate_left
 ·have hkb:(F.k != 3)=true:=by simp[hk]
  clear hk
  refine wp_region_noPanic ?_
  refine wp_region_held (S:=λV=>(Instr.loadAt 40 (.pointer (some ⟨w.heap.size,0,none⟩))).run Tryz.prog V=.ok (.agg (frC F A)) V/\V.cell? ⟨w.heap.size,0,none⟩=some (.int .i64 F.k)/\V.cell? ⟨w.heap.size,1,none⟩=some (.int .i64 F.f)/\V.cell? ⟨w.heap.size,2,none⟩=some (.int .i64 F.t)/\V.cell? ⟨R,11,none⟩=some (.int .i64 s.i)/\V.cell? ⟨R,0,none⟩=some (.int .i64 s.c.n)) (by kernel_rfl) ?_
  have hS:=hS0
  refine tk 0 hS ?_
  refine tk 1 hS ?_
  refine tk 2 (v:=Value.bool true) (hv:=by intro w hSw;(try dsimp only at hSw);go_split_ands;go_simp) hS ?_
  refine tk 3 hS ?_
  refine tq 4 hS ?_
  refine tq 5 hS ?_
  refine tq 6 hS ?_
  refine tq 7 hS ?_
  refine tq 8 hS ?_
  refine tq 9 hS ?_
  refine tq 10 hS ?_
  refine tk 11 (v:=Value.bool true) (hv:=by intro w hSw;(try dsimp only at hSw);go_split_ands;go_simp) hS ?_
  refine tk 12 hS ?_
  refine tq 13 hS ?_
  refine tq 14 hS ?_
  refine tq 15 hS ?_
  refine tk 16 (v:=Value.bool true) (hv:=by intro w hSw;(try dsimp only at hSw);go_split_ands;go_simp) hS ?_
  refine tk 17 hS ?_
  refine tq 18 hS ?_
  refine tq 19 hS ?_
  refine tq 20 hS ?_
  refine tq 21 hS ?_
  refine tq 22 hS ?_
  refine tq 23 hS ?_
  refine tq 24 hS ?_
  refine tq 25 hS ?_
  refine tk 26 (v:=Value.bool true) (hv:=by intro w hSw;(try dsimp only at hSw);go_split_ands;go_simp) hS ?_
  refine tk 27 hS ?_
  refine tq 28 hS ?_
  refine tq 29 hS ?_
  refine tq 30 hS ?_
  refine tk 31 hS ?_
  refine wpAnyH_done (by kernel_rfl) ?_ _
  refine NoPanic.normal ?_
  obtain⟨V,hV⟩:∃ V,V=W.drew:=⟨_,rfl⟩
  rw[show ({ heap:=W.heap,tape:=W.tape,drawn:=W.drawn+1,os:=W.os,output:=W.output }:World)=V from hV.symm]
  have hbV:Below W.heap.size W V:=by rw[hV];exact(Below.refl _ _).drew
  clear hV
  clear hS hS0 HQ
  obtain⟨X,hst,hX,hs,hbX⟩:=an_stored (w:=w) (W:=V) (k:=w.heap.size+1) (H0.out.2.2.1.below hbV) (by omega) (H0.out.2.2.2.1.trans (hbV.mono H0.out.2.2.2.1.size)) An.zero none 0 (Sees.nil' _)
  have HB:Hid ((Instr.build 54 #[]).run Tryz.prog V=.ok (.agg (anC An.zero none 0)) V):=anbuild0 _
  have HST:Hid ((Instr.storeAt 54 (.pointer (some ⟨w.heap.size+1,0,none⟩)) (.agg (anC An.zero none 0))).run Tryz.prog V=.ok () X):=hst
  have HE:Hid (AnAt X (w.heap.size+1) An.zero none 0/\Sees X none 0 An.zero.key/\Below w.heap.size w X):=⟨hX,hs,hbX⟩
  clear hst hX hs hbX hbV
  go_wp2_with (first|(refine wpList_build_run rfl 54 _ rfl [] _ rfl HB.out ?_)|(refine wpList_store_run rfl 54 _ _ rfl _ _ rfl rfl HST.out ?_)|fail)
  refine bodyPost_ret (res_an_tmp rfl rfl HE.out.1) rfl ?_
  exact⟨none,0,rfl,HE.out.2⟩
 have hkb:(F.k != 3)=false:=by simp[hk]
 by_cases ht:F.t=s.i
 rotate_left
 ·have htb:(F.t != s.i)=true:=by simp[ht]
  clear hk ht
  refine wp_region_noPanic ?_
  refine wp_region_held (S:=λV=>(Instr.loadAt 40 (.pointer (some ⟨w.heap.size,0,none⟩))).run Tryz.prog V=.ok (.agg (frC F A)) V/\V.cell? ⟨w.heap.size,0,none⟩=some (.int .i64 F.k)/\V.cell? ⟨w.heap.size,1,none⟩=some (.int .i64 F.f)/\V.cell? ⟨w.heap.size,2,none⟩=some (.int .i64 F.t)/\V.cell? ⟨R,11,none⟩=some (.int .i64 s.i)/\V.cell? ⟨R,0,none⟩=some (.int .i64 s.c.n)) (by kernel_rfl) ?_
  have hS:=hS0
  refine tk 0 hS ?_
  refine tk 1 hS ?_
  refine tk 2 (v:=Value.bool false) (hv:=by intro w hSw;(try dsimp only at hSw);go_split_ands;go_simp) hS ?_
  refine tk 3 hS ?_
  refine tk 4 hS ?_
  refine tk 5 hS ?_
  refine tk 6 hS ?_
  refine tk 7 hS ?_
  refine tk 8 hS ?_
  refine tk 9 hS ?_
  refine tk 10 (v:=Value.bool true) (hv:=by intro w hSw;(try dsimp only at hSw);go_split_ands;go_simp) hS ?_
  refine tk 11 (v:=Value.bool true) (hv:=by intro w hSw;(try dsimp only at hSw);go_split_ands;go_simp) hS ?_
  refine tk 12 hS ?_
  refine tq 13 hS ?_
  refine tq 14 hS ?_
  refine tq 15 hS ?_
  refine tk 16 (v:=Value.bool true) (hv:=by intro w hSw;(try dsimp only at hSw);go_split_ands;go_simp) hS ?_
  refine tk 17 hS ?_
  refine tq 18 hS ?_
  refine tq 19 hS ?_
  refine tq 20 hS ?_
  refine tq 21 hS ?_
  refine tq 22 hS ?_
  refine tq 23 hS ?_
  refine tq 24 hS ?_
  refine tq 25 hS ?_
  refine tk 26 (v:=Value.bool true) (hv:=by intro w hSw;(try dsimp only at hSw);go_split_ands;go_simp) hS ?_
  refine tk 27 hS ?_
  refine tq 28 hS ?_
  refine tq 29 hS ?_
  refine tq 30 hS ?_
  refine tk 31 hS ?_
  refine wpAnyH_done (by kernel_rfl) ?_ _
  refine NoPanic.normal ?_
  obtain⟨V,hV⟩:∃ V,V=W.drew:=⟨_,rfl⟩
  rw[show ({ heap:=W.heap,tape:=W.tape,drawn:=W.drawn+1,os:=W.os,output:=W.output }:World)=V from hV.symm]
  have hbV:Below W.heap.size W V:=by rw[hV];exact(Below.refl _ _).drew
  clear hV
  clear hS hS0 HQ
  obtain⟨X,hst,hX,hs,hbX⟩:=an_stored (w:=w) (W:=V) (k:=w.heap.size+1) (H0.out.2.2.1.below hbV) (by omega) (H0.out.2.2.2.1.trans (hbV.mono H0.out.2.2.2.1.size)) An.zero none 0 (Sees.nil' _)
  have HB:Hid ((Instr.build 54 #[]).run Tryz.prog V=.ok (.agg (anC An.zero none 0)) V):=anbuild0 _
  have HST:Hid ((Instr.storeAt 54 (.pointer (some ⟨w.heap.size+1,0,none⟩)) (.agg (anC An.zero none 0))).run Tryz.prog V=.ok () X):=hst
  have HE:Hid (AnAt X (w.heap.size+1) An.zero none 0/\Sees X none 0 An.zero.key/\Below w.heap.size w X):=⟨hX,hs,hbX⟩
  clear hst hX hs hbX hbV
  go_wp2_with (first|(refine wpList_build_run rfl 54 _ rfl [] _ rfl HB.out ?_)|(refine wpList_store_run rfl 54 _ _ rfl _ _ rfl rfl HST.out ?_)|fail)
  refine bodyPost_ret (res_an_tmp rfl rfl HE.out.1) rfl ?_
  exact⟨none,0,rfl,HE.out.2⟩
 have htb:(F.t != s.i)=false:=by simp[ht]
 by_cases hr:rightB F=true
 rotate_left
 ·rw[if_neg hr] at KC
  clear hk ht hr
  refine wp_region_noPanic ?_
  refine wp_region_held (S:=λV=>(Instr.loadAt 40 (.pointer (some ⟨w.heap.size,0,none⟩))).run Tryz.prog V=.ok (.agg (frC F A)) V/\V.cell? ⟨w.heap.size,0,none⟩=some (.int .i64 F.k)/\V.cell? ⟨w.heap.size,1,none⟩=some (.int .i64 F.f)/\V.cell? ⟨w.heap.size,2,none⟩=some (.int .i64 F.t)/\V.cell? ⟨R,11,none⟩=some (.int .i64 s.i)/\V.cell? ⟨R,0,none⟩=some (.int .i64 s.c.n)) (by kernel_rfl) ?_
  have hS:=hS0
  refine tk 0 hS ?_
  refine tk 1 hS ?_
  refine tk 2 (v:=Value.bool false) (hv:=by intro w hSw;(try dsimp only at hSw);go_split_ands;go_simp) hS ?_
  refine tk 3 hS ?_
  refine tk 4 hS ?_
  refine tk 5 hS ?_
  refine tk 6 hS ?_
  refine tk 7 hS ?_
  refine tk 8 hS ?_
  refine tk 9 hS ?_
  refine tk 10 (v:=Value.bool false) (hv:=by intro w hSw;(try dsimp only at hSw);go_split_ands;go_simp) hS ?_
  refine tk 11 hS ?_
  refine tk 12 hS ?_
  refine tk 13 (v:=Value.agg (frC F A)) (hv:=λW hW=>exec_load 40 (.tmp 4) rfl _ _ rfl hW.1) hS ?_
  refine any_one 14 rfl (by kernel_rfl) (by rfl) (λK hK=>?_)
  clear hS
  go_simp
  refine KC.mono ?_
  rintro ev V ⟨rfl,hb⟩
  have hbV:Below W.heap.size W V:=(Below.refl W.heap.size W).drew.trans hb
  have HQ1:=HQ.out V hbV
  clear hb KC
  refine hK.out _ _ (HQ1) (λhS=>?_)
  clear hK
  (try simp only[Act.put,sT])
  refine tk 15 hS ?_
  refine tk 16 (v:=Value.bool true) (hv:=by intro w hSw;(try dsimp only at hSw);go_split_ands;go_simp) hS ?_
  refine tk 17 hS ?_
  refine tq 18 hS ?_
  refine tq 19 hS ?_
  refine tq 20 hS ?_
  refine tq 21 hS ?_
  refine tq 22 hS ?_
  refine tq 23 hS ?_
  refine tq 24 hS ?_
  refine tq 25 hS ?_
  refine tk 26 (v:=Value.bool true) (hv:=by intro w hSw;(try dsimp only at hSw);go_split_ands;go_simp) hS ?_
  refine tk 27 hS ?_
  refine tq 28 hS ?_
  refine tq 29 hS ?_
  refine tq 30 hS ?_
  refine tk 31 hS ?_
  refine wpAnyH_done (by kernel_rfl) ?_ _
  refine NoPanic.normal ?_
  clear HQ1
  clear hS hS0 HQ
  obtain⟨X,hst,hX,hs,hbX⟩:=an_stored (w:=w) (W:=V) (k:=w.heap.size+1) (H0.out.2.2.1.below hbV) (by omega) (H0.out.2.2.2.1.trans (hbV.mono H0.out.2.2.2.1.size)) An.zero none 0 (Sees.nil' _)
  have HB:Hid ((Instr.build 54 #[]).run Tryz.prog V=.ok (.agg (anC An.zero none 0)) V):=anbuild0 _
  have HST:Hid ((Instr.storeAt 54 (.pointer (some ⟨w.heap.size+1,0,none⟩)) (.agg (anC An.zero none 0))).run Tryz.prog V=.ok () X):=hst
  have HE:Hid (AnAt X (w.heap.size+1) An.zero none 0/\Sees X none 0 An.zero.key/\Below w.heap.size w X):=⟨hX,hs,hbX⟩
  clear hst hX hs hbX hbV
  go_wp2_with (first|(refine wpList_build_run rfl 54 _ rfl [] _ rfl HB.out ?_)|(refine wpList_store_run rfl 54 _ _ rfl _ _ rfl rfl HST.out ?_)|fail)
  refine bodyPost_ret (res_an_tmp rfl rfl HE.out.1) rfl ?_
  exact⟨none,0,rfl,HE.out.2⟩
 rw[if_pos hr] at KC
 by_cases hn:s.c.n<=F.f
 ·have hnb:decide (s.c.n<=F.f)=true:=by simp[hn]
  clear hk ht hr
  refine wp_region_noPanic ?_
  refine wp_region_held (S:=λV=>(Instr.loadAt 40 (.pointer (some ⟨w.heap.size,0,none⟩))).run Tryz.prog V=.ok (.agg (frC F A)) V/\V.cell? ⟨w.heap.size,0,none⟩=some (.int .i64 F.k)/\V.cell? ⟨w.heap.size,1,none⟩=some (.int .i64 F.f)/\V.cell? ⟨w.heap.size,2,none⟩=some (.int .i64 F.t)/\V.cell? ⟨R,11,none⟩=some (.int .i64 s.i)/\V.cell? ⟨R,0,none⟩=some (.int .i64 s.c.n)) (by kernel_rfl) ?_
  have hS:=hS0
  refine tk 0 hS ?_
  refine tk 1 hS ?_
  refine tk 2 (v:=Value.bool false) (hv:=by intro w hSw;(try dsimp only at hSw);go_split_ands;go_simp) hS ?_
  refine tk 3 hS ?_
  refine tk 4 hS ?_
  refine tk 5 hS ?_
  refine tk 6 hS ?_
  refine tk 7 hS ?_
  refine tk 8 hS ?_
  refine tk 9 hS ?_
  refine tk 10 (v:=Value.bool false) (hv:=by intro w hSw;(try dsimp only at hSw);go_split_ands;go_simp) hS ?_
  refine tk 11 hS ?_
  refine tk 12 hS ?_
  refine tk 13 (v:=Value.agg (frC F A)) (hv:=λW hW=>exec_load 40 (.tmp 4) rfl _ _ rfl hW.1) hS ?_
  refine any_one 14 rfl (by kernel_rfl) (by rfl) (λK hK=>?_)
  clear hS
  go_simp
  refine KC.mono ?_
  rintro ev V ⟨rfl,hb⟩
  have hbV:Below W.heap.size W V:=(Below.refl W.heap.size W).drew.trans hb
  have HQ1:=HQ.out V hbV
  clear hb KC
  refine hK.out _ _ (HQ1) (λhS=>?_)
  clear hK
  (try simp only[Act.put,sT])
  refine tk 15 hS ?_
  refine tk 16 (v:=Value.bool false) (hv:=by intro w hSw;(try dsimp only at hSw);go_split_ands;go_simp) hS ?_
  refine tk 17 hS ?_
  refine tk 18 hS ?_
  refine tk 19 hS ?_
  refine tk 20 hS ?_
  refine tk 21 hS ?_
  refine tk 22 hS ?_
  refine tk 23 hS ?_
  refine tk 24 hS ?_
  refine tk 25 (v:=Value.bool true) (hv:=by intro w hSw;(try dsimp only at hSw);go_split_ands;go_simp) hS ?_
  refine tk 26 (v:=Value.bool true) (hv:=by intro w hSw;(try dsimp only at hSw);go_split_ands;go_simp) hS ?_
  refine tk 27 hS ?_
  refine tq 28 hS ?_
  refine tq 29 hS ?_
  refine tq 30 hS ?_
  refine tk 31 hS ?_
  refine wpAnyH_done (by kernel_rfl) ?_ _
  refine NoPanic.normal ?_
  clear HQ1
  clear hS hS0 HQ
  obtain⟨X,hst,hX,hs,hbX⟩:=an_stored (w:=w) (W:=V) (k:=w.heap.size+1) (H0.out.2.2.1.below hbV) (by omega) (H0.out.2.2.2.1.trans (hbV.mono H0.out.2.2.2.1.size)) An.zero none 0 (Sees.nil' _)
  have HB:Hid ((Instr.build 54 #[]).run Tryz.prog V=.ok (.agg (anC An.zero none 0)) V):=anbuild0 _
  have HST:Hid ((Instr.storeAt 54 (.pointer (some ⟨w.heap.size+1,0,none⟩)) (.agg (anC An.zero none 0))).run Tryz.prog V=.ok () X):=hst
  have HE:Hid (AnAt X (w.heap.size+1) An.zero none 0/\Sees X none 0 An.zero.key/\Below w.heap.size w X):=⟨hX,hs,hbX⟩
  clear hst hX hs hbX hbV
  go_wp2_with (first|(refine wpList_build_run rfl 54 _ rfl [] _ rfl HB.out ?_)|(refine wpList_store_run rfl 54 _ _ rfl _ _ rfl rfl HST.out ?_)|fail)
  refine bodyPost_ret (res_an_tmp rfl rfl HE.out.1) rfl ?_
  exact⟨none,0,rfl,HE.out.2⟩
 have hT:timeB now=false:=by
  rw[Bool.eq_false_iff]
  intro hh
  have:=HBB.out
  simp[Ec.heB,hk,ht,hr,hh] at this
  omega
 rw[hT] at KT
 clear hk ht hr hT
 refine wp_region_noPanic ?_
 refine wp_region_held (S:=λV=>(Instr.loadAt 40 (.pointer (some ⟨w.heap.size,0,none⟩))).run Tryz.prog V=.ok (.agg (frC F A)) V/\V.cell? ⟨w.heap.size,0,none⟩=some (.int .i64 F.k)/\V.cell? ⟨w.heap.size,1,none⟩=some (.int .i64 F.f)/\V.cell? ⟨w.heap.size,2,none⟩=some (.int .i64 F.t)/\V.cell? ⟨R,11,none⟩=some (.int .i64 s.i)/\V.cell? ⟨R,0,none⟩=some (.int .i64 s.c.n)) (by kernel_rfl) ?_
 have hS:=hS0
 refine tk 0 hS ?_
 refine tk 1 hS ?_
 refine tk 2 (v:=Value.bool false) (hv:=by intro w hSw;(try dsimp only at hSw);go_split_ands;go_simp) hS ?_
 refine tk 3 hS ?_
 refine tk 4 hS ?_
 refine tk 5 hS ?_
 refine tk 6 hS ?_
 refine tk 7 hS ?_
 refine tk 8 hS ?_
 refine tk 9 hS ?_
 refine tk 10 (v:=Value.bool false) (hv:=by intro w hSw;(try dsimp only at hSw);go_split_ands;go_simp) hS ?_
 refine tk 11 hS ?_
 refine tk 12 hS ?_
 refine tk 13 (v:=Value.agg (frC F A)) (hv:=λW hW=>exec_load 40 (.tmp 4) rfl _ _ rfl hW.1) hS ?_
 refine any_one 14 rfl (by kernel_rfl) (by rfl) (λK hK=>?_)
 clear hS
 go_simp
 refine KC.mono ?_
 rintro ev V ⟨rfl,hb⟩
 have hbV:Below W.heap.size W V:=(Below.refl W.heap.size W).drew.trans hb
 have HQ1:=HQ.out V hbV
 clear hb KC
 refine hK.out _ _ (HQ1) (λhS=>?_)
 clear hK
 (try simp only[Act.put,sT])
 refine tk 15 hS ?_
 refine tk 16 (v:=Value.bool false) (hv:=by intro w hSw;(try dsimp only at hSw);go_split_ands;go_simp) hS ?_
 refine tk 17 hS ?_
 refine tk 18 hS ?_
 refine tk 19 hS ?_
 refine tk 20 hS ?_
 refine tk 21 hS ?_
 refine tk 22 hS ?_
 refine tk 23 hS ?_
 refine tk 24 hS ?_
 refine tk 25 (v:=Value.bool false) (hv:=by intro w hSw;(try dsimp only at hSw);go_split_ands;go_simp) hS ?_
 refine tk 26 (v:=Value.bool false) (hv:=by intro w hSw;(try dsimp only at hSw);go_split_ands;go_simp) hS ?_
 refine tk 27 hS ?_
 refine tk 28 hS ?_
 refine any_one 29 rfl (by kernel_rfl) (by rfl) (λK hK=>?_)
 clear hS
 go_simp
 refine(KT.out _).mono ?_
 rintro ev V2 ⟨rfl,rfl⟩
 refine hK.out _ _ (HQ1) (λhS=>?_)
 clear hK
 (try simp only[Act.put,sT])
 refine tk 30 hS ?_
 refine tk 31 hS ?_
 refine wpAnyH_done (by kernel_rfl) ?_ _
 refine NoPanic.normal ?_
 clear HQ1
 clear hS hS0 HQ
 obtain⟨X,hst,hX,hs,hbX⟩:=an_stored (w:=w) (W:=V2) (k:=w.heap.size+1) (H0.out.2.2.1.below hbV) (by omega) (H0.out.2.2.2.1.trans (hbV.mono H0.out.2.2.2.1.size)) An.zero none 0 (Sees.nil' _)
 have HB:Hid ((Instr.build 54 #[]).run Tryz.prog V2=.ok (.agg (anC An.zero none 0)) V2):=anbuild0 _
 have HST:Hid ((Instr.storeAt 54 (.pointer (some ⟨w.heap.size+1,0,none⟩)) (.agg (anC An.zero none 0))).run Tryz.prog V2=.ok () X):=hst
 have HE:Hid (AnAt X (w.heap.size+1) An.zero none 0/\Sees X none 0 An.zero.key/\Below w.heap.size w X):=⟨hX,hs,hbX⟩
 clear hst hX hs hbX hbV
 go_wp2_with (first|(refine wpList_build_run rfl 54 _ rfl [] _ rfl HB.out ?_)|(refine wpList_store_run rfl 54 _ _ rfl _ _ rfl rfl HST.out ?_)|fail)
 refine bodyPost_ret (res_an_tmp rfl rfl HE.out.1) rfl ?_
 exact⟨none,0,rfl,HE.out.2⟩
end Go.Proofs.YtahnbljbhfpldaaGreatDoor
