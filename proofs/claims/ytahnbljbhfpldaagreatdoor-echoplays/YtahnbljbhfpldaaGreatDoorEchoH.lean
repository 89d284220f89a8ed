/-
  The document's Open.
-/
import Derived.Test.YtahnbljbhfpldaaGreatDoorEchoG
import Derived.Test.YtahnbljbhfpldaaGreatDoorFrameRGet
namespace Go.Proofs.YtahnbljbhfpldaaGreatDoor
set_option maxRecDepth 20000
set_option maxHeartbeats 6400000
open Go.ChangeShapes Go.WideShapes Go.ChangeAt Go.RowKit
theorem efr_laid {W:World}{F:Fr}{A:At}(hs:Seen W F A):∃ W',(Instr.storeAt 40 (.pointer (some ⟨W.heap.size,0,none⟩)) (.agg (frC F A))).run Tryz.prog (W.alloc (.cells (frC Fr.zero At.zero) 40))=.ok () W'/\FrAt W' W.heap.size F A/\Seen W' F A/\Below W.heap.size W W':=by
 have h1:FrAt (W.alloc (.cells (frC Fr.zero At.zero) 40)) W.heap.size Fr.zero At.zero:=FrAt.new W _ _
 have hbb:Below W.heap.size W ((W.alloc (.cells (frC Fr.zero At.zero) 40)).setRow W.heap.size (frC F A)):=below_setRow (Go.Joins.below_alloc1 _ _) (Nat.le_refl _) _
 exact⟨_,h1.stores F A,h1.stored F A,hs.below hbb,hbb⟩
theorem egetF_n (l:List UInt8):(getF l).n<18446744073709551616:=by
 by_cases h:getE l=0
 ·exact(put_get l h).2.2
 ·rw[getF_bad h];decide
theorem deopen_bytes (w:World)(R g:Nat)(s:Ec)(ma:Option Addr)(mc:Nat)(_:DEAll w R g s ma mc)(x:Option Addr)(cx:Nat)(l:List UInt8)(hx:Sees w x cx l)(hl:l.length<=140737488351232)(hE:¬ getE l=0):
  Calls Tryz.prog 14 #[.pointer (some ⟨R,0,none⟩),.slice x l.length cx] w λe w'=>Got w w' e Fr.zero ((getE l:Nat):Int):=by
 have h0:FrAt (w.alloc (.cells (frC Fr.zero At.zero) 40)) w.heap.size Fr.zero At.zero:=FrAt.new w _ _
 have hb0:Below w.heap.size w (w.alloc (.cells (frC Fr.zero At.zero) 40)):=Go.Joins.below_alloc1 _ _
 have hg:=rget_any2 (w.alloc (.cells (frC Fr.zero At.zero) 40)) x cx l (hx.below hb0) hl
 rw[getF_bad hE] at hg
 obtain⟨E,hEE⟩:∃ E,E=getE l:=⟨_,rfl⟩
 rw[<-hEE] at hg hE ⊢
 have d0:((E:Int) != 0)=true:=by simp;omega
 have H0:Hid (∀ w1,Below (w.alloc (.cells (frC Fr.zero At.zero) 40)).heap.size (w.alloc (.cells (frC Fr.zero At.zero) 40)) w1->FrAt w1 w.heap.size Fr.zero At.zero/\Below w.heap.size w w1):=λw1 hb1=>⟨h0.below hb1,hb0.trans (hb1.mono hb0.size)⟩
 clear hEE h0 hb0 hx hE
 go_enter Tryz.func14,Tryz.ntmps14
 go_wp2_with fail
 refine hg.mono ?_
 rintro e w1 ⟨A1,rfl,hs1,hb1⟩
 obtain⟨h1,hb⟩:=H0.out w1 hb1
 obtain⟨W1,hst1,f1,s1,b1⟩:=efr_laid hs1
 have HST1:Hid ((Instr.storeAt 40 (.pointer (some ⟨w1.heap.size,0,none⟩)) (.agg (frC Fr.zero A1))).run Tryz.prog (w1.alloc (.cells (frC Fr.zero At.zero) 40))=.ok () W1):=hst1
 obtain⟨W,hst,hW,hs,hbW⟩:=got_stored (w:=w) (h1.below b1) (hb.trans (b1.mono hb.size)) Fr.zero At.zero (Seen.zero _)
 have HB:Hid ((Instr.build 40 #[]).run Tryz.prog W1=.ok (.agg (frC Fr.zero At.zero)) W1):=build_zero _
 have HST:Hid ((Instr.storeAt 40 (.pointer (some ⟨w.heap.size,0,none⟩)) (.agg (frC Fr.zero At.zero))).run Tryz.prog W1=.ok () W):=hst
 have HE:Hid (FrAt W w.heap.size Fr.zero At.zero/\Seen W Fr.zero At.zero/\Below w.heap.size w W):=⟨hW,hs,hbW⟩
 clear hg hb1 H0 h1 hb hst hW hs hbW hst1 f1 s1 b1 hs1
 go_wp2_with (first|(refine wpList_build_run rfl 40 _ rfl [] _ rfl HB.out ?_)|(refine wpList_store_run rfl 40 _ _ rfl _ _ rfl rfl HST1.out ?_)|(refine wpList_store_run rfl 40 _ _ rfl _ _ rfl rfl HST.out ?_)|fail)
 refine bodyPost_ret (res_fr_tmp rfl rfl HE.out.1) rfl ?_
 exact⟨At.zero,rfl,HE.out.2⟩
theorem deopen_good (w:World)(R g:Nat)(s:Ec)(ma:Option Addr)(mc:Nat)(h:DEAll w R g s ma mc)(x:Option Addr)(cx:Nat)(l:List UInt8)(hx:Sees w x cx l)(hl:l.length<=140737488351232)(hE:getE l=0)(F:Fr)(hF:getF l=F)(G:Fr)(n:Int)(hG:G=if F.k=1\/F.t≠s.i then Fr.zero else if holdsB (pairK s.ms F.f s.i) F=false then Fr.zero else F)(hN:n=if F.k=1\/F.t≠s.i then 1 else if holdsB (pairK s.ms F.f s.i) F=false then 13 else 0):
  Calls Tryz.prog 14 #[.pointer (some ⟨R,0,none⟩),.slice x l.length cx] w λe w'=>Got w w' e G n:=by
 have h0:FrAt (w.alloc (.cells (frC Fr.zero At.zero) 40)) w.heap.size Fr.zero At.zero:=FrAt.new w _ _
 have hb0:Below w.heap.size w (w.alloc (.cells (frC Fr.zero At.zero) 40)):=Go.Joins.below_alloc1 _ _
 have hg:=rget_any2 (w.alloc (.cells (frC Fr.zero At.zero) 40)) x cx l (hx.below hb0) hl
 have hn:=egetF_n l
 rw[hE,hF] at hg
 rw[hF] at hn
 have HD:Hid (DEAll w R g s ma mc/\F.n<18446744073709551616):=⟨h,hn⟩
 have H0:Hid (∀ w1,Below (w.alloc (.cells (frC Fr.zero At.zero) 40)).heap.size (w.alloc (.cells (frC Fr.zero At.zero) 40)) w1->FrAt w1 w.heap.size Fr.zero At.zero/\Below w.heap.size w w1):=λw1 hb1=>⟨h0.below hb1,hb0.trans (hb1.mono hb0.size)⟩
 have HGN:Hid ((G=if F.k=1\/F.t≠s.i then Fr.zero else if holdsB (pairK s.ms F.f s.i) F=false then Fr.zero else F)/\n=if F.k=1\/F.t≠s.i then 1 else if holdsB (pairK s.ms F.f s.i) F=false then 13 else 0):=⟨hG,hN⟩
 clear h0 hb0 hx hE h hn hF hG hN
 go_enter Tryz.func14,Tryz.ntmps14
 go_wp2_with fail
 refine hg.mono ?_
 rintro e w1 ⟨A1,rfl,hs1,hb1⟩
 obtain⟨h1,hb⟩:=H0.out w1 hb1
 obtain⟨W1,hst1,f1,s1,b1⟩:=efr_laid hs1
 have hb1w:Below w.heap.size w W1:=hb.trans (b1.mono hb.size)
 have HST1:Hid ((Instr.storeAt 40 (.pointer (some ⟨w1.heap.size,0,none⟩)) (.agg (frC F A1))).run Tryz.prog (w1.alloc (.cells (frC Fr.zero At.zero) 40))=.ok () W1):=hst1
 have H1:Hid (FrAt W1 w.heap.size Fr.zero At.zero/\FrAt W1 w1.heap.size F A1/\Seen W1 F A1/\Below w.heap.size w W1):=⟨h1.below b1,f1,s1,hb1w⟩
 have hS0:W1.drew.cell? ⟨w1.heap.size,0,none⟩=some (.int .i64 F.k)/\W1.drew.cell? ⟨w1.heap.size,2,none⟩=some (.int .i64 F.t)/\W1.drew.cell? ⟨R,11,none⟩=some (.int .i64 s.i):=⟨f1.c0,f1.c2,(HD.out.1.below hb1w).at'.cell 11 rfl⟩
 clear hg hb1 H0 h1 hb hst1 f1 s1 b1 hs1 hb1w
 go_upto_region 4 with (first|(refine wpList_store_run rfl 40 _ _ rfl _ _ rfl rfl HST1.out ?_)|fail)
 by_cases hk:F.k=1
 ·have HG:Hid (G=Fr.zero/\n=1):=⟨HGN.out.1.trans (if_pos (.inl hk)),HGN.out.2.trans (if_pos (.inl hk))⟩
  have hkb:(F.k==1)=true:=by simp[hk]
  refine wp_region_noPanic ?_
  refine wp_region_held (S:=λV=>V.cell? ⟨w1.heap.size,0,none⟩=some (.int .i64 F.k)/\V.cell? ⟨w1.heap.size,2,none⟩=some (.int .i64 F.t)/\V.cell? ⟨R,11,none⟩=some (.int .i64 s.i)) (by kernel_rfl) ?_
  have hS:=hS0
  refine tk 0 hS ?_
  refine tk 1 hS ?_
  refine tk 2 (v:=Value.bool true) (hv:=by intro w hSw;(try dsimp only at hSw);go_split_ands;go_simp) hS ?_
  refine tk 3 hS ?_
  refine tq 4 hS ?_
  refine tq 5 hS ?_
  refine tq 6 hS ?_
  refine tq 7 hS ?_
  refine tq 8 hS ?_
  refine tq 9 hS ?_
  refine tq 10 hS ?_
  refine tk 11 hS ?_
  refine wpAnyH_done (by kernel_rfl) ?_ _
  refine NoPanic.normal ?_
  obtain⟨V,hV⟩:∃ V,V=W1.drew:=⟨_,rfl⟩
  rw[show ({ heap:=W1.heap,tape:=W1.tape,drawn:=W1.drawn+1,os:=W1.os,output:=W1.output }:World)=V from hV.symm]
  have hbV:Below W1.heap.size W1 V:=by rw[hV];exact(Below.refl _ _).drew
  clear hS hS0 hV
  obtain⟨W,hst,hW,hs,hbW⟩:=got_stored (w:=w) (H1.out.1.below hbV) (H1.out.2.2.2.trans ((hbV).mono H1.out.2.2.2.size)) Fr.zero At.zero (Seen.zero _)
  have HB:Hid ((Instr.build 40 #[]).run Tryz.prog V=.ok (.agg (frC Fr.zero At.zero)) V):=build_zero _
  have HST:Hid ((Instr.storeAt 40 (.pointer (some ⟨w.heap.size,0,none⟩)) (.agg (frC Fr.zero At.zero))).run Tryz.prog V=.ok () W):=hst
  have HE:Hid (FrAt W w.heap.size Fr.zero At.zero/\Seen W Fr.zero At.zero/\Below w.heap.size w W):=⟨hW,hs,hbW⟩
  clear hst hW hs hbW hbV
  go_wp2_with (first|(refine wpList_build_run rfl 40 _ rfl [] _ rfl HB.out ?_)|(refine wpList_store_run rfl 40 _ _ rfl _ _ rfl rfl HST.out ?_)|fail)
  refine bodyPost_ret (res_fr_tmp rfl rfl HE.out.1) rfl ?_
  rw[HG.out.1,HG.out.2]
  exact⟨At.zero,rfl,HE.out.2⟩
 ·have hkb:(F.k==1)=false:=by simp[hk]
  by_cases ht:F.t=s.i
  rotate_left
  ·have HG:Hid (G=Fr.zero/\n=1):=⟨HGN.out.1.trans (if_pos (.inr ht)),HGN.out.2.trans (if_pos (.inr ht))⟩
   have htb:(F.t != s.i)=true:=by simp[ht]
   clear ht hk
   refine wp_region_noPanic ?_
   refine wp_region_held (S:=λV=>V.cell? ⟨w1.heap.size,0,none⟩=some (.int .i64 F.k)/\V.cell? ⟨w1.heap.size,2,none⟩=some (.int .i64 F.t)/\V.cell? ⟨R,11,none⟩=some (.int .i64 s.i)) (by kernel_rfl) ?_
   have hS:=hS0
   refine tk 0 hS ?_
   refine tk 1 hS ?_
   refine tk 2 (v:=Value.bool false) (hv:=by intro w hSw;(try dsimp only at hSw);go_split_ands;go_simp) hS ?_
   refine tk 3 hS ?_
   refine tk 4 hS ?_
   refine tk 5 hS ?_
   refine tk 6 hS ?_
   refine tk 7 hS ?_
   refine tk 8 hS ?_
   refine tk 9 hS ?_
   refine tk 10 (v:=Value.bool true) (hv:=by intro w hSw;(try dsimp only at hSw);go_split_ands;go_simp) hS ?_
   refine tk 11 hS ?_
   refine wpAnyH_done (by kernel_rfl) ?_ _
   refine NoPanic.normal ?_
   obtain⟨V,hV⟩:∃ V,V=W1.drew:=⟨_,rfl⟩
   rw[show ({ heap:=W1.heap,tape:=W1.tape,drawn:=W1.drawn+1,os:=W1.os,output:=W1.output }:World)=V from hV.symm]
   have hbV:Below W1.heap.size W1 V:=by rw[hV];exact(Below.refl _ _).drew
   clear hS hS0 hV
   obtain⟨W,hst,hW,hs,hbW⟩:=got_stored (w:=w) (H1.out.1.below hbV) (H1.out.2.2.2.trans ((hbV).mono H1.out.2.2.2.size)) Fr.zero At.zero (Seen.zero _)
   have HB:Hid ((Instr.build 40 #[]).run Tryz.prog V=.ok (.agg (frC Fr.zero At.zero)) V):=build_zero _
   have HST:Hid ((Instr.storeAt 40 (.pointer (some ⟨w.heap.size,0,none⟩)) (.agg (frC Fr.zero At.zero))).run Tryz.prog V=.ok () W):=hst
   have HE:Hid (FrAt W w.heap.size Fr.zero At.zero/\Seen W Fr.zero At.zero/\Below w.heap.size w W):=⟨hW,hs,hbW⟩
   clear hst hW hs hbW hbV
   go_wp2_with (first|(refine wpList_build_run rfl 40 _ rfl [] _ rfl HB.out ?_)|(refine wpList_store_run rfl 40 _ _ rfl _ _ rfl rfl HST.out ?_)|fail)
   refine bodyPost_ret (res_fr_tmp rfl rfl HE.out.1) rfl ?_
   rw[HG.out.1,HG.out.2]
   exact⟨At.zero,rfl,HE.out.2⟩
  ·have HG0:Hid ((G=if holdsB (pairK s.ms F.f s.i) F=false then Fr.zero else F)/\n=if holdsB (pairK s.ms F.f s.i) F=false then 13 else 0):=⟨HGN.out.1.trans (if_neg (by simp[hk,ht])),HGN.out.2.trans (if_neg (by simp[hk,ht]))⟩
   have htb:(F.t != s.i)=false:=by simp[ht]
   clear ht hk
   refine wp_region_noPanic ?_
   refine wp_region_held (S:=λV=>V.cell? ⟨w1.heap.size,0,none⟩=some (.int .i64 F.k)/\V.cell? ⟨w1.heap.size,2,none⟩=some (.int .i64 F.t)/\V.cell? ⟨R,11,none⟩=some (.int .i64 s.i)) (by kernel_rfl) ?_
   have hS:=hS0
   refine tk 0 hS ?_
   refine tk 1 hS ?_
   refine tk 2 (v:=Value.bool false) (hv:=by intro w hSw;(try dsimp only at hSw);go_split_ands;go_simp) hS ?_
   refine tk 3 hS ?_
   refine tk 4 hS ?_
   refine tk 5 hS ?_
   refine tk 6 hS ?_
   refine tk 7 hS ?_
   refine tk 8 hS ?_
   refine tk 9 hS ?_
   refine tk 10 (v:=Value.bool false) (hv:=by intro w hSw;(try dsimp only at hSw);go_split_ands;go_simp) hS ?_
   refine tk 11 hS ?_
   refine wpAnyH_done (by kernel_rfl) ?_ _
   refine NoPanic.normal ?_
   obtain⟨V,hV⟩:∃ V,V=W1.drew:=⟨_,rfl⟩
   rw[show ({ heap:=W1.heap,tape:=W1.tape,drawn:=W1.drawn+1,os:=W1.os,output:=W1.output }:World)=V from hV.symm]
   have hbV:Below W1.heap.size W1 V:=by rw[hV];exact(Below.refl _ _).drew
   clear hS hS0 hV
   obtain⟨KK,hKK⟩:∃ KK,KK=pairK s.ms F.f s.i:=⟨_,rfl⟩
   have HG1:Hid ((G=if holdsB KK F=false then Fr.zero else F)/\n=if holdsB KK F=false then 13 else 0):=by rw[hKK];exact HG0.out
   have hbw:Below w.heap.size w V:=H1.out.2.2.2.trans (hbV.mono H1.out.2.2.2.size)
   have HQ:Hid (∀ U,Below V.heap.size V U->(U.cell? ⟨R,10,none⟩=some (.slice ma s.ms.length mc)/\U.cell? ⟨R,11,none⟩=some (.int .i64 s.i)/\U.cell? ⟨w1.heap.size,1,none⟩=some (.int .i64 F.f))):=λU hU=>
    ⟨((HD.out.1.below hbw).below hU).at'.cell 10 rfl,((HD.out.1.below hbw).below hU).at'.cell 11 rfl,((H1.out.2.1.below hbV).below hU).c1⟩
   have KP:Calls Tryz.prog 36 #[.slice ma s.ms.length mc,.int .i64 F.f,.int .i64 s.i] V.drew λe w'=>∃ d cd k,e=.returned (.tuple #[.slice d KK.length cd,.int .i64 k])/\Sees w' d cd KK/\Below V.heap.size V w':=by
    refine(rpair_any V.drew ma mc s.ms F.f s.i ((HD.out.1.below hbw).below (Below.refl _ _).drew).ms).mono ?_
    rintro e w' ⟨d,cd,r,hr,rfl,hs,hb⟩
    have hr':r=KK:=hr.out.trans hKK.symm
    subst hr'
    exact⟨d,cd,_,rfl,hs,(Below.refl V.heap.size V).drew.trans hb⟩
   have HBV:Hid (Below W1.heap.size W1 V):=hbV
   have hS0:=HQ.out V.drew (Below.refl _ _).drew
   obtain⟨ml,hml⟩:∃ ml,ml=s.ms.length:=⟨_,rfl⟩
   rw[<-hml] at KP HQ hS0
   clear hKK hbw hbV hml
   go_wp2_with fail
   refine wp_region_noPanic ?_
   refine wp_region_held (S:=λU=>U.cell? ⟨R,10,none⟩=some (.slice ma ml mc)/\U.cell? ⟨R,11,none⟩=some (.int .i64 s.i)/\U.cell? ⟨w1.heap.size,1,none⟩=some (.int .i64 F.f)) (by kernel_rfl) ?_
   have hS:=hS0
   refine tk 0 hS ?_
   refine tk 1 hS ?_
   refine tk 2 hS ?_
   refine tk 3 hS ?_
   refine tk 4 hS ?_
   refine tk 5 hS ?_
   refine tk 6 hS ?_
   refine tk 7 hS ?_
   refine tk 8 hS ?_
   refine tk 9 hS ?_
   refine any_one 10 rfl (by kernel_rfl) (by rfl) (λK hK=>?_)
   clear hS
   go_simp
   refine KP.mono ?_
   rintro ev w3 ⟨d3,c3,k3,rfl,hs3,hb3⟩
   have HQ3:=HQ.out w3 hb3
   have H3:Hid (Sees w3 d3 c3 KK/\Below W1.heap.size W1 w3):=⟨hs3,HBV.out.trans (hb3.mono HBV.out.size)⟩
   clear hs3 hb3 KP
   refine hK.out _ _ (HQ3) (λhS=>?_)
   clear hK
   (try simp only[Act.put,sT])
   refine tk 11 hS ?_
   refine tk 12 hS ?_
   refine tk 13 hS ?_
   refine tk 14 hS ?_
   refine tk 15 hS ?_
   refine wpAnyH_done (by kernel_rfl) ?_ _
   refine NoPanic.normal ?_
   clear hS hS0 HQ HQ3
   obtain⟨b,hb⟩:∃ b,b=holdsB KK F:=⟨_,rfl⟩
   have hh:=rholds_any w3 F A1 d3 c3 KK (H1.out.2.2.1.below H3.out.2) HD.out.2 H3.out.1 b hb.symm
   have HG2:Hid ((G=if b=false then Fr.zero else F)/\n=if b=false then 13 else 0):=by rw[hb];exact HG1.out
   have HL1:Hid ((Instr.loadAt 40 (.pointer (some ⟨w1.heap.size,0,none⟩))).run Tryz.prog w3=.ok (.agg (frC F A1)) w3):=(H1.out.2.1.below H3.out.2).loads
   clear hb
   go_wp2_with (first|(refine wpList_gload_run rfl 40 _ rfl _ _ rfl HL1.out ?_)|fail)
   refine hh.mono ?_
   rintro e w4 ⟨rfl,hb4⟩
   have hb2:Below W1.heap.size W1 w4:=H3.out.2.trans (hb4.mono H3.out.2.size)
   clear hh hb4
   cases b
   ·have HG:Hid (G=Fr.zero/\n=13):=⟨HG2.out.1.trans (if_pos rfl),HG2.out.2.trans (if_pos rfl)⟩
    obtain⟨W,hst,hW,hs,hbW⟩:=got_stored (w:=w) (H1.out.1.below hb2) (H1.out.2.2.2.trans ((hb2).mono H1.out.2.2.2.size)) Fr.zero At.zero (Seen.zero _)
    have HB:Hid ((Instr.build 40 #[]).run Tryz.prog w4=.ok (.agg (frC Fr.zero At.zero)) w4):=build_zero _
    have HST:Hid ((Instr.storeAt 40 (.pointer (some ⟨w.heap.size,0,none⟩)) (.agg (frC Fr.zero At.zero))).run Tryz.prog w4=.ok () W):=hst
    have HE:Hid (FrAt W w.heap.size Fr.zero At.zero/\Seen W Fr.zero At.zero/\Below w.heap.size w W):=⟨hW,hs,hbW⟩
    clear hst hW hs hbW hb2
    go_wp2_with (first|(refine wpList_build_run rfl 40 _ rfl [] _ rfl HB.out ?_)|(refine wpList_store_run rfl 40 _ _ rfl _ _ rfl rfl HST.out ?_)|fail)
    refine bodyPost_ret (res_fr_tmp rfl rfl HE.out.1) rfl ?_
    rw[HG.out.1,HG.out.2]
    exact⟨At.zero,rfl,HE.out.2⟩
   ·have HG:Hid (G=F/\n=0):=⟨HG2.out.1.trans (if_neg (by simp)),HG2.out.2.trans (if_neg (by simp))⟩
    obtain⟨W,hst,hW,hs,hbW⟩:=got_stored (w:=w) (H1.out.1.below hb2) (H1.out.2.2.2.trans (hb2.mono H1.out.2.2.2.size)) F A1 (H1.out.2.2.1.below hb2)
    have HL2:Hid ((Instr.loadAt 40 (.pointer (some ⟨w1.heap.size,0,none⟩))).run Tryz.prog w4=.ok (.agg (frC F A1)) w4):=(H1.out.2.1.below hb2).loads
    have HST:Hid ((Instr.storeAt 40 (.pointer (some ⟨w.heap.size,0,none⟩)) (.agg (frC F A1))).run Tryz.prog w4=.ok () W):=hst
    have HE:Hid (FrAt W w.heap.size F A1/\Seen W F A1/\Below w.heap.size w W):=⟨hW,hs,hbW⟩
    clear hst hW hs hbW hb2
    go_wp2_with (first|(refine wpList_gload_run rfl 40 _ rfl _ _ rfl HL2.out ?_)|(refine wpList_store_run rfl 40 _ _ rfl _ _ rfl rfl HST.out ?_)|fail)
    refine bodyPost_ret (res_fr_tmp rfl rfl HE.out.1) rfl ?_
    rw[HG.out.1,HG.out.2]
    exact⟨A1,rfl,HE.out.2⟩
theorem deopen_any (w:World)(R g:Nat)(s:Ec)(ma:Option Addr)(mc:Nat)(h:DEAll w R g s ma mc)(x:Option Addr)(cx:Nat)(l:List UInt8)(hx:Sees w x cx l)(hl:l.length<=140737488351232):
  Calls Tryz.prog 14 #[.pointer (some ⟨R,0,none⟩),.slice x l.length cx] w λe w'=>Got w w' e (s.opF l) (s.opE l):=by
 by_cases hE:getE l=0
 ·have e1:s.opE l=if (getF l).k=1\/(getF l).t≠s.i then 1 else if holdsB (pairK s.ms (getF l).f s.i) (getF l)=false then 13 else 0:=by
   unfold Ec.opE;rw[if_neg (by simp[hE])]
  have e2:s.opF l=if (getF l).k=1\/(getF l).t≠s.i then Fr.zero else if holdsB (pairK s.ms (getF l).f s.i) (getF l)=false then Fr.zero else getF l:=by
   unfold Ec.opF
   rw[e1]
   split
   ·rw[if_neg (by decide)]
   ·split
    ·rw[if_neg (by decide)]
    ·rw[if_pos rfl]
  exact deopen_good w R g s ma mc h x cx l hx hl hE _ rfl _ _ e2 e1
 ·have e1:s.opE l=((getE l:Nat):Int):=if_pos hE
  have e2:s.opF l=Fr.zero:=by unfold Ec.opF;rw[e1,if_neg (by omega)]
  rw[e1,e2]
  exact deopen_bytes w R g s ma mc h x cx l hx hl hE
end Go.Proofs.YtahnbljbhfpldaaGreatDoor
