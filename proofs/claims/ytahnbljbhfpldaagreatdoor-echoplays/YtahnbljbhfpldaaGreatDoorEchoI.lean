/-
  The document's Reply.
-/
import Derived.Test.YtahnbljbhfpldaaGreatDoorEchoH
namespace Go.Proofs.YtahnbljbhfpldaaGreatDoor
set_option maxRecDepth 20000
set_option maxHeartbeats 6400000
open Go.ChangeShapes Go.WideShapes Go.ChangeAt Go.RowKit
theorem pongbuild (U:World)(i j:Int)(n:Nat)(m e st ix:Int)(k:Option Addr)(ck:Nat)(key:List UInt8):(Instr.build 40 #[(0,.int .i64 3),(1,.int .i64 i),(2,.int .i64 j),(6,.int .u64 (n:Int)),(7,.int .i64 m),(3,.int .i64 e),(4,.int .i64 st),(9,.int .i64 ix),(10,.slice k key.length ck)]).run Tryz.prog U=.ok (.agg (frC (ecPong i j n m e st ix key) ⟨k,ck,none,0,none,0⟩)) U:=run_build U 40 _ _ (by kernel_rfl)
theorem dereply_at (w:World)(R g:Nat)(s:Ec)(ma:Option Addr)(mc:Nat)(h:DEAll w R g s ma mc)(F:Fr)(A:At)(hF:Seen w F A)(hn:F.n<18446744073709551616)(m ep st ix:Int)(k:Option Addr)(ck:Nat)(key:List UInt8)(hk:Sees w k ck key)(l:List UInt8)(n:Int)(hL:l=s.repR F m ep st ix key)(hN:n=s.repE F m ep st ix key):
  Calls Tryz.prog 16 #[.pointer (some ⟨R,0,none⟩),.agg (frC F A),.int .i64 m,.int .i64 ep,.int .i64 st,.int .i64 ix,.slice k key.length ck] w λe w'=>FTells w w' e l n:=by
 obtain⟨W,hW⟩:∃ W,W=w.alloc (.cells (frC F A) 40):=⟨_,rfl⟩
 have hb0:Below w.heap.size w W:=by rw[hW];exact Go.Joins.below_alloc1 _ _
 have hfr:FrAt W w.heap.size F A:=by rw[hW];exact FrAt.new w F A
 have H0:Hid (DEAll W R g s ma mc/\FrAt W w.heap.size F A/\Below w.heap.size w W/\Seen W F A/\Sees W k ck key/\F.n<18446744073709551616/\W=w.alloc (.cells (frC F A) 40)):=⟨h.below hb0,hfr,hb0,hF.below hb0,hk.below hb0,hn,hW⟩
 have HLN:Hid (l=s.repR F m ep st ix key/\n=s.repE F m ep st ix key):=⟨hL,hN⟩
 have HQ:Hid (∀ V,Below W.heap.size W V->((Instr.loadAt 40 (.pointer (some ⟨w.heap.size,0,none⟩))).run Tryz.prog V=.ok (.agg (frC F A)) V/\V.cell? ⟨w.heap.size,0,none⟩=some (.int .i64 F.k)/\V.cell? ⟨w.heap.size,2,none⟩=some (.int .i64 F.t)/\V.cell? ⟨R,11,none⟩=some (.int .i64 s.i))):=λV hV=>
  ⟨(H0.out.2.1.below hV).loads,(H0.out.2.1.below hV).c0,(H0.out.2.1.below hV).c2,(H0.out.1.below hV).at'.cell 11 rfl⟩
 have hS0:=HQ.out W.drew (Below.refl _ _).drew
 obtain⟨kl,hkl⟩:∃ kl,kl=key.length:=⟨_,rfl⟩
 have HKL:Hid (kl=key.length):=hkl
 rw[<-hkl]
 clear h hF hn hk hW hb0 hfr hL hN hkl
 go_enter Tryz.func16,Tryz.ntmps16
 go_upto_region 1 with fail
 rw[<-H0.out.2.2.2.2.2.2]
 by_cases hk:F.k=2
 rotate_left
 ·have hr:s.repB F=false:=by simp[Ec.repB,hk]
  have HG:Hid (l=[]/\n=1):=⟨HLN.out.1.trans (by unfold Ec.repR;rw[hr];rfl),HLN.out.2.trans (by unfold Ec.repE;rw[hr];rfl)⟩
  have hkb:(F.k != 2)=true:=by simp[hk]
  clear hk hr
  refine wp_region_noPanic ?_
  refine wp_region_held (S:=λV=>(Instr.loadAt 40 (.pointer (some ⟨w.heap.size,0,none⟩))).run Tryz.prog V=.ok (.agg (frC F A)) V/\V.cell? ⟨w.heap.size,0,none⟩=some (.int .i64 F.k)/\V.cell? ⟨w.heap.size,2,none⟩=some (.int .i64 F.t)/\V.cell? ⟨R,11,none⟩=some (.int .i64 s.i)) (by kernel_rfl) ?_
  have hS:=hS0
  refine tk 0 hS ?_
  refine tk 1 hS ?_
  refine tk 2 (v:=Value.bool true) (hv:=by intro w hSw;(try dsimp only at hSw);go_split_ands;go_simp) hS ?_
  refine tk 3 hS ?_
  refine tq 4 hS ?_
  refine tq 5 hS ?_
  refine tq 6 hS ?_
  refine tq 7 hS ?_
  refine tq 8 hS ?_
  refine tq 9 hS ?_
  refine tq 10 hS ?_
  refine tk 11 (v:=Value.bool true) (hv:=by intro w hSw;(try dsimp only at hSw);go_split_ands;go_simp) hS ?_
  refine tk 12 hS ?_
  refine tq 13 hS ?_
  refine tq 14 hS ?_
  refine tq 15 hS ?_
  refine tk 16 hS ?_
  refine wpAnyH_done (by kernel_rfl) ?_ _
  refine NoPanic.normal ?_
  obtain⟨V,hV⟩:∃ V,V=W.drew:=⟨_,rfl⟩
  rw[show ({ heap:=W.heap,tape:=W.tape,drawn:=W.drawn+1,os:=W.os,output:=W.output }:World)=V from hV.symm]
  have hbV:Below W.heap.size W V:=by rw[hV];exact(Below.refl _ _).drew
  clear hS hS0 hV
  have HE:Hid (Below w.heap.size w V):=H0.out.2.2.1.trans (hbV.mono H0.out.2.2.1.size)
  clear hbV
  go_wp2
  go_ret2
  rw[HG.out.1,HG.out.2]
  exact⟨none,0,rfl,Sees.nil' _,HE.out⟩
 have hkb:(F.k != 2)=false:=by simp[hk]
 by_cases ht:F.t=s.i
 rotate_left
 ·have hr:s.repB F=false:=by simp[Ec.repB,ht]
  have HG:Hid (l=[]/\n=1):=⟨HLN.out.1.trans (by unfold Ec.repR;rw[hr];rfl),HLN.out.2.trans (by unfold Ec.repE;rw[hr];rfl)⟩
  have htb:(F.t != s.i)=true:=by simp[ht]
  clear hk hr ht
  refine wp_region_noPanic ?_
  refine wp_region_held (S:=λV=>(Instr.loadAt 40 (.pointer (some ⟨w.heap.size,0,none⟩))).run Tryz.prog V=.ok (.agg (frC F A)) V/\V.cell? ⟨w.heap.size,0,none⟩=some (.int .i64 F.k)/\V.cell? ⟨w.heap.size,2,none⟩=some (.int .i64 F.t)/\V.cell? ⟨R,11,none⟩=some (.int .i64 s.i)) (by kernel_rfl) ?_
  have hS:=hS0
  refine tk 0 hS ?_
  refine tk 1 hS ?_
  refine tk 2 (v:=Value.bool false) (hv:=by intro w hSw;(try dsimp only at hSw);go_split_ands;go_simp) hS ?_
  refine tk 3 hS ?_
  refine tk 4 hS ?_
  refine tk 5 hS ?_
  refine tk 6 hS ?_
  refine tk 7 hS ?_
  refine tk 8 hS ?_
  refine tk 9 hS ?_
  refine tk 10 (v:=Value.bool true) (hv:=by intro w hSw;(try dsimp only at hSw);go_split_ands;go_simp) hS ?_
  refine tk 11 (v:=Value.bool true) (hv:=by intro w hSw;(try dsimp only at hSw);go_split_ands;go_simp) hS ?_
  refine tk 12 hS ?_
  refine tq 13 hS ?_
  refine tq 14 hS ?_
  refine tq 15 hS ?_
  refine tk 16 hS ?_
  refine wpAnyH_done (by kernel_rfl) ?_ _
  refine NoPanic.normal ?_
  obtain⟨V,hV⟩:∃ V,V=W.drew:=⟨_,rfl⟩
  rw[show ({ heap:=W.heap,tape:=W.tape,drawn:=W.drawn+1,os:=W.os,output:=W.output }:World)=V from hV.symm]
  have hbV:Below W.heap.size W V:=by rw[hV];exact(Below.refl _ _).drew
  clear hS hS0 hV
  have HE:Hid (Below w.heap.size w V):=H0.out.2.2.1.trans (hbV.mono H0.out.2.2.1.size)
  clear hbV
  go_wp2
  go_ret2
  rw[HG.out.1,HG.out.2]
  exact⟨none,0,rfl,Sees.nil' _,HE.out⟩
 have htb:(F.t != s.i)=false:=by simp[ht]
 have KC:=rcheck_ok W.drew F A (H0.out.2.2.2.1.below (Below.refl _ _).drew)
 by_cases hr:rightB F=true
 rotate_left
 ·have hr2:s.repB F=false:=by simp[Ec.repB,hr]
  have HG:Hid (l=[]/\n=1):=⟨HLN.out.1.trans (by unfold Ec.repR;rw[hr2];rfl),HLN.out.2.trans (by unfold Ec.repE;rw[hr2];rfl)⟩
  rw[if_neg hr] at KC
  clear hk hr hr2 ht
  refine wp_region_noPanic ?_
  refine wp_region_held (S:=λV=>(Instr.loadAt 40 (.pointer (some ⟨w.heap.size,0,none⟩))).run Tryz.prog V=.ok (.agg (frC F A)) V/\V.cell? ⟨w.heap.size,0,none⟩=some (.int .i64 F.k)/\V.cell? ⟨w.heap.size,2,none⟩=some (.int .i64 F.t)/\V.cell? ⟨R,11,none⟩=some (.int .i64 s.i)) (by kernel_rfl) ?_
  have hS:=hS0
  refine tk 0 hS ?_
  refine tk 1 hS ?_
  refine tk 2 (v:=Value.bool false) (hv:=by intro w hSw;(try dsimp only at hSw);go_split_ands;go_simp) hS ?_
  refine tk 3 hS ?_
  refine tk 4 hS ?_
  refine tk 5 hS ?_
  refine tk 6 hS ?_
  refine tk 7 hS ?_
  refine tk 8 hS ?_
  refine tk 9 hS ?_
  refine tk 10 (v:=Value.bool false) (hv:=by intro w hSw;(try dsimp only at hSw);go_split_ands;go_simp) hS ?_
  refine tk 11 hS ?_
  refine tk 12 hS ?_
  refine tk 13 (v:=Value.agg (frC F A)) (hv:=λW hW=>exec_load 40 (.tmp 8) rfl _ _ rfl hW.1) hS ?_
  refine any_one 14 rfl (by kernel_rfl) (by rfl) (λK hK=>?_)
  clear hS
  go_simp
  refine KC.mono ?_
  rintro ev V ⟨rfl,hb⟩
  have hbV:Below W.heap.size W V:=(Below.refl W.heap.size W).drew.trans hb
  have HQ1:=HQ.out V hbV
  clear hb KC
  refine hK.out _ _ (HQ1) (λhS=>?_)
  clear hK
  (try simp only[Act.put,sT])
  refine tk 15 hS ?_
  refine tk 16 hS ?_
  refine wpAnyH_done (by kernel_rfl) ?_ _
  refine NoPanic.normal ?_
  clear hS hS0 HQ1
  have HE:Hid (Below w.heap.size w V):=H0.out.2.2.1.trans (hbV.mono H0.out.2.2.1.size)
  clear hbV
  go_wp2
  go_ret2
  rw[HG.out.1,HG.out.2]
  exact⟨none,0,rfl,Sees.nil' _,HE.out⟩
 have hr2:s.repB F=true:=by simp[Ec.repB,hr,hk,ht]
 have HG0:Hid (l=sealR (pairK s.ms F.f s.i) (s.repF F m ep st ix key)/\n=tagE (pairK s.ms F.f s.i) (s.repF F m ep st ix key)):=⟨HLN.out.1.trans (if_pos hr2),HLN.out.2.trans (if_pos hr2)⟩
 rw[if_pos hr] at KC
 clear hk hr hr2 ht
 refine wp_region_noPanic ?_
 refine wp_region_held (S:=λV=>(Instr.loadAt 40 (.pointer (some ⟨w.heap.size,0,none⟩))).run Tryz.prog V=.ok (.agg (frC F A)) V/\V.cell? ⟨w.heap.size,0,none⟩=some (.int .i64 F.k)/\V.cell? ⟨w.heap.size,2,none⟩=some (.int .i64 F.t)/\V.cell? ⟨R,11,none⟩=some (.int .i64 s.i)) (by kernel_rfl) ?_
 have hS:=hS0
 refine tk 0 hS ?_
 refine tk 1 hS ?_
 refine tk 2 (v:=Value.bool false) (hv:=by intro w hSw;(try dsimp only at hSw);go_split_ands;go_simp) hS ?_
 refine tk 3 hS ?_
 refine tk 4 hS ?_
 refine tk 5 hS ?_
 refine tk 6 hS ?_
 refine tk 7 hS ?_
 refine tk 8 hS ?_
 refine tk 9 hS ?_
 refine tk 10 (v:=Value.bool false) (hv:=by intro w hSw;(try dsimp only at hSw);go_split_ands;go_simp) hS ?_
 refine tk 11 hS ?_
 refine tk 12 hS ?_
 refine tk 13 (v:=Value.agg (frC F A)) (hv:=λW hW=>exec_load 40 (.tmp 8) rfl _ _ rfl hW.1) hS ?_
 refine any_one 14 rfl (by kernel_rfl) (by rfl) (λK hK=>?_)
 clear hS
 go_simp
 refine KC.mono ?_
 rintro ev V ⟨rfl,hb⟩
 have hbV:Below W.heap.size W V:=(Below.refl W.heap.size W).drew.trans hb
 have HQ1:=HQ.out V hbV
 clear hb KC
 refine hK.out _ _ (HQ1) (λhS=>?_)
 clear hK
 (try simp only[Act.put,sT])
 refine tk 15 hS ?_
 refine tk 16 hS ?_
 refine wpAnyH_done (by kernel_rfl) ?_ _
 refine NoPanic.normal ?_
 clear hS hS0 HQ1
 obtain⟨KK,hKK⟩:∃ KK,KK=pairK s.ms F.f s.i:=⟨_,rfl⟩
 have HG1:Hid (l=sealR KK (s.repF F m ep st ix key)/\n=tagE KK (s.repF F m ep st ix key)):=by rw[hKK];exact HG0.out
 have HBV:Hid (Below W.heap.size W V):=hbV
 have HP:Hid (∀ U,Below V.heap.size V U->(U.cell? ⟨R,10,none⟩=some (.slice ma s.ms.length mc)/\U.cell? ⟨R,11,none⟩=some (.int .i64 s.i)/\U.cell? ⟨w.heap.size,1,none⟩=some (.int .i64 F.f)/\U.cell? ⟨w.heap.size,6,none⟩=some (.int .u64 (F.n:Int)))):=λU hU=>
  ⟨((H0.out.1.below hbV).below hU).at'.cell 10 rfl,((H0.out.1.below hbV).below hU).at'.cell 11 rfl,((H0.out.2.1.below hbV).below hU).c1,((H0.out.2.1.below hbV).below hU).c6⟩
 have KP:Calls Tryz.prog 36 #[.slice ma s.ms.length mc,.int .i64 F.f,.int .i64 s.i] V.drew λe w'=>∃ d cd kn,e=.returned (.tuple #[.slice d KK.length cd,.int .i64 kn])/\Sees w' d cd KK/\Below V.heap.size V w':=by
  refine(rpair_any V.drew ma mc s.ms F.f s.i ((H0.out.1.below hbV).below (Below.refl _ _).drew).ms).mono ?_
  rintro e w' ⟨d,cd,r,hr,rfl,hs,hb⟩
  have hr':r=KK:=hr.out.trans hKK.symm
  subst hr'
  exact⟨d,cd,_,rfl,hs,(Below.refl V.heap.size V).drew.trans hb⟩
 obtain⟨ml,hml⟩:∃ ml,ml=s.ms.length:=⟨_,rfl⟩
 rw[<-hml] at KP HP
 have hS0:=HP.out V.drew (Below.refl _ _).drew
 clear hKK hbV hml
 go_wp2_with fail
 refine wp_region_noPanic ?_
 refine wp_region_held (S:=λU=>U.cell? ⟨R,10,none⟩=some (.slice ma ml mc)/\U.cell? ⟨R,11,none⟩=some (.int .i64 s.i)/\U.cell? ⟨w.heap.size,1,none⟩=some (.int .i64 F.f)/\U.cell? ⟨w.heap.size,6,none⟩=some (.int .u64 (F.n:Int))) (by kernel_rfl) ?_
 have hS:=hS0
 refine tk 0 hS ?_
 refine tk 1 hS ?_
 refine tk 2 hS ?_
 refine tk 3 hS ?_
 refine tk 4 hS ?_
 refine tk 5 hS ?_
 refine tk 6 hS ?_
 refine tk 7 hS ?_
 refine tk 8 hS ?_
 refine tk 9 hS ?_
 refine any_one 10 rfl (by kernel_rfl) (by rfl) (λK hK=>?_)
 clear hS
 go_simp
 refine KP.mono ?_
 rintro ev w3 ⟨d3,c3,k3,rfl,hs3,hb3⟩
 have HP3:=HP.out w3 hb3
 have H3:Hid (Sees w3 d3 c3 KK/\Below V.heap.size V w3):=⟨hs3,hb3⟩
 clear hs3 hb3 KP
 refine hK.out _ _ (HP3) (λhS=>?_)
 clear hK
 (try simp only[Act.put,sT])
 refine tk 11 hS ?_
 refine tk 12 hS ?_
 refine tk 13 hS ?_
 refine tk 14 hS ?_
 refine tk 15 hS ?_
 refine wpAnyH_done (by kernel_rfl) ?_ _
 refine NoPanic.normal ?_
 clear hS hS0 HP3
 have hb4:Below V.heap.size V w3.drew:=H3.out.2.trans ((Below.refl w3.heap.size w3).drew.mono H3.out.2.size)
 have hbW:Below W.heap.size W w3.drew:=HBV.out.trans (hb4.mono HBV.out.size)
 have hS0:=HP.out w3.drew hb4
 have KS:=rseal_any w3.drew (s.repF F m ep st ix key) ⟨k,ck,none,0,none,0⟩ d3 c3 KK ⟨H0.out.2.2.2.2.1.below hbW,Sees.nil' _,Sees.nil' _⟩ H0.out.2.2.2.2.2.1 (H3.out.1.below (Below.refl _ _).drew)
 rw[<-HG1.out.1,<-HG1.out.2] at KS
 have HBF:Hid (∀ U,(Instr.build 40 #[(0,.int .i64 3),(1,.int .i64 s.i),(2,.int .i64 F.f),(6,.int .u64 (F.n:Int)),(7,.int .i64 m),(3,.int .i64 ep),(4,.int .i64 st),(9,.int .i64 ix),(10,.slice k kl ck)]).run Tryz.prog U=.ok (.agg (frC (s.repF F m ep st ix key) ⟨k,ck,none,0,none,0⟩)) U):=λU=>by rw[HKL.out];exact pongbuild U s.i F.f F.n m ep st ix k ck key
 have HBW:Hid (Below w.heap.size w w3.drew):=H0.out.2.2.1.trans (hbW.mono H0.out.2.2.1.size)
 clear hb4 hbW
 go_wp2_with fail
 refine wp_region_noPanic ?_
 refine wp_region_held (S:=λU=>U.cell? ⟨R,10,none⟩=some (.slice ma ml mc)/\U.cell? ⟨R,11,none⟩=some (.int .i64 s.i)/\U.cell? ⟨w.heap.size,1,none⟩=some (.int .i64 F.f)/\U.cell? ⟨w.heap.size,6,none⟩=some (.int .u64 (F.n:Int))) (by kernel_rfl) ?_
 have hS:=hS0
 refine tk 0 hS ?_
 refine tk 1 hS ?_
 refine tk 2 hS ?_
 refine tk 3 hS ?_
 refine tk 4 hS ?_
 refine tk 5 hS ?_
 refine tk 6 hS ?_
 refine tk 7 hS ?_
 refine tk 8 hS ?_
 refine tk 9 hS ?_
 refine tk 10 hS ?_
 refine tk 11 hS ?_
 refine tk 12 hS ?_
 refine tk 13 (v:=Value.agg (frC (s.repF F m ep st ix key) ⟨k,ck,none,0,none,0⟩)) (hv:=λU _=>exec_build 40 _ rfl [(0,.int .i64 3),(1,.int .i64 s.i),(2,.int .i64 F.f),(6,.int .u64 (F.n:Int)),(7,.int .i64 m),(3,.int .i64 ep),(4,.int .i64 st),(9,.int .i64 ix),(10,.slice k kl ck)] _ rfl (HBF.out U)) hS ?_
 refine tk 14 hS ?_
 refine any_one 15 rfl (by kernel_rfl) (by rfl) (λK hK=>?_)
 clear hS
 go_simp
 refine KS.mono ?_
 rintro ev w5 ⟨d5,c5,rfl,hs5,hb5⟩
 have H5:Hid (Sees w5 d5 c5 l/\Below w.heap.size w w5):=⟨hs5,HBW.out.trans (hb5.mono HBW.out.size)⟩
 have HP5:=HP.out w5 (H3.out.2.trans (((Below.refl w3.heap.size w3).drew.trans hb5).mono H3.out.2.size))
 clear hs5 hb5 KS
 refine hK.out _ _ (HP5) (λhS=>?_)
 clear hK
 (try simp only[Act.put,sT])
 refine tk 16 hS ?_
 refine tk 17 hS ?_
 refine tk 18 hS ?_
 refine tk 19 hS ?_
 refine wpAnyH_done (by kernel_rfl) ?_ _
 refine NoPanic.normal ?_
 clear hS hS0 HP5 HP
 go_wp2
 go_ret2
 exact⟨d5,c5,rfl,H5.out⟩
theorem dereply_any (w:World)(R g:Nat)(s:Ec)(ma:Option Addr)(mc:Nat)(h:DEAll w R g s ma mc)(F:Fr)(A:At)(hF:Seen w F A)(hn:F.n<18446744073709551616)(m ep st ix:Int)(k:Option Addr)(ck:Nat)(key:List UInt8)(hk:Sees w k ck key):
  Calls Tryz.prog 16 #[.pointer (some ⟨R,0,none⟩),.agg (frC F A),.int .i64 m,.int .i64 ep,.int .i64 st,.int .i64 ix,.slice k key.length ck] w λe w'=>FTells w w' e (s.repR F m ep st ix key) (s.repE F m ep st ix key):=
 dereply_at w R g s ma mc h F A hF hn m ep st ix k ck key hk _ _ rfl rfl
end Go.Proofs.YtahnbljbhfpldaaGreatDoor
