/-
  The document's Ask, where it asks.
-/
import Derived.Test.YtahnbljbhfpldaaGreatDoorEchoF
namespace Go.Proofs.YtahnbljbhfpldaaGreatDoor
set_option maxRecDepth 20000
set_option maxHeartbeats 3200000
open Go.ChangeShapes Go.WideShapes Go.ChangeAt Go.RowKit
theorem estore_u64 (w:World)(a:Addr)(old:Value)(x:Int)(hc:w.cell? a=some old)(hf:w.frozen? a=false):(Instr.storeAt 38 (.pointer (some a)) (.int .u64 x)).run Tryz.prog w=.ok () (w.setCell a (.int .u64 x)):=by
 go_simp
theorem ping_core {i j:Int}{n:Nat}(hi:0<=i/\i<8)(hj:0<=j/\j<8)(hne:i≠j):coreB (ecPing i j n)=true:=by
 simp[coreB,numsB,inB,ecPing,hne]
 exact⟨decide_eq_true (by omega),decide_eq_true (by omega)⟩
theorem frbuild (U:World)(i j:Int)(n:Nat):(Instr.build 40 #[(0,.int .i64 2),(1,.int .i64 i),(2,.int .i64 j),(6,.int .u64 (n:Int))]).run Tryz.prog U=.ok (.agg (frC (ecPing i j n) At.zero)) U:=run_build U 40 _ _ (by kernel_rfl)
theorem DWAt.stores {w:World}{g:Nat}{ws:List (Option (Nat×Int))}(h:DWAt w g ws)(j:Nat)(hj:j<ws.length)(q:Option (Nat×Int))(u0 u1 u2:Value)(hq:wdC q=[u0,u1,u2])(hu:∀ u∈[u0,u1,u2],u.oneCell'=true):
  ∃ w',(Instr.storeAt 63 (.pointer (some ⟨g,j*3,none⟩)) (.agg #[u0,u1,u2])).run Tryz.prog w=.ok () w'/\DWAt w' g (ws.set j q)/\Apart (λk=>k=g) w w':=by
 obtain⟨p,hp⟩:∃ p,ws[j]?=some p:=⟨ws[j],by simp[hj]⟩
 have ht:w.there g (j*3) (#[u0,u1,u2]:Array Value).size:=λi hi=>by
  refine⟨?_,frozen_of_row _ _ _ _ _ h⟩
  have hi:i<3:=hi
  have hc:∃ u,(wdC p)[i]?=some u:=⟨(wdC p)[i]'(by rw[wdC_len];exact hi),by simp⟩
  obtain⟨u,hu⟩:=hc
  rw[h.cell hp i hu];rfl
 refine⟨_,run_storeAt_mid w g (j*3) 63 #[u0,u1,u2] ht (by kernel_rfl) (all_oneCell_toArray hu),?_,?_⟩
 ·show DWAt (((w.setCell ⟨g,j*3,none⟩ u0).setCell ⟨g,j*3+1,none⟩ u1).setCell ⟨g,j*3+2,none⟩ u2) g (ws.set j q)
  have a1:=heap_setCell_same w g (j*3) _ 63 u0 h
  have a2:=heap_setCell_same _ g (j*3+1) _ 63 u1 a1
  have a3:=heap_setCell_same _ g (j*3+2) _ 63 u2 a2
  unfold DWAt
  rw[a3,<-wdL_set ws j q u0 u1 u2 hj hq]
  simp
 ·show Apart (λk=>k=g) w (((w.setCell ⟨g,j*3,none⟩ u0).setCell ⟨g,j*3+1,none⟩ u1).setCell ⟨g,j*3+2,none⟩ u2)
  exact(((Apart.refl (λk=>k=g) w).setCell (b:=g) (.inl rfl) _ _).setCell (b:=g) (.inl rfl) _ _).setCell (b:=g) (.inl rfl) _ _
theorem deask_ok (w:World)(R g:Nat)(s:Ec)(ma:Option Addr)(mc:Nat)(h:DEAll w R g s ma mc)(hok:s.ok)(jj now:Int)(hE:s.askE jj now=0):
  Calls Tryz.prog 12 #[.pointer (some ⟨R,0,none⟩),.int .i64 jj,.int .i64 now] w λe w'=>∃ d cd,e=.returned (.tuple #[.slice d (s.askR jj now).length cd,.int .i64 0])/\Sees w' d cd (s.askR jj now)/\DAsked w w' R g (s.askV jj now) ma mc:=by
 have c0:=h.at'.cell 0 rfl
 have c11:=h.at'.cell 11 rfl
 have c13:=h.at'.cell 13 rfl
 have KT:=detime_ok w now
 obtain⟨⟨h1,h2,h3,h4⟩,h5⟩:=Ec.askE_zero.1 hE
 have n1:¬ jj<0:=by omega
 have n2:¬ s.c.n<=jj:=by omega
 have hq:(jj==s.i)=false:=by simp[h3]
 rw[h4] at KT
 obtain⟨z,hz⟩:∃ z:Int,z=(s.ct:Int):=⟨_,rfl⟩
 obtain⟨C,hC⟩:∃ C:Int,C=z+1:=⟨_,rfl⟩
 have n5:¬ (4294967295:Int)<=z:=by omega
 have e1:z+1=C:=by omega
 have ew:IntKind.u64.wrap C=C:=by rw[IntKind.wrap_u64];omega
 obtain⟨I,hI⟩:∃ I:Int,I=s.inc:=⟨_,rfl⟩
 have c13z:w.cell? ⟨R,13,none⟩=some (.int .u64 z):=by rw[hz];exact c13
 have eI:IntKind.u64.wrap I=I:=by rw[IntKind.wrap_u64];have:=hok.inc;omega
 obtain⟨P,hP⟩:∃ P:Int,P=I*4294967296:=⟨_,rfl⟩
 obtain⟨X,hX⟩:∃ X:Int,X=P+C:=⟨_,rfl⟩
 have f1:IntKind.u64.wrap (I*4294967296)=P:=by rw[IntKind.wrap_u64];have:=hok.inc;omega
 have f2:P+C=X:=hX.symm
 have f3:IntKind.u64.wrap X=X:=by rw[IntKind.wrap_u64];have:=hok.inc;omega
 have hXn:X=(s.non:Int):=by unfold Ec.non;have:=hok.inc;omega
 obtain⟨L,hL⟩:∃ L,L=s.ws.length:=⟨_,rfl⟩
 obtain⟨W1,hW1⟩:∃ W1,W1=w.setCell ⟨R,13,none⟩ (.int .u64 C):=⟨_,rfl⟩
 have HS13:Hid ((Instr.storeAt 38 (.pointer (some ⟨R,13,none⟩)) (.int .u64 C)).run Tryz.prog w=.ok () W1):=by rw[hW1];exact estore_u64 w _ _ _ c13z (h.at'.fz 13)
 obtain⟨s1,hs1⟩:∃ s1:Ec,s1={ s with ct:=s.ct+1 }:=⟨_,rfl⟩
 have p1:DEAt W1 R s1 ma mc (.slice (some ⟨g,0,none⟩) s.ws.length s.ws.length):=by rw[hW1,hs1];exact h.at'.put 13 _ (by rw[hC,hz];rfl)
 have b12:=p1.cell 12 rfl
 have b13:=p1.cell 13 rfl
 rw[show s1.inc=I by rw[hs1,hI]] at b12
 rw[show (s1.ct:Int)=C by rw[hs1,hC,hz];rfl] at b13
 have HI:Hid (I=s.inc/\z=(s.ct:Int)/\C=z+1/\jj.toNat<s.ws.length/\0<=jj/\jj<s.c.n/\jj≠s.i/\s.ct<4294967295/\timeB now=true/\X=(s.non:Int)/\L=s.ws.length):=⟨hI,hz,hC,by have:=hok.num;omega,h1,h2,h3,h5,h4,hXn,hL⟩
 have H1:Hid (DEAll w R g s ma mc/\DEAt W1 R s1 ma mc (.slice (some ⟨g,0,none⟩) s.ws.length s.ws.length)/\s1={ s with ct:=s.ct+1 }/\W1=w.setCell ⟨R,13,none⟩ (.int .u64 C)/\s.ok/\s.askE jj now=0):=⟨h,p1,hs1,hW1,hok,hE⟩
 have j1:jj<(L:Int):=by rw[hL];have:=hok.num;omega
 have j0:0<=jj:=h1
 clear h hE h1 h2 h3 h4 h5 hP hX hXn hL hI hC hz hs1 hW1 p1 hok c13
 go_enter Tryz.func12,Tryz.ntmps12
 go_wp2_with fail
 refine KT.mono ?_
 rintro e w1 ⟨rfl,rfl⟩
 go_upto_region 6 with (first|(refine wpList_store_run rfl 38 _ _ rfl _ _ rfl rfl HS13.out ?_)|fail)
 go_quiet (fail)
 obtain⟨V,hV⟩:∃ V,V=W1.drewN nq:=⟨_,rfl⟩
 have hbV:Below W1.heap.size W1 V:=by rw[hV];exact below_drewN (Below.refl _ _) nq
 rw[<-hV]
 have pV:DEAt V R s1 ma mc (.slice (some ⟨g,0,none⟩) L L):=by rw[HI.out.2.2.2.2.2.2.2.2.2.2];exact(hbV.block R H1.out.2.1.lt).trans H1.out.2.1
 have v14:=pV.cell 14 rfl
 clear b12 b13 hV
 have wV:DWAt V g s.ws:=by
  have h1:DWAt W1 g s.ws:=by
   rw[H1.out.2.2.2.1]
   refine(heap_setCell_other _ _ _ _ ?_).trans H1.out.1.ws
   rintro rfl
   have h2:=H1.out.1.ws
   have h3:=H1.out.1.at'
   unfold DWAt at h2
   unfold DEAt at h3
   rw[h2] at h3
   simp at h3
  exact(hbV.block g (Array.getElem?_eq_some_iff.1 h1).1).trans h1
 have mV:Sees V ma mc s.ms:=by
  refine Sees.below ?_ hbV
  rw[H1.out.2.2.2.1]
  exact H1.out.1.ms.slot H1.out.1.at' (deL_no _ _ _ _ _ _) 13 _
 obtain⟨V2,hrun2,wV2,aV2⟩:=wV.stores jj.toNat HI.out.2.2.2.1 (some (s.non,now)) (.bool true) (.int .u64 X) (.int .i64 now) (by rw[HI.out.2.2.2.2.2.2.2.2.2.1];rfl) (by
  intro u hu
  simp only[List.mem_cons,List.not_mem_nil,or_false] at hu
  rcases hu with rfl|rfl|rfl<;>rfl)
 have HSW:Hid ((Instr.storeAt 63 (.pointer (some ⟨g,jj.toNat*3,none⟩)) (.agg #[.bool true,.int .u64 X,.int .i64 now])).run Tryz.prog V=.ok () V2):=hrun2
 have gR:R≠g:=by
  rintro rfl
  have h2:=wV
  have h3:=pV
  unfold DWAt at h2
  unfold DEAt at h3
  rw[h2] at h3
  simp at h3
 have pV2:DEAt V2 R s1 ma mc (.slice (some ⟨g,0,none⟩) L L):=(aV2.block R pV.lt gR).trans pV
 have mV2:Sees V2 ma mc s.ms:=aV2.sees mV (by
  intro k off e hne
  rintro rfl
  obtain⟨k',off',ha',hc⟩:=mV.at' hne
  rw[e] at ha'
  simp only[Option.some.injEq,Addr.mk.injEq,and_true] at ha'
  obtain⟨rfl,rfl⟩:=ha'
  obtain⟨y,l',hl⟩:=List.exists_cons_of_ne_nil hne
  have h0:=hc 0 y (by rw[hl];rfl)
  rw[cell_of_row _ _ (off+0) _ _ _ wV] at h0
  exact wdL_no _ _ _ h0)
 have aT:Apart (λk=>k=R\/k=g) w1 V2:=by
  have a1:Apart (λk=>k=R\/k=g) w1 W1:=by rw[H1.out.2.2.2.1];exact(Apart.refl (λk=>k=R\/k=g) w1).setCell (b:=R) (.inl (.inl rfl)) 13 _
  have a2:Apart (λk=>k=R\/k=g) w1 V:=a1.trans (Apart.of_below (F:=λ_=>False) hbV) λ_ h=>h.elim
  exact a2.trans aV2 λk hk=>.inl (.inr hk)
 have H2:Hid (DEAt V2 R s1 ma mc (.slice (some ⟨g,0,none⟩) L L)/\DWAt V2 g (s.ws.set jj.toNat (some (s.non,now)))/\Sees V2 ma mc s.ms/\Apart (λk=>k=R\/k=g) w1 V2):=⟨pV2,wV2,mV2,aT⟩
 clear wV mV hrun2 gR aT pV wV2 aV2 pV2 mV2 hbV
 go_upto_region 8 with (first|(refine wpList_store_run rfl 63 _ _ rfl _ _ rfl rfl HSW.out ?_)|fail)
 have hne:s.i≠jj:=λe=>HI.out.2.2.2.2.2.2.1 e.symm
 have hn8:s.c.n<=8:=(right_of H1.out.2.2.2.2.1.cfg).n1
 obtain⟨kl1,kl2⟩:=pairK_len (ms:=s.ms) (i:=s.i) (j:=jj) H1.out.2.2.2.2.1.ms (by have:=H1.out.2.2.2.2.1.node;omega) (by have:=HI.out.2.2.2.2.1;have:=HI.out.2.2.2.2.2.1;omega) hne
 have KP:Calls Tryz.prog 36 #[.slice ma 16 mc,.int .i64 s.i,.int .i64 jj] V2.drew λe w'=>∃ d cd,e=.returned (.tuple #[.slice d 16 cd,.int .i64 0])/\Sees w' d cd (pairK s.ms s.i jj)/\Below V2.heap.size V2 w':=by
  have:=rpair_any V2.drew ma mc s.ms s.i jj (H2.out.2.2.1.below (Below.refl _ _).drew)
  rw[H1.out.2.2.2.2.1.ms] at this
  refine this.mono ?_
  rintro e w' ⟨d,cd,r,hr,rfl,hs,hb⟩
  have hr':r=pairK s.ms s.i jj:=hr.out
  subst hr'
  exact⟨d,cd,by rw[kl1,kl2];rfl,hs,(Below.refl V2.heap.size V2).drew.trans hb⟩
 have HQ:Hid (∀ U,Below V2.heap.size V2 U->(U.cell? ⟨R,10,none⟩=some (.slice ma 16 mc)/\U.cell? ⟨R,11,none⟩=some (.int .i64 s.i))):=λU hU=>by
  have h1:DEAt U R s1 ma mc (.slice (some ⟨g,0,none⟩) L L):=(hU.block R H2.out.1.lt).trans H2.out.1
  refine⟨?_,?_⟩
  ·have:=h1.cell 10 (u:=.slice ma s1.ms.length mc) rfl
   rw[show s1.ms=s.ms by rw[H1.out.2.2.1],H1.out.2.2.2.2.1.ms] at this
   exact this
  ·have:=h1.cell 11 (u:=.int .i64 s1.i) rfl
   rw[show s1.i=s.i by rw[H1.out.2.2.1]] at this
   exact this
 have hS0:=HQ.out V2.drew (Below.refl _ _).drew
 have HKL:Hid ((pairK s.ms s.i jj).length=16/\s.c.n<=8/\s.i≠jj):=⟨kl2,hn8,hne⟩
 clear kl1 kl2 hn8 hne HSW v14 HS13
 refine wp_region_noPanic ?_
 refine wp_region_held (S:=λU=>U.cell? ⟨R,10,none⟩=some (.slice ma 16 mc)/\U.cell? ⟨R,11,none⟩=some (.int .i64 s.i)) (by kernel_rfl) ?_
 have hS:=hS0
 refine tk 0 hS ?_
 refine tk 1 hS ?_
 refine tk 2 hS ?_
 refine tk 3 hS ?_
 refine tk 4 hS ?_
 refine tk 5 hS ?_
 refine tk 6 hS ?_
 refine tk 7 hS ?_
 refine tk 8 hS ?_
 refine any_one 9 rfl (by kernel_rfl) (by rfl) (λK hK=>?_)
 clear hS
 go_simp
 refine KP.mono ?_
 rintro ev w3 ⟨d3,c3,rfl,hs3,hb3⟩
 have HQ3:=HQ.out w3 hb3
 have H3:Hid (Sees w3 d3 c3 (pairK s.ms s.i jj)/\Below V2.heap.size V2 w3):=⟨hs3,hb3⟩
 clear hs3 hb3 KP
 refine hK.out _ _ (HQ3) (λhS=>?_)
 clear hK
 (try simp only[Act.put,sT])
 refine tk 10 hS ?_
 refine tk 11 hS ?_
 refine tk 12 hS ?_
 refine tk 13 hS ?_
 refine tk 14 hS ?_
 refine wpAnyH_done (by kernel_rfl) ?_ _
 refine NoPanic.normal ?_
 have q11:=HQ3.2
 clear hS hS0 HQ HQ3
 have KS:=rseal_any w3 (ecPing s.i jj s.non) At.zero d3 c3 (pairK s.ms s.i jj) ⟨Sees.nil' _,Sees.nil' _,Sees.nil' _⟩ (Ec.non_lt H1.out.2.2.2.2.1 HI.out.2.2.2.2.2.2.2.1).2 H3.out.1
 have htb:tagB (pairK s.ms s.i jj) (ecPing s.i jj s.non)=true:=by
  have h1:=H1.out.2.2.2.2.1.node
  have h2:=HI.out.2.2.2.2.1
  have h3:=HI.out.2.2.2.2.2.1
  have h4:=HKL.out.2.1
  unfold tagB
  rw[decide_eq_true HKL.out.1,Bool.true_and]
  exact ping_core (by omega) (by omega) HKL.out.2.2
 rw[show tagE (pairK s.ms s.i jj) (ecPing s.i jj s.non)=0 from if_pos htb,HKL.out.1] at KS
 have hR:sealR (pairK s.ms s.i jj) (ecPing s.i jj s.non)=s.askR jj now:=by unfold Ec.askR;rw[if_pos H1.out.2.2.2.2.2]
 rw[hR] at KS
 have HBF:Hid (∀ U,(Instr.build 40 #[(0,.int .i64 2),(1,.int .i64 s.i),(2,.int .i64 jj),(6,.int .u64 X)]).run Tryz.prog U=.ok (.agg (frC (ecPing s.i jj s.non) At.zero)) U):=λU=>by rw[HI.out.2.2.2.2.2.2.2.2.2.1];exact frbuild U s.i jj s.non
 clear htb hR
 go_wp2_with (first|(refine wpList_build_run rfl 40 _ rfl [(0,.int .i64 2),(1,.int .i64 s.i),(2,.int .i64 jj),(6,.int .u64 X)] _ rfl (HBF.out _) ?_)|fail)
 refine KS.mono ?_
 rintro e w4 ⟨d4,c4,rfl,hs4,hb4⟩
 have HE:Hid (Sees w4 d4 c4 (s.askR jj now)/\DAsked w1 w4 R g (s.askV jj now) ma mc):=by
  have hb:Below V2.heap.size V2 w4:=H3.out.2.trans (hb4.mono H3.out.2.size)
  have hV:s.askV jj now={ s with ct:=s.ct+1,ws:=s.ws.set jj.toNat (some (s.non,now)) }:=if_pos H1.out.2.2.2.2.2
  refine⟨hs4,⟨?_,?_,?_⟩,H2.out.2.2.2.trans (Apart.of_below (F:=λ_=>False) hb) λ_ h=>h.elim⟩
  ·have h1:DEAt w4 R s1 ma mc (.slice (some ⟨g,0,none⟩) L L):=(hb.block R H2.out.1.lt).trans H2.out.1
   rw[hV]
   rw[H1.out.2.2.1] at h1
   show DEAt w4 R _ ma mc (.slice (some ⟨g,0,none⟩) (s.ws.set _ _).length (s.ws.set _ _).length)
   rw[List.length_set,<-HI.out.2.2.2.2.2.2.2.2.2.2]
   exact h1
  ·rw[hV];exact(hb.block g (Array.getElem?_eq_some_iff.1 H2.out.2.1).1).trans H2.out.2.1
  ·rw[hV];exact H2.out.2.2.1.below hb
 clear KS hs4 hb4
 go_wp2
 go_ret2
 exact⟨d4,c4,rfl,HE.out⟩
end Go.Proofs.YtahnbljbhfpldaaGreatDoor
