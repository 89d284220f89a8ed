/-
  The program's Ask.
-/
import Derived.Test.YthogohkieiogiaaGreatDoorPeC
namespace Go.Proofs.YthogohkieiogiaaGreatDoor
set_option maxRecDepth 20000
set_option maxHeartbeats 3200000
open Go.ChangeShapes Go.WideShapes Go.ChangeAt Go.RowKit
theorem Ec.askE_one {s:Ec}{jj now:Int}(h:s.askE jj now=1):s.othB jj=false\/timeB now=false:=by
 cases h1:s.othB jj
 ·exact .inl rfl
 ·cases h2:timeB now
  ·exact .inr rfl
  ·obtain⟨a,b,c⟩:=Ec.othB_iff.1 h1
   unfold Ec.askE at h
   rw[if_pos ⟨a,b,c,h2⟩] at h
   split at h<;>cases h
theorem peask_no (w:World)(R:Nat)(s:Ec)(ma:Option Addr)(mc:Nat)(h:PEAt w R s ma mc)(hm:s.ms.length=16)(jj now:Int)(hE:s.askE jj now=1):
  Calls Tryz.prog 9 #[.pointer (some ⟨R,0,none⟩),.int .i64 jj,.int .i64 now] w λe w'=>e=.returned (.tuple #[.slice none 0 0,.int .i64 1])/\w'=w:=by
 have KM:=pemade_ok w R s ma mc h hm
 have KO:=peother_ok w R s ma mc h jj
 have KT:=petime_ok w now
 have hE2:=Ec.askE_one hE
 clear h hE
 by_cases ho:s.othB jj=true
 ·have ht:timeB now=false:=by
   rcases hE2 with h|h
   ·rw[ho] at h;cases h
   ·exact h
  rw[ho] at KO
  rw[ht] at KT
  clear hE2 ho ht
  go_enter Tryz.func9,Tryz.ntmps9
  go_wp2_with fail
  refine KM.mono ?_
  rintro e w1 ⟨rfl,hw1⟩
  rw[hw1]
  clear hw1 w1
  go_wp2_with fail
  refine KO.mono ?_
  rintro e w1 ⟨rfl,hw1⟩
  rw[hw1]
  clear hw1 w1
  go_wp2_with fail
  refine KT.mono ?_
  rintro e w1 ⟨rfl,hw1⟩
  rw[hw1]
  clear hw1 w1
  go_wp2
  go_ret2
  exact⟨rfl,rfl⟩
 ·rw[Bool.eq_false_iff.2 ho] at KO
  clear hE2 ho KT
  go_enter Tryz.func9,Tryz.ntmps9
  go_wp2_with fail
  refine KM.mono ?_
  rintro e w1 ⟨rfl,hw1⟩
  rw[hw1]
  clear hw1 w1
  go_wp2_with fail
  refine KO.mono ?_
  rintro e w1 ⟨rfl,hw1⟩
  rw[hw1]
  clear hw1 w1
  go_wp2
  go_ret2
  exact⟨rfl,rfl⟩
theorem peask_full (w:World)(R:Nat)(s:Ec)(ma:Option Addr)(mc:Nat)(h:PEAt w R s ma mc)(hok:s.ok)(jj now:Int)(hE:s.askE jj now=9):
  Calls Tryz.prog 9 #[.pointer (some ⟨R,0,none⟩),.int .i64 jj,.int .i64 now] w λe w'=>e=.returned (.tuple #[.slice none 0 0,.int .i64 9])/\w'=w:=by
 have KM:=pemade_ok w R s ma mc h hok.ms
 have KO:=peother_ok w R s ma mc h jj
 have KT:=petime_ok w now
 have c13:=h.cell 13 rfl
 obtain⟨⟨h1,h2,h3,h4⟩,h5⟩:(0<=jj/\jj<s.c.n/\jj≠s.i/\timeB now=true)/\4294967295<=s.ct:=by
  unfold Ec.askE at hE
  split at hE
  ·rename_i hh
   split at hE
   ·rename_i h5;exact⟨hh,h5⟩
   ·cases hE
  ·cases hE
 rw[show s.ct=4294967295 by have:=hok.ct;omega] at c13
 rw[Ec.othB_iff.2 ⟨h1,h2,h3⟩] at KO
 rw[h4] at KT
 clear h hok hE h1 h2 h3 h4 h5
 go_enter Tryz.func9,Tryz.ntmps9
 go_wp2_with fail
 refine KM.mono ?_
 rintro e w1 ⟨rfl,hw1⟩
 rw[hw1]
 clear hw1 w1
 go_wp2_with fail
 refine KO.mono ?_
 rintro e w1 ⟨rfl,hw1⟩
 rw[hw1]
 clear hw1 w1
 go_wp2_with fail
 refine KT.mono ?_
 rintro e w1 ⟨rfl,hw1⟩
 rw[hw1]
 clear hw1 w1
 go_wp2
 go_ret2
 exact⟨rfl,rfl⟩
theorem pestore_u32 (w:World)(a:Addr)(old:Value)(x:Int)(hc:w.cell? a=some old)(hf:w.frozen? a=false):(Instr.storeAt 62 (.pointer (some a)) (.int .u32 x)).run Tryz.prog w=.ok () (w.setCell a (.int .u32 x)):=by
 go_simp
theorem eping_core {i j:Int}{n:Nat}(hi:0<=i/\i<8)(hj:0<=j/\j<8)(hne:i≠j):coreB (ecPing i j n)=true:=by
 simp[coreB,numsB,inB,ecPing,hne]
 exact⟨decide_eq_true (by omega),decide_eq_true (by omega)⟩
theorem pfrbuild (U:World)(j:Int)(n:Nat):(Instr.build 41 #[(0,.int .i64 2),(2,.int .i64 j),(6,.int .u64 (n:Int))]).run Tryz.prog U=.ok (.agg (frC (ecPing 0 j n) At.zero)) U:=run_build U 41 _ _ (by kernel_rfl)
theorem peask_ok (w:World)(R:Nat)(s:Ec)(ma:Option Addr)(mc:Nat)(h:PEAll w R s ma mc)(hok:s.ok)(hT:Tabs w)(h2R:3<=R)(jj now:Int)(hE:s.askE jj now=0):
  Calls Tryz.prog 9 #[.pointer (some ⟨R,0,none⟩),.int .i64 jj,.int .i64 now] w λe w'=>∃ d cd,e=.returned (.tuple #[.slice d (s.askR jj now).length cd,.int .i64 0])/\Sees w' d cd (s.askR jj now)/\PEAll w' R (s.askV jj now) ma mc/\Apart (λk=>k=R) w w':=by
 have KM:=pemade_ok w R s ma mc h.at' hok.ms
 have KO:=peother_ok w R s ma mc h.at' jj
 have KT:=petime_ok w now
 have c13:=h.at'.cell 13 rfl
 obtain⟨⟨h1,h2,h3,h4⟩,h5⟩:=Ec.askE_zero.1 hE
 rw[Ec.othB_iff.2 ⟨h1,h2,h3⟩] at KO
 rw[h4] at KT
 obtain⟨z,hz⟩:∃ z:Int,z=(s.ct:Int):=⟨_,rfl⟩
 obtain⟨C,hC⟩:∃ C:Int,C=z+1:=⟨_,rfl⟩
 have n5:(z==4294967295)=false:=by simp;omega
 have e1:z+1=C:=by omega
 have ew32:IntKind.u32.wrap C=C:=by rw[IntKind.wrap_u32];omega
 have ew:IntKind.u64.wrap C=C:=by rw[IntKind.wrap_u64];omega
 obtain⟨I,hI⟩:∃ I:Int,I=s.inc:=⟨_,rfl⟩
 have c13z:w.cell? ⟨R,13,none⟩=some (.int .u32 z):=by rw[hz];exact c13
 have eI:IntKind.u64.wrap I=I:=by rw[IntKind.wrap_u64];have:=hok.inc;omega
 obtain⟨P,hP⟩:∃ P:Int,P=I*4294967296:=⟨_,rfl⟩
 obtain⟨X,hX⟩:∃ X:Int,X=P+C:=⟨_,rfl⟩
 have f1:IntKind.u64.wrap (I*4294967296)=P:=by rw[IntKind.wrap_u64];have:=hok.inc;omega
 have f2:P+C=X:=hX.symm
 have f3:IntKind.u64.wrap X=X:=by rw[IntKind.wrap_u64];have:=hok.inc;omega
 have hXn:X=(s.non:Int):=by unfold Ec.non;have:=hok.inc;omega
 have hn8:s.c.n<=8:=(right_of hok.cfg).n1
 obtain⟨W1,hW1⟩:∃ W1,W1=w.setCell ⟨R,13,none⟩ (.int .u32 C):=⟨_,rfl⟩
 have HS13:Hid ((Instr.storeAt 62 (.pointer (some ⟨R,13,none⟩)) (.int .u32 C)).run Tryz.prog w=.ok () W1):=by rw[hW1];exact pestore_u32 w _ _ _ c13z (h.at'.fz 13)
 obtain⟨s1,hs1⟩:∃ s1:Ec,s1={ s with ct:=s.ct+1 }:=⟨_,rfl⟩
 have p1:PEAt W1 R s1 ma mc:=by rw[hW1,hs1];exact h.at'.put 13 _ (by rw[hC,hz];rfl)
 have a1:Apart (λk=>k=R) w W1:=by rw[hW1];exact(Apart.refl (λk=>k=R) w).setCell (b:=R) (.inl rfl) 13 _
 have b12:=p1.cell 12 rfl
 have b13:=p1.cell 13 rfl
 rw[show s1.inc=I by rw[hs1,hI]] at b12
 rw[show (s1.ct:Int)=C by rw[hs1,hC,hz];rfl] at b13
 have HI:Hid (I=s.inc/\z=(s.ct:Int)/\C=z+1/\jj.toNat<s.ws.length/\0<=jj/\jj<s.c.n/\jj≠s.i/\s.ct<4294967295/\timeB now=true/\X=(s.non:Int)/\s.ws.length<=8):=⟨hI,hz,hC,by have:=hok.num;omega,h1,h2,h3,h5,h4,hXn,by have:=hok.num;omega⟩
 have H1:Hid (PEAll w R s ma mc/\PEAt W1 R s1 ma mc/\s1={ s with ct:=s.ct+1 }/\Apart (λk=>k=R) w W1/\s.ok/\s.askE jj now=0/\Tabs w/\3<=R):=⟨h,p1,hs1,a1,hok,hE,hT,h2R⟩
 have j1:jj<8:=by omega
 have j0:0<=jj:=h1
 clear h hE h1 h2 h3 h4 h5 hP hX hXn hI hC hz hs1 hW1 p1 a1 hok c13 hT h2R hn8
 go_enter Tryz.func9,Tryz.ntmps9
 go_wp2_with fail
 refine KM.mono ?_
 rintro e w1 ⟨rfl,hw1⟩
 rw[hw1]
 clear hw1 w1 KM
 go_wp2_with fail
 refine KO.mono ?_
 rintro e w1 ⟨rfl,hw1⟩
 rw[hw1]
 clear hw1 w1 KO
 go_wp2_with fail
 refine KT.mono ?_
 rintro e w1 ⟨rfl,hw1⟩
 rw[hw1]
 clear hw1 w1 KT
 go_upto_region 8 with (first|(refine wpList_store_run rfl 62 _ _ rfl _ _ rfl rfl HS13.out ?_)|fail)
 go_quiet (fail)
 obtain⟨V,hV⟩:∃ V,V=W1.drewN nq:=⟨_,rfl⟩
 have hbV:Below W1.heap.size W1 V:=by rw[hV];exact below_drewN (Below.refl _ _) nq
 rw[<-hV]
 have pV:PEAt V R s1 ma mc:=(hbV.block R H1.out.2.1.lt).trans H1.out.2.1
 clear b12 b13 hV
 have aV:Apart (λk=>k=R) w V:=H1.out.2.2.2.1.trans (Apart.of_below (F:=λ_=>False) hbV) λ_ h=>h.elim
 obtain⟨V2,hrun2,pV2,aV2⟩:=pV.stores (by rw[H1.out.2.2.1];exact HI.out.2.2.2.2.2.2.2.2.2.2) jj.toNat (by rw[H1.out.2.2.1];exact HI.out.2.2.2.1) (some (s.non,now)) (.int .u64 X) (.int .i64 now) (by rw[HI.out.2.2.2.2.2.2.2.2.2.1];rfl) (by
  intro u hu
  simp only[List.mem_cons,List.not_mem_nil,or_false] at hu
  rcases hu with rfl|rfl<;>rfl)
 have HSW:Hid ((Instr.storeAt 64 (.pointer (some ⟨R,14+jj.toNat*2,none⟩)) (.agg #[.int .u64 X,.int .i64 now])).run Tryz.prog V=.ok () V2):=hrun2
 have hV:s.askV jj now={ s with ct:=s.ct+1,ws:=s.ws.set jj.toNat (some (s.non,now)) }:=if_pos H1.out.2.2.2.2.2.1
 have aT:Apart (λk=>k=R) w V2:=aV.trans aV2 λk hk=>.inl hk
 have pA:PEAll V2 R (s.askV jj now) ma mc:=by
  refine⟨?_,?_⟩
  ·rw[hV]
   rw[H1.out.2.2.1] at pV2
   exact pV2
  ·rw[hV];exact H1.out.1.at'.aside aT H1.out.1.ms
 have H2:Hid (PEAll V2 R (s.askV jj now) ma mc/\Apart (λk=>k=R) w V2/\Tabs V2):=⟨pA,aT,tabs_apart H1.out.2.2.2.2.2.2.1 aT (λk hk=>by have:=H1.out.2.2.2.2.2.2.2;omega)⟩
 have KS:Calls Tryz.prog 28 #[.pointer (some ⟨R,0,none⟩),.agg (frC (ecPing 0 jj s.non) At.zero)] V2 λe w'=>FTells V2 w' e (s.askR jj now) 0:=by
  have hnd:=H1.out.2.2.2.2.1.node
  have hn8:=(right_of H1.out.2.2.2.2.1.cfg).n1
  have hne:s.i≠jj:=λe=>HI.out.2.2.2.2.2.2.1 e.symm
  have i1:=HI.out.2.2.2.2.1
  have i2:=HI.out.2.2.2.2.2.1
  have kl:=(pairK_len (ms:=s.ms) (i:=s.i) (j:=jj) H1.out.2.2.2.2.1.ms (by omega) (by omega) hne).2
  have htB:tagB (pairK s.ms s.i jj) (ecPing s.i jj s.non)=true:=(tagB_iff _ _).2 ⟨kl,eping_core (by omega) (by omega) hne⟩
  refine pesealed_ok V2 R (s.askV jj now) ma mc H2.out.1 H2.out.2.2 (ecPing 0 jj s.non) At.zero ⟨Sees.nil' _,Sees.nil' _,Sees.nil' _⟩ (Ec.non_lt H1.out.2.2.2.2.1 HI.out.2.2.2.2.2.2.2.1).2 _ _ ?_ ?_
  ·rw[hV];exact if_pos H1.out.2.2.2.2.2.1
  ·rw[hV];exact(if_pos htB).symm
 have HBF:Hid (∀ U,(Instr.build 41 #[(0,.int .i64 2),(2,.int .i64 jj),(6,.int .u64 X)]).run Tryz.prog U=.ok (.agg (frC (ecPing 0 jj s.non) At.zero)) U):=λU=>by rw[HI.out.2.2.2.2.2.2.2.2.2.1];exact pfrbuild U jj s.non
 clear hrun2 pV aV pV2 aV2 hV aT pA hbV HS13
 go_upto_region 10 with (first|(refine wpList_store_run rfl 64 _ _ rfl _ _ rfl rfl HSW.out ?_)|fail)
 go_wp2_with (first|(refine wpList_build_run rfl 41 _ rfl [(0,.int .i64 2),(2,.int .i64 jj),(6,.int .u64 X)] _ rfl (HBF.out _) ?_)|fail)
 refine KS.mono ?_
 rintro e w3 ⟨d3,c3,rfl,hs3,hb3⟩
 have H3:Hid (Sees w3 d3 c3 (s.askR jj now)/\PEAll w3 R (s.askV jj now) ma mc/\Apart (λk=>k=R) w w3):=⟨hs3,H2.out.1.below hb3,H2.out.2.1.trans (Apart.of_below (F:=λ_=>False) hb3) λ_ h=>h.elim⟩
 clear hs3 hb3 KS
 go_wp2
 go_ret2
 exact⟨d3,c3,rfl,H3.out⟩
end Go.Proofs.YthogohkieiogiaaGreatDoor
