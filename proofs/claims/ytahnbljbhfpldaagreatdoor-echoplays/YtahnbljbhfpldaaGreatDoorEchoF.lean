/-
  The document's Ask.
-/
import Derived.Test.YtahnbljbhfpldaaGreatDoorEchoD
import Derived.Test.YtahnbljbhfpldaaGreatDoorKdfPair
namespace Go.Proofs.YtahnbljbhfpldaaGreatDoor
set_option maxRecDepth 20000
set_option maxHeartbeats 1600000
open Go.ChangeShapes Go.WideShapes Go.ChangeAt Go.RowKit
theorem exec_build {P:Program}{o:Oper}{a:Act}{w:World}(t:TypeId)(parts:Array (Nat×Operand))(ho:o.op=.build t parts)(vs:List (Nat×Value))(r:Value)(hp:parts.toList.map (λp=>(p.1,a.eval p.2))=vs)(hrun:(Instr.build t vs.toArray).run P w=.ok r w):(execOp a.eval o).run P w=.ok (.value r) w:=by
 have hq:parts.map (λp=>(p.1,a.eval p.2))=vs.toArray:=by rw[<-hp,<-Array.toList_map,Array.toArray_toList]
 unfold execOp
 simp only[ho,hq,Sem.run_bind,hrun,Result.andThen_ok,Sem.run_pure]
theorem debuild (w:World)(c:Cf)(a:Option Addr)(ca:Nat)(ms:List UInt8)(i inc:Int)(g n:Nat):(Instr.build 60 #[(0,.agg (cfC c)),(1,.slice a ms.length ca),(2,.int .i64 i),(3,.int .i64 inc),(5,.slice (some ⟨g,0,none⟩) n n)]).run Tryz.prog w=.ok (.agg (deL (ecNew c ms i inc) a ca (.slice (some ⟨g,0,none⟩) n n)).toArray) w:=run_build w 60 _ _ (by kernel_rfl)
theorem denew_no (w:World)(c:Cf)(a:Option Addr)(ca:Nat)(ms:List UInt8)(i inc:Int)(h:ecB c ms i inc=false):Calls Tryz.prog 9 #[.agg (cfC c),.slice a ms.length ca,.int .i64 i,.int .i64 inc] w λe w'=>e=.returned (.tuple #[.pointer none,.int .i64 1])/\Below w.heap.size w w':=by
 have HL:Hid ((Instr.loadAt 23 (.pointer (some ⟨w.heap.size,0,none⟩))).run Tryz.prog (w.alloc (.cells (cfC c) 23))=.ok (.agg (cfC c)) (w.alloc (.cells (cfC c) 23))):=(CfAt.new w c).loads
 have K1:=srcheck_ok (w.alloc (.cells (cfC c) 23)) c
 have H0:Hid (Below w.heap.size w (w.alloc (.cells (cfC c) 23))):=(Below.refl _ _).alloc (Nat.le_refl _) _
 have c0:(w.alloc (.cells (cfC c) 23)).cell? ⟨w.heap.size,0,none⟩=some (.int .i64 c.n):=(CfAt.new w c).c0
 have C0:Hid (CfAt (w.alloc (.cells (cfC c) 23)) w.heap.size c):=CfAt.new w c
 have h':¬ (okB c=true/\0<=i/\i<c.n/\0<=inc/\inc<=65535/\ms.length=16):=λhh=>by rw[ecB_iff.2 hh] at h;cases h
 obtain⟨n,hn⟩:∃ n,n=ms.length:=⟨_,rfl⟩
 rw[<-hn] at h' ⊢
 clear h hn
 go_enter Tryz.func9,Tryz.ntmps9
 go_upto_region 1 with fail
 generalize hW:w.alloc (Obj.cells (cfC c) 23)=W at *
 go_wp2_with (first|(refine wpList_gload_run rfl 23 _ rfl _ _ rfl HL.out ?_)|fail)
 refine K1.mono ?_
 rintro e w1 ⟨rfl,hb1⟩
 have H1:Hid (Below w.heap.size w w1):=H0.out.trans (hb1.mono H0.out.size)
 have c1:=(C0.out.below hb1).c0
 clear K1 hb1 c0 C0 HL H0
 by_cases h1:okB c=true
 ·rw[if_pos h1]
  by_cases h2:i<0
  ·clear h'
   go_wp2
   go_ret2
   exact⟨rfl,H1.out⟩
  ·by_cases h3:c.n<=i
   ·clear h'
    go_wp2
    go_ret2
    exact⟨rfl,H1.out⟩
   ·by_cases h4:inc<0
    ·clear h'
     go_wp2
     go_ret2
     exact⟨rfl,H1.out⟩
    ·by_cases h5:65535<inc
     ·clear h'
      go_wp2
      go_ret2
      exact⟨rfl,H1.out⟩
     ·have h6:((n:Int) != 16)=true:=by
       have:¬ n=16:=λe=>h' ⟨h1,by omega,by omega,by omega,by omega,e⟩
       simp;omega
      clear h'
      go_wp2
      go_ret2
      exact⟨rfl,H1.out⟩
 ·rw[if_neg h1]
  clear h' h1
  go_wp2
  go_ret2
  exact⟨rfl,H1.out⟩
theorem denew_ok (w:World)(c:Cf)(a:Option Addr)(ca:Nat)(ms:List UInt8)(i inc:Int)(ha:Sees w a ca ms)(h:ecB c ms i inc=true):Calls Tryz.prog 9 #[.agg (cfC c),.slice a ms.length ca,.int .i64 i,.int .i64 inc] w λe w'=>∃ R g,e=.returned (.tuple #[.pointer (some ⟨R,0,none⟩),.int .i64 0])/\w.heap.size<=R/\w.heap.size<=g/\DEAll w' R g (ecNew c ms i inc) a ca/\Below w.heap.size w w':=by
 obtain⟨r1,r2,r3,r4,r5,r6⟩:=ecB_iff.1 h
 obtain⟨N,hN⟩:∃ N:Nat,c.n=(N:Int):=⟨c.n.toNat,by omega⟩
 have hN8:N<=8:=by have:=(right_of r1).n1;omega
 have HL:Hid ((Instr.loadAt 23 (.pointer (some ⟨w.heap.size,0,none⟩))).run Tryz.prog (w.alloc (.cells (cfC c) 23))=.ok (.agg (cfC c)) (w.alloc (.cells (cfC c) 23))):=(CfAt.new w c).loads
 have K1:=srcheck_ok (w.alloc (.cells (cfC c) 23)) c
 rw[if_pos r1] at K1
 have H0:Hid (Below w.heap.size w (w.alloc (.cells (cfC c) 23))):=(Below.refl _ _).alloc (Nat.le_refl _) _
 have C0:Hid (CfAt (w.alloc (.cells (cfC c) 23)) w.heap.size c):=CfAt.new w c
 have HB:Hid (∀ V g,(Instr.build 60 #[(0,.agg (cfC c)),(1,.slice a 16 ca),(2,.int .i64 i),(3,.int .i64 inc),(5,.slice (some ⟨g,0,none⟩) N N)]).run Tryz.prog V=.ok (.agg (deL (ecNew c ms i inc) a ca (.slice (some ⟨g,0,none⟩) N N)).toArray) V):=λV g=>by rw[<-r6];exact debuild V c a ca ms i inc g N
 have HS:Hid (Sees w a ca ms/\ms.length=16/\c.n=(N:Int)/\N<=8):=⟨ha,r6,hN,hN8⟩
 have g0:¬ (i<0):=by omega
 have g1:¬ ((N:Int)<=i):=by omega
 have g2:¬ (inc<0):=by omega
 have g3:¬ (65535<inc):=by omega
 rw[r6]
 clear ha h r1 r2 r3 r4 r5 r6 hN hN8
 go_enter Tryz.func9,Tryz.ntmps9
 go_upto_region 1 with fail
 generalize hW:w.alloc (Obj.cells (cfC c) 23)=W at *
 go_wp2_with (first|(refine wpList_gload_run rfl 23 _ rfl _ _ rfl HL.out ?_)|fail)
 refine K1.mono ?_
 rintro e w1 ⟨rfl,hb1⟩
 have H1:Hid (Below w.heap.size w w1):=H0.out.trans (hb1.mono H0.out.size)
 have C1:Hid (CfAt w1 w.heap.size c):=C0.out.below hb1
 have c1:=C1.out.c0
 rw[HS.out.2.2.1] at c1
 clear K1 hb1 C0 HL H0 hW
 have HQ:Hid (∀ V,Below w1.heap.size w1 V->((Instr.loadAt 23 (.pointer (some ⟨w.heap.size,0,none⟩))).run Tryz.prog V=.ok (.agg (cfC c)) V/\V.cell? ⟨w.heap.size,0,none⟩=some (.int .i64 (N:Int)))):=λV hV=>⟨(C1.out.below hV).loads,by rw[<-HS.out.2.2.1];exact(C1.out.below hV).c0⟩
 have hS0:=HQ.out w1.drew (Below.refl _ _).drew
 go_upto_region 3 with fail
 refine wp_region_noPanic ?_
 refine wp_region_held (S:=λV=>(Instr.loadAt 23 (.pointer (some ⟨w.heap.size,0,none⟩))).run Tryz.prog V=.ok (.agg (cfC c)) V/\V.cell? ⟨w.heap.size,0,none⟩=some (.int .i64 (N:Int))) (by kernel_rfl) ?_
 have hS:=hS0
 refine tk 0 (v:=Value.agg (cfC c)) (hv:=λW hW=>exec_load 23 (.tmp 4) rfl _ _ rfl hW.1) hS ?_
 refine tk 1 hS ?_
 refine tk 2 hS ?_
 refine tk 3 hS ?_
 refine tk 4 hS ?_
 refine tk 5 hS ?_
 refine any_one 6 rfl (by kernel_rfl) (by rfl) (λK hK=>?_)
 clear hS
 refine op_makeW _ _ N HS.out.2.2.2 rfl rfl rfl ?_
 intro wm hwm hbm
 have hbm2:Below w1.heap.size w1 wm:=(Below.refl w1.heap.size w1).drew.trans hbm
 have hQ2:=HQ.out wm hbm2
 refine hK.out _ _ (hQ2) (λhS=>?_)
 clear hK
 (try simp only[Act.put,sT])
 refine tk 7 (v:=Value.agg (deL (ecNew c ms i inc) a ca (.slice (some ⟨w1.heap.size,0,none⟩) N N)).toArray) (hv:=λW _=>exec_build 60 _ rfl [(0,.agg (cfC c)),(1,.slice a 16 ca),(2,.int .i64 i),(3,.int .i64 inc),(5,.slice (some ⟨w1.heap.size,0,none⟩) N N)] _ rfl (HB.out W _)) hS ?_
 refine any_one 8 rfl (by kernel_rfl) (by rfl) (λK hK=>?_)
 clear hS
 go_simp
 obtain⟨W3,hW3⟩:∃ W3,W3=wm.alloc (.cells (deL (ecNew c ms i inc) a ca (.slice (some ⟨w1.heap.size,0,none⟩) N N)).toArray 60):=⟨_,rfl⟩
 have hb3:Below wm.heap.size wm W3:=by rw[hW3];exact(Below.refl _ _).alloc (Nat.le_refl _) _
 have hb13:Below w1.heap.size w1 W3:=hbm2.trans (hb3.mono hbm2.size)
 have hfin:w.heap.size<=wm.heap.size/\w.heap.size<=w1.heap.size/\DEAll W3 wm.heap.size w1.heap.size (ecNew c ms i inc) a ca/\Below w.heap.size w W3:=by
  have hz:=H1.out.size
  have hz2:=hbm2.size
  have hnum:(ecNew c ms i inc).ws.length=N:=by show (List.replicate c.n.toNat none).length=N;rw[List.length_replicate,HS.out.2.2.1,Int.toNat_natCast]
  refine⟨by omega,hz,⟨?_,?_,HS.out.1.below (H1.out.trans (hb13.mono hz))⟩,H1.out.trans (hb13.mono hz)⟩
  ·rw[hnum,hW3];exact heap_alloc_new _ _
  ·have:(ecNew c ms i inc).ws=List.replicate N none:=by show List.replicate c.n.toNat none=_;rw[HS.out.2.2.1,Int.toNat_natCast]
   rw[this]
   exact(hb3.block _ (Array.getElem?_eq_some_iff.1 hwm).1).trans hwm
 rw[<-hW3]
 have hQ3:=HQ.out W3 hb13
 clear hW3 hb3 hb13 hwm hbm hbm2
 refine hK.out _ _ (hQ3) (λhS=>?_)
 clear hK
 (try simp only[Act.put,sT])
 refine tk 9 hS ?_
 refine tk 10 hS ?_
 refine wpAnyH_done (by kernel_rfl) ?_ _
 refine NoPanic.normal ?_
 clear hS hS0 HQ hQ2 hQ3
 have HE:Hid (w.heap.size<=wm.heap.size/\w.heap.size<=w1.heap.size/\DEAll W3 wm.heap.size w1.heap.size (ecNew c ms i inc) a ca/\Below w.heap.size w W3):=hfin
 clear hfin
 go_wp2
 go_ret2
 exact⟨_,_,rfl,HE.out⟩
end Go.Proofs.YtahnbljbhfpldaaGreatDoor
namespace Go.Proofs.YtahnbljbhfpldaaGreatDoor
set_option maxRecDepth 20000
open Go.ChangeShapes Go.WideShapes Go.ChangeAt Go.RowKit
theorem pairK_len {ms:List UInt8}{i j:Int}(hm:ms.length=16)(hi:0<=i/\i<8)(hj:0<=j/\j<8)(hne:i≠j):(pairP ms i j).2=0/\(pairK ms i j).length=16:=by
 have h:pairP ms i j=keyP ms pairN [(min i j).toNat,(max i j).toNat]:=by
  unfold pairP
  rw[if_pos ⟨by simp[nodeP,hi],by simp[nodeP,hj],hne⟩]
 have h2:keyP ms pairN [(min i j).toNat,(max i j).toNat]=(keyOf ms pairN [(min i j).toNat,(max i j).toNat],0):=keyP_ok _ _ _ labels.1 (by simp) (by omega)
 unfold pairK
 rw[h,h2]
 exact⟨rfl,keyOf_length _ _ _⟩
theorem pairK_comm (ms:List UInt8)(i j:Int):pairK ms i j=pairK ms j i:=by
 unfold pairK pairP
 rw[show min i j=min j i by omega,show max i j=max j i by omega]
 by_cases h:nodeP i=true/\nodeP j=true/\i≠j
 ·rw[if_pos h,if_pos ⟨h.2.1,h.1,λe=>h.2.2 e.symm⟩]
 ·rw[if_neg h,if_neg (λhh=>h ⟨hh.2.1,hh.1,λe=>hh.2.2 e.symm⟩)]
def anL (x:An)(a:Option Addr)(c:Nat):List Value:=[.int .i64 x.f,.int .i64 x.lo,.int .i64 x.hi,.int .i64 x.e,.int .i64 x.s,.int .i64 x.i,.slice a x.key.length c]
def anC (x:An)(a:Option Addr)(c:Nat):Array Value:=(anL x a c).toArray
theorem anC_size (x:An)(a:Option Addr)(c:Nat):(anC x a c).size=7:=rfl
theorem anC_one (x:An)(a:Option Addr)(c:Nat):(anC x a c).all (·.oneCell')=true:=all_oneCell_toArray (by
 intro v hv
 simp only[anL,List.mem_cons,List.not_mem_nil,or_false] at hv
 rcases hv with rfl|rfl|rfl|rfl|rfl|rfl|rfl<;>rfl)
def HeardN (w w':World)(e:Ending)(x:An)(n:Int):Prop:=∃ a c,e=.returned (.tuple #[.agg (anC x a c),.int .i64 n])/\Sees w' a c x.key/\Below w.heap.size w w'
theorem op_store_run {w w':World}{o:Oper}{a:Act}{K:Act->World->Prop}{Q:Exit->Act->World->Prop}(ty:TypeId)(x y:Operand)(ho:o.op=.store ty x y)(v u:Value)(hx:a.eval x=v)(hy:a.eval y=u)(hrun:(Instr.storeAt ty v u).run Tryz.prog w=.ok () w')(h:K (a.put o.dst undef) w'):Oper.wp Tryz.prog o a w K Q:=by
 unfold Oper.wp execOp
 simp only[ho,hx,hy,Sem.run_bind,hrun,Result.andThen_ok,Sem.run_pure]
 exact h
theorem Ec.heB_iff {s:Ec}{F:Fr}{now:Int}(h:s.heB F now=true):F.k=3/\F.t=s.i/\rightB F=true/\(0<=F.f/\F.f<s.c.n)/\timeB now=true/\F.key.length=16/\0<=F.m/\F.m<=1099511627776:=by
 simp only[Ec.heB,Bool.and_eq_true,decide_eq_true_eq] at h
 obtain⟨⟨⟨⟨h1,h2⟩,h3⟩,h4⟩,h5⟩:=h
 refine⟨h1,h2,h3,?_,h5,?_⟩
 ·have:=h3
  simp[rightB,coreB,numsB,inB] at this
  omega
 ·have:=h3
  simp[rightB,coreB,numsB,inB,h1] at this
  omega
end Go.Proofs.YtahnbljbhfpldaaGreatDoor
namespace Go.Proofs.YtahnbljbhfpldaaGreatDoor
set_option maxRecDepth 20000
set_option maxHeartbeats 1600000
open Go.ChangeShapes Go.WideShapes Go.ChangeAt Go.RowKit
theorem detime_ok (w:World)(t:Int):Calls Tryz.prog 35 #[.int .i64 t] w λe w'=>e=.returned (.bool (timeB t))/\w'=w:=by
 by_cases h0:0<=t
 ·by_cases h1:t<=1099511627776
  ·have hv:timeB t=true:=timeB_iff.2 ⟨h0,h1⟩
   rw[hv]
   go_enter Tryz.func35,Tryz.ntmps35
   go_wp2
   go_ret
   exact⟨by simp,rfl⟩
  ·have hv:timeB t=false:=by rw[Bool.eq_false_iff];intro hh;exact h1 (timeB_iff.1 hh).2
   rw[hv]
   go_enter Tryz.func35,Tryz.ntmps35
   go_wp2
   go_ret
   exact⟨by simp,rfl⟩
 ·have hv:timeB t=false:=by rw[Bool.eq_false_iff];intro hh;exact h0 (timeB_iff.1 hh).1
  rw[hv]
  go_enter Tryz.func35,Tryz.ntmps35
  go_wp2
  go_ret
  exact⟨by simp,rfl⟩
structure DAsked (w w':World)(R g:Nat)(s:Ec)(ma:Option Addr)(mc:Nat):Prop where
 all:DEAll w' R g s ma mc
 apart:Apart (λk=>k=R\/k=g) w w'
theorem deask_no (w:World)(R g:Nat)(s:Ec)(ma:Option Addr)(mc:Nat)(h:DEAll w R g s ma mc)(jj now:Int)(hE:s.askE jj now=1):
  Calls Tryz.prog 12 #[.pointer (some ⟨R,0,none⟩),.int .i64 jj,.int .i64 now] w λe w'=>e=.returned (.tuple #[.slice none 0 0,.int .i64 1])/\w'=w:=by
 have c0:=h.at'.cell 0 rfl
 have c11:=h.at'.cell 11 rfl
 have KT:=detime_ok w now
 have h':¬ (0<=jj/\jj<s.c.n/\jj≠s.i/\timeB now=true):=λhh=>by
  unfold Ec.askE at hE
  rw[if_pos hh] at hE
  split at hE<;>cases hE
 clear h hE
 by_cases h1:jj<0
 ·clear h' KT
  go_enter Tryz.func12,Tryz.ntmps12
  go_wp2
  go_ret2
  exact⟨rfl,rfl⟩
 ·by_cases h2:s.c.n<=jj
  ·clear h' KT
   go_enter Tryz.func12,Tryz.ntmps12
   go_wp2
   go_ret2
   exact⟨rfl,rfl⟩
  ·by_cases h3:jj=s.i
   ·have hq:(jj==s.i)=true:=by simp[h3]
    clear h' KT
    go_enter Tryz.func12,Tryz.ntmps12
    go_wp2
    go_ret2
    exact⟨rfl,rfl⟩
   ·have hq:(jj==s.i)=false:=by simp[h3]
    have h4:timeB now=false:=by
     rw[Bool.eq_false_iff];intro hh;exact h' ⟨by omega,by omega,h3,hh⟩
    rw[h4] at KT
    clear h' h3 h4
    go_enter Tryz.func12,Tryz.ntmps12
    go_wp2_with fail
    refine KT.mono ?_
    rintro e w1 ⟨rfl,rfl⟩
    go_wp2
    go_ret2
    exact⟨rfl,rfl⟩
theorem deask_full (w:World)(R g:Nat)(s:Ec)(ma:Option Addr)(mc:Nat)(h:DEAll w R g s ma mc)(jj now:Int)(hE:s.askE jj now=9):
  Calls Tryz.prog 12 #[.pointer (some ⟨R,0,none⟩),.int .i64 jj,.int .i64 now] w λe w'=>e=.returned (.tuple #[.slice none 0 0,.int .i64 9])/\w'=w:=by
 have c0:=h.at'.cell 0 rfl
 have c11:=h.at'.cell 11 rfl
 have c13:=h.at'.cell 13 rfl
 have KT:=detime_ok w now
 obtain⟨⟨h1,h2,h3,h4⟩,h5⟩:(0<=jj/\jj<s.c.n/\jj≠s.i/\timeB now=true)/\4294967295<=s.ct:=by
  unfold Ec.askE at hE
  split at hE
  ·rename_i hh
   split at hE
   ·rename_i h5;exact⟨hh,h5⟩
   ·cases hE
  ·cases hE
 have n1:¬ jj<0:=by omega
 have n2:¬ s.c.n<=jj:=by omega
 have hq:(jj==s.i)=false:=by simp[h3]
 have n5:(4294967295:Int)<=(s.ct:Int):=by omega
 rw[h4] at KT
 clear h hE h1 h2 h3 h4 h5
 go_enter Tryz.func12,Tryz.ntmps12
 go_wp2_with fail
 refine KT.mono ?_
 rintro e w1 ⟨rfl,rfl⟩
 go_wp2
 go_ret2
 exact⟨rfl,rfl⟩
end Go.Proofs.YtahnbljbhfpldaaGreatDoor
