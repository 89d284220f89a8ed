/-
  The program's New of a node that asks and answers.
-/
import Derived.Test.YtahnbljbhfpldaaGreatDoorPeA
namespace Go.Proofs.YtahnbljbhfpldaaGreatDoor
set_option maxRecDepth 20000
open Go.ChangeShapes Go.WideShapes Go.ChangeAt Go.RowKit
theorem pemade_ok (w:World)(R:Nat)(s:Ec)(ma:Option Addr)(mc:Nat)(h:PEAt w R s ma mc)(hm:s.ms.length=16):Calls Tryz.prog 31 #[.pointer (some ⟨R,0,none⟩)] w λe w'=>e=.returned (.bool true)/\w'=w:=by
 have c10:=h.cell 10 rfl
 rw[hm] at c10
 clear h hm
 go_enter Tryz.func31,Tryz.ntmps31
 go_wp2
 go_ret
 exact⟨by simp,rfl⟩
theorem petime_ok (w:World)(t:Int):Calls Tryz.prog 33 #[.int .i64 t] w λe w'=>e=.returned (.bool (timeB t))/\w'=w:=by
 by_cases h0:0<=t
 ·by_cases h1:t<=1099511627776
  ·have hv:timeB t=true:=timeB_iff.2 ⟨h0,h1⟩
   rw[hv]
   clear hv
   go_enter Tryz.func33,Tryz.ntmps33
   go_wp2
   go_ret
   exact⟨by simp,rfl⟩
  ·have hv:timeB t=false:=by rw[Bool.eq_false_iff];intro hh;exact h1 (timeB_iff.1 hh).2
   rw[hv]
   clear hv
   go_enter Tryz.func33,Tryz.ntmps33
   go_wp2
   go_ret
   exact⟨by simp,rfl⟩
 ·have hv:timeB t=false:=by rw[Bool.eq_false_iff];intro hh;exact h0 (timeB_iff.1 hh).1
  rw[hv]
  clear hv
  go_enter Tryz.func33,Tryz.ntmps33
  go_wp2
  go_ret
  exact⟨by simp,rfl⟩
def Ec.othB (s:Ec)(jj:Int):Bool:=decide (0<=jj/\jj<s.c.n/\jj≠s.i)
theorem Ec.othB_iff {s:Ec}{jj:Int}:s.othB jj=true↔0<=jj/\jj<s.c.n/\jj≠s.i:=by simp[Ec.othB]
theorem Ec.othB_no {s:Ec}{jj:Int}(h:¬ (0<=jj/\jj<s.c.n/\jj≠s.i)):s.othB jj=false:=decide_eq_false h
theorem peother_ok (w:World)(R:Nat)(s:Ec)(ma:Option Addr)(mc:Nat)(h:PEAt w R s ma mc)(jj:Int):Calls Tryz.prog 32 #[.pointer (some ⟨R,0,none⟩),.int .i64 jj] w λe w'=>e=.returned (.bool (s.othB jj))/\w'=w:=by
 have c0:=h.cell 0 rfl
 have c11:=h.cell 11 rfl
 clear h
 by_cases h0:0<=jj
 ·by_cases h1:jj<s.c.n
  ·by_cases h2:jj=s.i
   ·rw[Ec.othB_no (λhh=>hh.2.2 h2)]
    have hq:(jj != s.i)=false:=by simp[h2]
    clear h2
    go_enter Tryz.func32,Tryz.ntmps32
    go_wp2
    go_ret
    exact⟨by simp,rfl⟩
   ·rw[Ec.othB_iff.2 ⟨h0,h1,h2⟩]
    have hq:(jj != s.i)=true:=by simp[h2]
    clear h2
    go_enter Tryz.func32,Tryz.ntmps32
    go_wp2
    go_ret
    exact⟨by simp,rfl⟩
  ·rw[Ec.othB_no (λhh=>h1 hh.2.1)]
   go_enter Tryz.func32,Tryz.ntmps32
   go_wp2
   go_ret
   exact⟨by simp,rfl⟩
 ·rw[Ec.othB_no (λhh=>h0 hh.1)]
  go_enter Tryz.func32,Tryz.ntmps32
  go_wp2
  go_ret
  exact⟨by simp,rfl⟩
end Go.Proofs.YtahnbljbhfpldaaGreatDoor
namespace Go.Proofs.YtahnbljbhfpldaaGreatDoor
set_option maxRecDepth 20000
set_option maxHeartbeats 1600000
open Go.ChangeShapes Go.WideShapes Go.ChangeAt Go.RowKit
def U8Row (w:World)(a:Option Addr):Prop:=∀ b off,a=some ⟨b,off,none⟩->∃ cur fr,w.heap[b]?=some (.cells cur 5 fr)
theorem U8Row.below {w w':World}{a:Option Addr}(h:U8Row w a)(hb:Below w.heap.size w w'):U8Row w' a:=λb off e=>by
 obtain⟨cur,fr,hc⟩:=h b off e
 exact⟨cur,fr,(hb.block b (Array.getElem?_eq_some_iff.1 hc).1).trans hc⟩
theorem bclone_row (w:World)(x:Option Addr)(cx:Nat)(cs:List UInt8)(hx:Sees w x cx cs)(hb:cs.length<=140737488355328):
  Calls Tryz.prog 29 #[.slice x cs.length cx] w λe w'=>∃ d cd,e=.returned (.slice d cs.length cd)/\Sees w' d cd cs/\Below w.heap.size w w'/\U8Row w' d:=by
 cases x with
 | none =>
   have h0 := hx.bare rfl
   have h1 := hx.fits
   have : cs = [] := List.eq_nil_of_length_eq_zero (by omega)
   subst this
   subst h0
   have hq := Lib.run_eql_slice_nil (P := Tryz.prog) w 24 5 none 0 0 0 0 Tryz.underlying24
   clear hx
   simp only [List.length_nil]
   go_enter Tryz.func29, Tryz.ntmps29
   go_wp2
   go_ret
   exact ⟨none, 0, rfl, Sees.nil' _, Below.refl _ _, fun b off h => by cases h⟩
 | some ad =>
   have hb0 : Below w.heap.size w (w.alloc (.cells #[] 5)) := (Below.refl _ _).alloc (Nat.le_refl _) _
   obtain ⟨v', w', hrun, ho, hbl⟩ := append_own_any (w.alloc (.cells #[] 5)) w.heap.size _ [] (own_empty w) (some ad) cx cs (hx.below hb0) (by simpa using hb) (by simp)
   have HR : Hid ((Builtin.append_ #[24, 24] 24 #[.slice (some ⟨w.heap.size, 0, none⟩) 0 0, .slice (some ad) cs.length cx]).run Tryz.prog (w.alloc (.cells #[] 5)) = .ok v' w') := hrun
   obtain ⟨d, cd, rfl, hs⟩ := Sees.of_own ho
   have hrw : U8Row w' d := by
     intro b off hd
     rcases ho.2 with ⟨h, _⟩ | ⟨g, cap, cur, hv, _, hg, _⟩
     · simp only [Value.slice.injEq] at h
       rw [hd] at h
       cases h.1
     · simp only [Value.slice.injEq] at hv
       rw [hd] at hv
       have := hv.1
       simp only [Option.some.injEq, Addr.mk.injEq] at this
       rw [this.1]
       exact ⟨_, _, hg⟩
   have HE : Hid (Sees w' d cd cs ∧ Below w.heap.size w w' ∧ U8Row w' d) := ⟨hs, hbl _ _ hb0 (Nat.le_refl _), hrw⟩
   have hq := Lib.run_eql_slice_nil (P := Tryz.prog) w 24 5 (some ad) cs.length cx 0 0 Tryz.underlying24
   clear hrun hx ho hbl hs
   go_enter Tryz.func29, Tryz.ntmps29
   go_wp2_with (at_builtin; refine wpList_append_run rfl _ _ 24 rfl _ _ _ rfl rfl HR.out ?_)
   go_ret
   exact ⟨d, cd, by simp, HE.out⟩
theorem bclone_any (w:World)(x:Option Addr)(cx:Nat)(cs:List UInt8)(hx:Sees w x cx cs)(hb:cs.length<=140737488355328):
  Calls Tryz.prog 29 #[.slice x cs.length cx] w λe w'=>∃ d cd,e=.returned (.slice d cs.length cd)/\Sees w' d cd cs/\Below w.heap.size w w':=(bclone_row w x cx cs hx hb).mono λ_ _ ⟨d,cd,h1,h2,h3,_⟩=>⟨d,cd,h1,h2,h3⟩
theorem pexec_build {P:Program}{o:Oper}{a:Act}{w:World}(t:TypeId)(parts:Array (Nat×Operand))(ho:o.op=.build t parts)(vs:List (Nat×Value))(r:Value)(hp:parts.toList.map (λp=>(p.1,a.eval p.2))=vs)(hrun:(Instr.build t vs.toArray).run P w=.ok r w):(execOp a.eval o).run P w=.ok (.value r) w:=by
 have hq:parts.map (λp=>(p.1,a.eval p.2))=vs.toArray:=by rw[<-hp,<-Array.toList_map,Array.toArray_toList]
 unfold execOp
 simp only[ho,hq,Sem.run_bind,hrun,Result.andThen_ok,Sem.run_pure]
theorem pebuild (w:World)(c:Cf)(a:Option Addr)(ca:Nat)(ms:List UInt8)(i inc:Int)(hn:c.n.toNat<=8):(Instr.build 82 #[(0,.agg (cfC c)),(1,.slice a ms.length ca),(2,.int .i64 i),(3,.int .i64 inc)]).run Tryz.prog w=.ok (.agg (peL (ecNew c ms i inc) a ca).toArray) w:=by
 have e:peL (ecNew c ms i inc) a ca=peH (ecNew c ms i inc) a ca++pwF (List.replicate 8 none):=by
  show peH (ecNew c ms i inc) a ca++pwF (pad8 (List.replicate c.n.toNat none))=_
  rw[pad8_none hn]
 rw[e]
 exact run_build w 82 _ _ (by kernel_rfl)
theorem penew_no (w:World)(c:Cf)(a:Option Addr)(ca:Nat)(ms:List UInt8)(i inc:Int)(h:ecB c ms i inc=false):Calls Tryz.prog 8 #[.agg (cfC c),.slice a ms.length ca,.int .i64 i,.int .i64 inc] w λe w'=>e=.returned (.tuple #[.pointer none,.int .i64 1])/\Below w.heap.size w w':=by
 have HL:Hid ((Instr.loadAt 23 (.pointer (some ⟨w.heap.size,0,none⟩))).run Tryz.prog (w.alloc (.cells (cfC c) 23))=.ok (.agg (cfC c)) (w.alloc (.cells (cfC c) 23))):=(CfAt.new w c).loads
 have K1:=scheck_ok (w.alloc (.cells (cfC c) 23)) c
 have H0:Hid (Below w.heap.size w (w.alloc (.cells (cfC c) 23))):=(Below.refl _ _).alloc (Nat.le_refl _) _
 have c0:(w.alloc (.cells (cfC c) 23)).cell? ⟨w.heap.size,0,none⟩=some (.int .i64 c.n):=(CfAt.new w c).c0
 have C0:Hid (CfAt (w.alloc (.cells (cfC c) 23)) w.heap.size c):=CfAt.new w c
 have h':¬ (okB c=true/\0<=i/\i<c.n/\0<=inc/\inc<=65535/\ms.length=16):=λhh=>by rw[ecB_iff.2 hh] at h;cases h
 obtain⟨n,hn⟩:∃ n,n=ms.length:=⟨_,rfl⟩
 rw[<-hn] at h' ⊢
 clear h hn
 go_enter Tryz.func8,Tryz.ntmps8
 go_upto_region 1 with fail
 generalize hW:w.alloc (Obj.cells (cfC c) 23)=W at *
 go_wp2_with (first|(refine wpList_gload_run rfl 23 _ rfl _ _ rfl HL.out ?_)|fail)
 refine K1.mono ?_
 rintro e w1 ⟨rfl,hb1⟩
 have H1:Hid (Below w.heap.size w w1):=H0.out.trans (hb1.mono H0.out.size)
 have c1:=(C0.out.below hb1).c0
 clear K1 hb1 c0 C0 HL H0
 by_cases h1:okB c=true
 ·rw[if_pos h1]
  by_cases h2:i<0
  ·clear h'
   go_wp2
   go_ret2
   exact⟨rfl,H1.out⟩
  ·by_cases h3:c.n<=i
   ·clear h'
    go_wp2
    go_ret2
    exact⟨rfl,H1.out⟩
   ·by_cases h4:inc<0
    ·clear h'
     go_wp2
     go_ret2
     exact⟨rfl,H1.out⟩
    ·by_cases h5:65535<inc
     ·clear h'
      go_wp2
      go_ret2
      exact⟨rfl,H1.out⟩
     ·have h6:((n:Int) != 16)=true:=by
       have:¬ n=16:=λe=>h' ⟨h1,by omega,by omega,by omega,by omega,e⟩
       simp;omega
      clear h'
      go_wp2
      go_ret2
      exact⟨rfl,H1.out⟩
 ·rw[if_neg h1]
  clear h' h1
  go_wp2
  go_ret2
  exact⟨rfl,H1.out⟩
theorem penew_row (w:World)(c:Cf)(a:Option Addr)(ca:Nat)(ms:List UInt8)(i inc:Int)(ha:Sees w a ca ms)(h:ecB c ms i inc=true):Calls Tryz.prog 8 #[.agg (cfC c),.slice a ms.length ca,.int .i64 i,.int .i64 inc] w λe w'=>∃ R d cd,e=.returned (.tuple #[.pointer (some ⟨R,0,none⟩),.int .i64 0])/\w.heap.size<=R/\PEAll w' R (ecNew c ms i inc) d cd/\Below w.heap.size w w'/\U8Row w' d:=by
 obtain⟨r1,r2,r3,r4,r5,r6⟩:=ecB_iff.1 h
 obtain⟨N,hN⟩:∃ N:Int,N=c.n:=⟨_,rfl⟩
 have hN8:c.n.toNat<=8:=by have:=(right_of r1).n1;omega
 have HL:Hid ((Instr.loadAt 23 (.pointer (some ⟨w.heap.size,0,none⟩))).run Tryz.prog (w.alloc (.cells (cfC c) 23))=.ok (.agg (cfC c)) (w.alloc (.cells (cfC c) 23))):=(CfAt.new w c).loads
 have K1:=scheck_ok (w.alloc (.cells (cfC c) 23)) c
 rw[if_pos r1] at K1
 have H0:Hid (Below w.heap.size w (w.alloc (.cells (cfC c) 23))):=(Below.refl _ _).alloc (Nat.le_refl _) _
 have C0:Hid (CfAt (w.alloc (.cells (cfC c) 23)) w.heap.size c):=CfAt.new w c
 have HB:Hid (∀ V d cd,(Instr.build 82 #[(0,.agg (cfC c)),(1,.slice d 16 cd),(2,.int .i64 i),(3,.int .i64 inc)]).run Tryz.prog V=.ok (.agg (peL (ecNew c ms i inc) d cd).toArray) V):=λV d cd=>by rw[<-r6];exact pebuild V c d cd ms i inc hN8
 have HS:Hid (Sees w a ca ms/\ms.length=16/\N=c.n):=⟨ha,r6,hN⟩
 have g0:¬ (i<0):=by omega
 have g1:¬ (N<=i):=by omega
 have g2:¬ (inc<0):=by omega
 have g3:¬ (65535<inc):=by omega
 rw[r6]
 clear ha h r1 r2 r3 r4 r5 r6 hN hN8
 go_enter Tryz.func8,Tryz.ntmps8
 go_upto_region 1 with fail
 generalize hW:w.alloc (Obj.cells (cfC c) 23)=W at *
 go_wp2_with (first|(refine wpList_gload_run rfl 23 _ rfl _ _ rfl HL.out ?_)|fail)
 refine K1.mono ?_
 rintro e w1 ⟨rfl,hb1⟩
 have H1:Hid (Below w.heap.size w w1):=H0.out.trans (hb1.mono H0.out.size)
 have C1:Hid (CfAt w1 w.heap.size c):=C0.out.below hb1
 have c1:=C1.out.c0
 rw[<-HS.out.2.2] at c1
 clear K1 hb1 C0 HL H0 hW
 have HQ:Hid (∀ V,Below w1.heap.size w1 V->(Instr.loadAt 23 (.pointer (some ⟨w.heap.size,0,none⟩))).run Tryz.prog V=.ok (.agg (cfC c)) V):=λV hV=>(C1.out.below hV).loads
 have hS0:=HQ.out w1.drew (Below.refl _ _).drew
 have KB:Calls Tryz.prog 29 #[.slice a 16 ca] w1.drew λe w'=>∃ d cd,e=.returned (.slice d 16 cd)/\Sees w' d cd ms/\Below w1.drew.heap.size w1.drew w'/\U8Row w' d:=by
  have:=bclone_row w1.drew a ca ms ((HS.out.1.below H1.out).below (Below.refl _ _).drew) (by rw[HS.out.2.1];omega)
  rw[HS.out.2.1] at this
  exact this
 go_upto_region 3 with fail
 refine wp_region_noPanic ?_
 refine wp_region_held (S:=λV=>(Instr.loadAt 23 (.pointer (some ⟨w.heap.size,0,none⟩))).run Tryz.prog V=.ok (.agg (cfC c)) V) (by kernel_rfl) ?_
 have hS:=hS0
 refine tk 0 (v:=Value.agg (cfC c)) (hv:=λW hW=>exec_load 23 (.tmp 4) rfl _ _ rfl hW) hS ?_
 refine tk 1 hS ?_
 refine tk 3 hS ?_
 refine tk 4 hS ?_
 refine any_one 2 rfl (by kernel_rfl) (by rfl) (λK hK=>?_)
 clear hS
 go_simp
 refine KB.mono ?_
 rintro ev wm ⟨d,cd,rfl,hsm,hbm,hrw⟩
 have hbm2:Below w1.heap.size w1 wm:=(Below.refl w1.heap.size w1).drew.trans hbm
 have hQ2:=HQ.out wm hbm2
 clear hbm KB
 refine hK.out _ _ (hQ2) (λhS=>?_)
 clear hK
 (try simp only[Act.put,sT])
 refine tk 5 (v:=Value.agg (peL (ecNew c ms i inc) d cd).toArray) (hv:=λW _=>pexec_build 82 _ rfl [(0,.agg (cfC c)),(1,.slice d 16 cd),(2,.int .i64 i),(3,.int .i64 inc)] _ rfl (HB.out W d cd)) hS ?_
 refine any_one 6 rfl (by kernel_rfl) (by rfl) (λK hK=>?_)
 clear hS
 go_simp
 obtain⟨W3,hW3⟩:∃ W3,W3=wm.alloc (.cells (peL (ecNew c ms i inc) d cd).toArray 82):=⟨_,rfl⟩
 have hb3:Below wm.heap.size wm W3:=by rw[hW3];exact(Below.refl _ _).alloc (Nat.le_refl _) _
 have hb13:Below w1.heap.size w1 W3:=hbm2.trans (hb3.mono hbm2.size)
 have hfin:w.heap.size<=wm.heap.size/\PEAll W3 wm.heap.size (ecNew c ms i inc) d cd/\Below w.heap.size w W3/\U8Row W3 d:=by
  have hz:=H1.out.size
  have hz2:=hbm2.size
  refine⟨by omega,⟨?_,hsm.below hb3⟩,H1.out.trans (hb13.mono hz),hrw.below hb3⟩
  rw[hW3];exact heap_alloc_new _ _
 rw[<-hW3]
 have hQ3:=HQ.out W3 hb13
 clear hW3 hb3 hb13 hsm hbm2 hrw
 refine hK.out _ _ (hQ3) (λhS=>?_)
 clear hK
 (try simp only[Act.put,sT])
 refine tk 7 hS ?_
 refine tk 8 hS ?_
 refine wpAnyH_done (by kernel_rfl) ?_ _
 refine NoPanic.normal ?_
 clear hS hS0 HQ hQ2 hQ3
 have HE:Hid (w.heap.size<=wm.heap.size/\PEAll W3 wm.heap.size (ecNew c ms i inc) d cd/\Below w.heap.size w W3/\U8Row W3 d):=hfin
 clear hfin
 go_wp2
 go_ret2
 exact⟨_,_,_,rfl,HE.out⟩
end Go.Proofs.YtahnbljbhfpldaaGreatDoor
