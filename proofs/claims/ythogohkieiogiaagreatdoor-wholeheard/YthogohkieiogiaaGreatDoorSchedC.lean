/-
  The contract of Check.
  The contracts of Round, Keep, Quiet, isNode, isTime, begin, upwards, Patience and of the statements' awake.
  The contracts of isNode, isTime, begin, upwards, Patience and of the statements' awake.
  The contracts of At, Speak and Next.
  The contract of Place.
-/
import Derived.Test.YthogohkieiogiaaGreatDoorSchedA
namespace Go.Proofs.YthogohkieiogiaaGreatDoor
set_option maxRecDepth 20000
set_option maxHeartbeats 1600000
open Go.ChangeShapes Go.WideShapes Go.ChangeAt Go.RowKit
structure Cfg (w:World)(g:Nat)(c:Cf)(W:World):Prop where
 own:CfAt W g c
 le:w.heap.size<=g
 bel:Below w.heap.size w W
theorem Cfg.new (w:World)(c:Cf):Cfg w w.heap.size c (w.alloc (.cells (cfC c) 24)):=⟨CfAt.new w c,Nat.le_refl _,Go.Joins.below_alloc1 _ _⟩
theorem Cfg.drew {w W:World}{g:Nat}{c:Cf}(h:Cfg w g c W):Cfg w g c W.drew:=⟨h.own,h.le,h.bel.drew⟩
theorem Cfg.step {w W V:World}{g:Nat}{c:Cf}(h:Cfg w g c W)(hb:Below W.heap.size W V):Cfg w g c V:=⟨h.own.below hb,h.le,h.bel.trans (hb.mono h.bel.size)⟩
theorem Cfg.held {w W:World}{g:Nat}{c:Cf}(h:Cfg w g c W):(W.cell? ⟨g,0,none⟩=some (.int .i64 c.n)/\W.cell? ⟨g,1,none⟩=some (.int .i64 c.f)/\W.cell? ⟨g,2,none⟩=some (.int .i64 c.s)/\W.cell? ⟨g,3,none⟩=some (.int .i64 c.d)/\W.cell? ⟨g,4,none⟩=some (.int .i64 c.k)/\W.cell? ⟨g,5,none⟩=some (.int .i64 c.e)/\W.cell? ⟨g,6,none⟩=some (.int .i64 c.v)/\W.cell? ⟨g,7,none⟩=some (.int .i64 c.r)/\W.cell? ⟨g,8,none⟩=some (.int .i64 c.l)/\W.cell? ⟨g,9,none⟩=some (.int .i64 c.p))/\Cfg w g c W:=
 ⟨⟨h.own.c0,h.own.c1,h.own.c2,h.own.c3,h.own.c4,h.own.c5,h.own.c6,h.own.c7,h.own.c8,h.own.c9⟩,h⟩
theorem scheck_ok (w:World)(c:Cf):Calls Tryz.prog 20 #[.agg (cfC c)] w λe w'=>e=.returned (.int .i64 (if okB c=true then 0 else 1))/\Below w.heap.size w w':=by
 have K1:Hid (∀ W,Calls Tryz.prog 51 #[.agg (cfC c)] W λe w'=>e=.returned (.agg (cfC (bNodes c)))/\Below W.heap.size W w'):=λW=>bnodes_ok W c
 have n1:∀ W,(binOp .neq 24 (.agg #[.int .i64 c.n,.int .i64 c.f,.int .i64 c.s,.int .i64 c.d,.int .i64 c.k,.int .i64 c.e,.int .i64 c.v,.int .i64 c.r,.int .i64 c.l,.int .i64 c.p]) (.agg (cfC (bNodes c)))).run Tryz.prog W=.ok (.bool (!nodesB c)) W:=λW=>by rw[<-same_nodes];exact neqCf c (bNodes c) W
 have K2:Hid (∀ W,Calls Tryz.prog 52 #[.agg (cfC c)] W λe w'=>e=.returned (.agg (cfC (bSlots c)))/\Below W.heap.size W w'):=λW=>bslots_ok W c
 have n2:∀ W,(binOp .neq 24 (.agg #[.int .i64 c.n,.int .i64 c.f,.int .i64 c.s,.int .i64 c.d,.int .i64 c.k,.int .i64 c.e,.int .i64 c.v,.int .i64 c.r,.int .i64 c.l,.int .i64 c.p]) (.agg (cfC (bSlots c)))).run Tryz.prog W=.ok (.bool (!slotsB c)) W:=λW=>by rw[<-same_slots];exact neqCf c (bSlots c) W
 have K3:Hid (∀ W,Calls Tryz.prog 53 #[.agg (cfC c)] W λe w'=>e=.returned (.agg (cfC (bKeys c)))/\Below W.heap.size W w'):=λW=>bkeys_ok W c
 have n3:∀ W,(binOp .neq 24 (.agg #[.int .i64 c.n,.int .i64 c.f,.int .i64 c.s,.int .i64 c.d,.int .i64 c.k,.int .i64 c.e,.int .i64 c.v,.int .i64 c.r,.int .i64 c.l,.int .i64 c.p]) (.agg (cfC (bKeys c)))).run Tryz.prog W=.ok (.bool (!keysB c)) W:=λW=>by rw[<-same_keys];exact neqCf c (bKeys c) W
 have K4:Hid (∀ W,Calls Tryz.prog 54 #[.agg (cfC c)] W λe w'=>e=.returned (.agg (cfC (bClocks c)))/\Below W.heap.size W w'):=λW=>bclocks_ok W c
 have n4:∀ W,(binOp .neq 24 (.agg #[.int .i64 c.n,.int .i64 c.f,.int .i64 c.s,.int .i64 c.d,.int .i64 c.k,.int .i64 c.e,.int .i64 c.v,.int .i64 c.r,.int .i64 c.l,.int .i64 c.p]) (.agg (cfC (bClocks c)))).run Tryz.prog W=.ok (.bool (!clocksB c)) W:=λW=>by rw[<-same_clocks];exact neqCf c (bClocks c) W
 have H0:Hid (Cfg w w.heap.size c (w.alloc (.cells (cfC c) 24))):=Cfg.new w c
 unfold okB
 generalize nodesB c=b1 at *
 generalize bNodes c=c1 at *
 generalize slotsB c=b2 at *
 generalize bSlots c=c2 at *
 generalize keysB c=b3 at *
 generalize bKeys c=c3 at *
 generalize clocksB c=b4 at *
 generalize bClocks c=c4 at *
 go_enter Tryz.func20,Tryz.ntmps20
 go_upto_region 1 with fail
 generalize hg:w.heap.size=g at *
 generalize w.alloc (.cells (cfC c) 24)=W at *
 have HG:Hid (w.heap.size=g):=hg
 clear hg
 go_region_held3 (λV=>(V.cell? ⟨g,0,none⟩=some (.int .i64 c.n)/\V.cell? ⟨g,1,none⟩=some (.int .i64 c.f)/\V.cell? ⟨g,2,none⟩=some (.int .i64 c.s)/\V.cell? ⟨g,3,none⟩=some (.int .i64 c.d)/\V.cell? ⟨g,4,none⟩=some (.int .i64 c.k)/\V.cell? ⟨g,5,none⟩=some (.int .i64 c.e)/\V.cell? ⟨g,6,none⟩=some (.int .i64 c.v)/\V.cell? ⟨g,7,none⟩=some (.int .i64 c.r)/\V.cell? ⟨g,8,none⟩=some (.int .i64 c.l)/\V.cell? ⟨g,9,none⟩=some (.int .i64 c.p))/\Cfg w g c V)
   (first|exact H0.out.held|assumption|exact(Cfg.drew (And.right (by assumption))).held|exact H0.out.drew.held)
   (first|(go_at_call 51;refine(K1.out _).mono ?_;rintro e w1 ⟨rfl,hb⟩;replace hb:=(Cfg.step (And.right (by assumption)) hb).held))
 rename_i hh1
 have H1:Hid (Cfg w g c w1):=hh1.2
 clear hh1 hb H0 K1 n1
 cases b1
 case false=>
  go_wp2
  go_ret
  exact⟨by simp,HG.out▸H1.out.bel⟩
 go_upto_region 2 with fail
 go_region_held3 (λV=>(V.cell? ⟨g,0,none⟩=some (.int .i64 c.n)/\V.cell? ⟨g,1,none⟩=some (.int .i64 c.f)/\V.cell? ⟨g,2,none⟩=some (.int .i64 c.s)/\V.cell? ⟨g,3,none⟩=some (.int .i64 c.d)/\V.cell? ⟨g,4,none⟩=some (.int .i64 c.k)/\V.cell? ⟨g,5,none⟩=some (.int .i64 c.e)/\V.cell? ⟨g,6,none⟩=some (.int .i64 c.v)/\V.cell? ⟨g,7,none⟩=some (.int .i64 c.r)/\V.cell? ⟨g,8,none⟩=some (.int .i64 c.l)/\V.cell? ⟨g,9,none⟩=some (.int .i64 c.p))/\Cfg w g c V)
   (first|exact H1.out.held|assumption|exact(Cfg.drew (And.right (by assumption))).held|exact H1.out.drew.held)
   (first|(go_at_call 52;refine(K2.out _).mono ?_;rintro e w2 ⟨rfl,hb⟩;replace hb:=(Cfg.step (And.right (by assumption)) hb).held))
 rename_i hh2
 have H2:Hid (Cfg w g c w2):=hh2.2
 clear hh2 hb H1 K2 n2
 cases b2
 case false=>
  go_wp2
  go_ret
  exact⟨by simp,HG.out▸H2.out.bel⟩
 go_upto_region 3 with fail
 go_region_held3 (λV=>(V.cell? ⟨g,0,none⟩=some (.int .i64 c.n)/\V.cell? ⟨g,1,none⟩=some (.int .i64 c.f)/\V.cell? ⟨g,2,none⟩=some (.int .i64 c.s)/\V.cell? ⟨g,3,none⟩=some (.int .i64 c.d)/\V.cell? ⟨g,4,none⟩=some (.int .i64 c.k)/\V.cell? ⟨g,5,none⟩=some (.int .i64 c.e)/\V.cell? ⟨g,6,none⟩=some (.int .i64 c.v)/\V.cell? ⟨g,7,none⟩=some (.int .i64 c.r)/\V.cell? ⟨g,8,none⟩=some (.int .i64 c.l)/\V.cell? ⟨g,9,none⟩=some (.int .i64 c.p))/\Cfg w g c V)
   (first|exact H2.out.held|assumption|exact(Cfg.drew (And.right (by assumption))).held|exact H2.out.drew.held)
   (first|(go_at_call 53;refine(K3.out _).mono ?_;rintro e w3 ⟨rfl,hb⟩;replace hb:=(Cfg.step (And.right (by assumption)) hb).held))
 rename_i hh3
 have H3:Hid (Cfg w g c w3):=hh3.2
 clear hh3 hb H2 K3 n3
 cases b3
 case false=>
  go_wp2
  go_ret
  exact⟨by simp,HG.out▸H3.out.bel⟩
 go_upto_region 4 with fail
 go_region_held3 (λV=>(V.cell? ⟨g,0,none⟩=some (.int .i64 c.n)/\V.cell? ⟨g,1,none⟩=some (.int .i64 c.f)/\V.cell? ⟨g,2,none⟩=some (.int .i64 c.s)/\V.cell? ⟨g,3,none⟩=some (.int .i64 c.d)/\V.cell? ⟨g,4,none⟩=some (.int .i64 c.k)/\V.cell? ⟨g,5,none⟩=some (.int .i64 c.e)/\V.cell? ⟨g,6,none⟩=some (.int .i64 c.v)/\V.cell? ⟨g,7,none⟩=some (.int .i64 c.r)/\V.cell? ⟨g,8,none⟩=some (.int .i64 c.l)/\V.cell? ⟨g,9,none⟩=some (.int .i64 c.p))/\Cfg w g c V)
   (first|exact H3.out.held|assumption|exact(Cfg.drew (And.right (by assumption))).held|exact H3.out.drew.held)
   (first|(go_at_call 54;refine(K4.out _).mono ?_;rintro e w4 ⟨rfl,hb⟩;replace hb:=(Cfg.step (And.right (by assumption)) hb).held))
 rename_i hh4
 have H4:Hid (Cfg w g c w4):=hh4.2
 clear hh4 hb H3 K4 n4
 cases b4
 case false=>
  go_wp2
  go_ret
  exact⟨by simp,HG.out▸H4.out.bel⟩
 go_wp2
 go_ret
 exact⟨by simp,HG.out▸H4.out.bel⟩
theorem wrap_in {x:Int}(h0 : -9223372036854775808<=x)(h1:x<=9223372036854775807):IntKind.i64.wrap x=x:=by rw[IntKind.wrap_i64];omega
theorem round_ok (w:World)(c:Cf):Calls Tryz.prog 180 #[.agg (cfC c)] w λe w'=>e=.returned (.int .i64 (rndN c))/\Below w.heap.size w w':=by
 have HL:Hid ((Instr.loadAt 24 (.pointer (some ⟨w.heap.size,0,none⟩))).run Tryz.prog (w.alloc (.cells (cfC c) 24))=.ok (.agg (cfC c)) (w.alloc (.cells (cfC c) 24))):=(CfAt.new w c).loads
 have K1:=scheck_ok (w.alloc (.cells (cfC c) 24)) c
 have H0:Hid (Cfg w w.heap.size c (w.alloc (.cells (cfC c) 24))):=Cfg.new w c
 cases ho:okB c
 ·rw[ho,if_neg Bool.false_ne_true] at K1
  rw[show rndN c=0 by simp[rndN,ho]]
  clear ho
  go_enter Tryz.func180,Tryz.ntmps180
  go_wp2_with (first|(refine wpList_gload_run rfl 24 _ rfl _ _ rfl HL.out ?_)|fail)
  refine K1.mono ?_
  rintro e w1 ⟨rfl,hb⟩
  have H1:Hid (Cfg w w.heap.size c w1):=H0.out.step hb
  clear K1 HL H0 hb
  go_wp2
  go_ret
  exact⟨rfl,H1.out.bel⟩
 ·rw[ho,if_pos rfl] at K1
  have hr:=rnd_in ho
  obtain⟨R,hR⟩:∃ R,R=rndN c:=⟨_,rfl⟩
  rw[<-hR] at hr ⊢
  have e1:IntKind.i64.wrap (c.n*c.s)=R:=by rw[<-rnd_right ho,<-hR];exact wrap_in (by omega) (by omega)
  clear ho hr hR
  go_enter Tryz.func180,Tryz.ntmps180
  go_wp2_with (first|(refine wpList_gload_run rfl 24 _ rfl _ _ rfl HL.out ?_)|fail)
  refine K1.mono ?_
  rintro e w1 ⟨rfl,hb⟩
  have H1:Hid (Cfg w w.heap.size c w1):=H0.out.step hb
  have p0:=H1.out.own.c0
  have p2:=H1.out.own.c2
  clear K1 HL H0 hb
  go_wp2
  go_ret
  exact⟨rfl,H1.out.bel⟩
theorem isnode_ok (w:World)(c:Cf)(i:Int):Calls Tryz.prog 179 #[.agg (cfC c),.int .i64 i] w λe w'=>e=.returned (.bool (nodeB c i))/\Below w.heap.size w w':=by
 have HL:Hid ((Instr.loadAt 24 (.pointer (some ⟨w.heap.size,0,none⟩))).run Tryz.prog (w.alloc (.cells (cfC c) 24))=.ok (.agg (cfC c)) (w.alloc (.cells (cfC c) 24))):=(CfAt.new w c).loads
 have K1:=scheck_ok (w.alloc (.cells (cfC c) 24)) c
 have H0:Hid (Cfg w w.heap.size c (w.alloc (.cells (cfC c) 24))):=Cfg.new w c
 cases ho:okB c
 ·rw[ho,if_neg Bool.false_ne_true] at K1
  rw[show nodeB c i=false by simp[nodeB,ho]]
  clear ho
  go_enter Tryz.func179,Tryz.ntmps179
  go_wp2_with (first|(refine wpList_gload_run rfl 24 _ rfl _ _ rfl HL.out ?_)|fail)
  refine K1.mono ?_
  rintro e w1 ⟨rfl,hb⟩
  have H1:Hid (Cfg w w.heap.size c w1):=H0.out.step hb
  clear K1 HL H0 hb
  go_wp2
  go_ret
  exact⟨rfl,H1.out.bel⟩
 ·rw[ho,if_pos rfl] at K1
  by_cases h0:0<=i
  ·have hN:nodeB c i=decide (i<c.n):=by simp[nodeB,ho,h0]
   rw[hN]
   clear hN
   by_cases h1:i<c.n
   all_goals
    simp only[h1,decide_true,decide_false]
    clear ho
    go_enter Tryz.func179,Tryz.ntmps179
    go_wp2_with (first|(refine wpList_gload_run rfl 24 _ rfl _ _ rfl HL.out ?_)|fail)
    refine K1.mono ?_
    rintro e w1 ⟨rfl,hb⟩
    have H1:Hid (Cfg w w.heap.size c w1):=H0.out.step hb
    have p0:=H1.out.own.c0
    clear K1 HL H0 hb
    go_wp2
    go_ret
    exact⟨by first|rfl|(simp;done)|(simp;omega),H1.out.bel⟩
  ·rw[show nodeB c i=false by simp[nodeB,h0]]
   clear ho
   go_enter Tryz.func179,Tryz.ntmps179
   go_wp2_with (first|(refine wpList_gload_run rfl 24 _ rfl _ _ rfl HL.out ?_)|fail)
   refine K1.mono ?_
   rintro e w1 ⟨rfl,hb⟩
   have H1:Hid (Cfg w w.heap.size c w1):=H0.out.step hb
   clear K1 HL H0 hb
   go_wp2
   go_ret
   exact⟨by first|rfl|(simp;done)|(simp;omega),H1.out.bel⟩
theorem istime_ok (w:World)(t:Int):Calls Tryz.prog 182 #[.int .i64 t] w λe w'=>e=.returned (.bool (timeB t))/\w'=w:=by
 by_cases h0:0<=t
 ·have hN:timeB t=decide (t<=1099511627776):=by simp[timeB,h0]
  rw[hN]
  clear hN
  by_cases h1:t<=1099511627776
  all_goals
   simp only[h1,decide_true,decide_false]
   go_enter Tryz.func182,Tryz.ntmps182
   go_wp2
   go_ret
   exact⟨by first|rfl|(simp;done)|(simp;omega),rfl⟩
 ·rw[show timeB t=false by simp[timeB,h0]]
  go_enter Tryz.func182,Tryz.ntmps182
  go_wp2
  go_ret
  exact⟨by first|rfl|(simp;done)|(simp;omega),rfl⟩
theorem begin_ok (w:World)(c:Cf)(i u:Int)(e1:IntKind.i64.wrap (i*c.s)=u):Calls Tryz.prog 181 #[.agg (cfC c),.int .i64 i] w λe w'=>e=.returned (.int .i64 u)/\Below w.heap.size w w':=by
 have H0:Hid (Cfg w w.heap.size c (w.alloc (.cells (cfC c) 24))):=Cfg.new w c
 have p2:=H0.out.own.c2
 go_enter Tryz.func181,Tryz.ntmps181
 go_wp2
 go_ret
 exact⟨rfl,H0.out.bel⟩
def atV (c:Cf)(r s:Int):Value:=if cellB c r s=true then .tuple #[.int .i64 (atN c r s),.int .i64 0] else .tuple #[.int .i64 0,.int .i64 1]
theorem at_ok (w:World)(c:Cf)(r s:Int):Calls Tryz.prog 156 #[.agg (cfC c),.int .i64 r,.int .i64 s] w λe w'=>e=.returned (atV c r s)/\Below w.heap.size w w':=by
 have K1:=isnode_ok (w.alloc (.cells (cfC c) 24)) c s
 have H0:Hid (Cfg w w.heap.size c (w.alloc (.cells (cfC c) 24))):=Cfg.new w c
 by_cases h0:0<=r
 case neg=>
  rw[atV,if_neg (by simp[cellB,h0])]
  clear K1
  go_enter Tryz.func156,Tryz.ntmps156
  go_wp2
  go_ret2
  exact⟨rfl,H0.out.bel⟩
 by_cases h1:r<1048576
 case neg=>
  rw[atV,if_neg (by simp[cellB,h1])]
  clear K1
  go_enter Tryz.func156,Tryz.ntmps156
  go_wp2
  go_ret2
  exact⟨rfl,H0.out.bel⟩
 cases hn:nodeB c s
 ·rw[hn] at K1
  rw[atV,if_neg (by simp[cellB,hn])]
  clear hn
  go_enter Tryz.func156,Tryz.ntmps156
  obtain⟨p0,p1,p2,p3,p4,p5,p6,p7,p8,p9⟩:=H0.out.held.1
  go_wp2_with fail
  refine K1.mono ?_
  rintro e w1 ⟨rfl,hb⟩
  have H1:Hid (Cfg w w.heap.size c w1):=H0.out.step hb
  clear K1 H0 hb p0 p1 p2 p3 p4 p5 p6 p7 p8 p9
  go_wp2
  go_ret2
  exact⟨rfl,H1.out.bel⟩
 ·rw[hn] at K1
  have hc:cellB c r s=true:=by simp[cellB,hn,h0,h1]
  rw[atV,if_pos hc]
  obtain⟨b1,b2,b3,b4,b5,b6,b7,b8⟩:=at_in hc
  have K2:Hid (∀ W,Calls Tryz.prog 180 #[.agg (cfC c)] W λe w'=>e=.returned (.int .i64 (rndN c))/\Below W.heap.size W w'):=λW=>round_ok W c
  obtain⟨u,hu⟩:∃ u,u=s*c.s:=⟨_,rfl⟩
  obtain⟨x,hx⟩:∃ x,x=r*rndN c:=⟨_,rfl⟩
  obtain⟨T,hT⟩:∃ T,T=atN c r s:=⟨_,rfl⟩
  have K3:Hid (∀ W,Calls Tryz.prog 181 #[.agg (cfC c),.int .i64 s] W λe w'=>e=.returned (.int .i64 u)/\Below W.heap.size W w'):=λW=>begin_ok W c s u (by rw[hu];exact wrap_in (by omega) (by omega))
  have K4:Hid (∀ W,Calls Tryz.prog 182 #[.int .i64 T] W λe w'=>e=.returned (.bool true)/\w'=W):=λW=>by
   have:=istime_ok W T
   rw[show timeB T=true by rw[hT];simp only[timeB,decide_eq_true_eq];omega] at this
   exact this
  have e1:IntKind.i64.wrap (r*rndN c)=x:=by rw[hx];exact wrap_in (by omega) (by omega)
  have e2:IntKind.i64.wrap (x+u)=T:=by rw[hx,hu,hT];exact wrap_in (by unfold atN at b5;omega) (by unfold atN at b6;omega)
  rw[<-hT]
  clear hu hx hT b1 b2 b3 b4 b5 b6 b7 b8 hc hn
  generalize rndN c=R at *
  go_enter Tryz.func156,Tryz.ntmps156
  obtain⟨p0,p1,p2,p3,p4,p5,p6,p7,p8,p9⟩:=H0.out.held.1
  go_wp2_with fail
  refine K1.mono ?_
  rintro e w1 ⟨rfl,hb⟩
  have H1:Hid (Cfg w w.heap.size c w1):=H0.out.step hb
  clear K1 H0 hb p0 p1 p2 p3 p4 p5 p6 p7 p8 p9
  go_upto_region 3 with fail
  clear h0 h1
  generalize hg:w.heap.size=g at *
  have HG:Hid (w.heap.size=g):=hg
  clear hg
  go_region_held3 (λV=>(V.cell? ⟨g,0,none⟩=some (.int .i64 c.n)/\V.cell? ⟨g,1,none⟩=some (.int .i64 c.f)/\V.cell? ⟨g,2,none⟩=some (.int .i64 c.s)/\V.cell? ⟨g,3,none⟩=some (.int .i64 c.d)/\V.cell? ⟨g,4,none⟩=some (.int .i64 c.k)/\V.cell? ⟨g,5,none⟩=some (.int .i64 c.e)/\V.cell? ⟨g,6,none⟩=some (.int .i64 c.v)/\V.cell? ⟨g,7,none⟩=some (.int .i64 c.r)/\V.cell? ⟨g,8,none⟩=some (.int .i64 c.l)/\V.cell? ⟨g,9,none⟩=some (.int .i64 c.p))/\Cfg w g c V)
   (first|exact H1.out.held|assumption|exact(Cfg.drew (And.right (by assumption))).held|exact H1.out.drew.held)
   (first | (go_at_call 180; refine (K2.out _).mono ?_; rintro e w2 ⟨rfl, hb⟩; replace hb := (Cfg.step (And.right (by assumption)) hb).held)
          | (go_at_call 181; refine (K3.out _).mono ?_; rintro e w2 ⟨rfl, hb⟩; replace hb := (Cfg.step (And.right (by assumption)) hb).held))
  all_goals
   rename_i hh
   have H2:Hid (Cfg w g c _):=hh.2
   clear hh H1 K2 K3
   go_wp2_with fail
   refine(K4.out _).mono ?_
   rintro e w3 ⟨rfl,rfl⟩
   go_wp2
   go_ret2
   exact⟨rfl,HG.out▸H2.out.bel⟩
end Go.Proofs.YthogohkieiogiaaGreatDoor
