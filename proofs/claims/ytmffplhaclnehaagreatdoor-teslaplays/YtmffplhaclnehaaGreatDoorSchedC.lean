/- A helper. -/
import Derived.Test.YtmffplhaclnehaaGreatDoorSchedA
namespace Go.Proofs.YtmffplhaclnehaaGreatDoor
set_option maxRecDepth 20000
set_option maxHeartbeats 1600000
open Go.ChangeShapes Go.WideShapes Go.ChangeAt Go.RowKit
variable {w W:World} {g:Nat} {c:Cf}
structure bz (w:World)(g:Nat)(c:Cf)(W:World):Prop where
 own:aS W g c
 le:w.heap.size<=g
 aM:Below w.heap.size w W
theorem bz.new (w:World)(c:Cf):bz w w.heap.size c (w.alloc (.cells (aF c) 23)):=⟨aS.new w c,Nat.le_refl _,Go.Joins.below_alloc1 _ _⟩
theorem bz.drew (h:bz w g c W):bz w g c W.drew:=⟨h.own,h.le,h.aM.drew⟩
theorem bz.step {V:World}(h:bz w g c W)(hb:Below W.heap.size W V):bz w g c V:=⟨h.own.below hb,h.le,h.aM.trans (hb.mono h.aM.size)⟩
theorem bz.held (h:bz w g c W):(W.cell? ⟨g,0,none⟩=some (.int .i64 c.n)/\W.cell? ⟨g,1,none⟩=some (.int .i64 c.f)/\W.cell? ⟨g,2,none⟩=some (.int .i64 c.s)/\W.cell? ⟨g,3,none⟩=some (.int .i64 c.d)/\W.cell? ⟨g,4,none⟩=some (.int .i64 c.k)/\W.cell? ⟨g,5,none⟩=some (.int .i64 c.e)/\W.cell? ⟨g,6,none⟩=some (.int .i64 c.v)/\W.cell? ⟨g,7,none⟩=some (.int .i64 c.r)/\W.cell? ⟨g,8,none⟩=some (.int .i64 c.l)/\W.cell? ⟨g,9,none⟩=some (.int .i64 c.p))/\bz w g c W:=
 ⟨⟨h.own.c0,h.own.c1,h.own.c2,h.own.c3,h.own.c4,h.own.c5,h.own.c6,h.own.c7,h.own.c8,h.own.c9⟩,h⟩
theorem kD (w:World)(c:Cf):Calls Tryz.prog 29 #[.agg (aF c)] w λe w'=>e=.returned (.int .i64 (if okB c=true then 0 else 1))/\Below w.heap.size w w':=by
 have K1:Hid (∀ W,Calls Tryz.prog 63 #[.agg (aF c)] W λe w'=>e=.returned (.agg (aF (nZ c)))/\Below W.heap.size W w'):=λW=>Kh W c
 have n1:∀ W,(binOp .neq 23 (.agg #[.int .i64 c.n,.int .i64 c.f,.int .i64 c.s,.int .i64 c.d,.int .i64 c.k,.int .i64 c.e,.int .i64 c.v,.int .i64 c.r,.int .i64 c.l,.int .i64 c.p]) (.agg (aF (nZ c)))).run Tryz.prog W=.ok (.bool (!pO c)) W:=λW=>by rw[<-Fe];exact Hy c (nZ c) W
 have K2:Hid (∀ W,Calls Tryz.prog 64 #[.agg (aF c)] W λe w'=>e=.returned (.agg (aF (og c)))/\Below W.heap.size W w'):=λW=>Ki W c
 have n2:∀ W,(binOp .neq 23 (.agg #[.int .i64 c.n,.int .i64 c.f,.int .i64 c.s,.int .i64 c.d,.int .i64 c.k,.int .i64 c.e,.int .i64 c.v,.int .i64 c.r,.int .i64 c.l,.int .i64 c.p]) (.agg (aF (og c)))).run Tryz.prog W=.ok (.bool (!pQ c)) W:=λW=>by rw[<-Ff];exact Hy c (og c) W
 have K3:Hid (∀ W,Calls Tryz.prog 65 #[.agg (aF c)] W λe w'=>e=.returned (.agg (aF (sW c)))/\Below W.heap.size W w'):=λW=>Oo W c
 have n3:∀ W,(binOp .neq 23 (.agg #[.int .i64 c.n,.int .i64 c.f,.int .i64 c.s,.int .i64 c.d,.int .i64 c.k,.int .i64 c.e,.int .i64 c.v,.int .i64 c.r,.int .i64 c.l,.int .i64 c.p]) (.agg (aF (sW c)))).run Tryz.prog W=.ok (.bool (!uY c)) W:=λW=>by rw[<-J3];exact Hy c (sW c) W
 have K4:Hid (∀ W,Calls Tryz.prog 66 #[.agg (aF c)] W λe w'=>e=.returned (.agg (aF (kg c)))/\Below W.heap.size W w'):=λW=>Fu W c
 have n4:∀ W,(binOp .neq 23 (.agg #[.int .i64 c.n,.int .i64 c.f,.int .i64 c.s,.int .i64 c.d,.int .i64 c.k,.int .i64 c.e,.int .i64 c.v,.int .i64 c.r,.int .i64 c.l,.int .i64 c.p]) (.agg (aF (kg c)))).run Tryz.prog W=.ok (.bool (!lZ c)) W:=λW=>by rw[<-Cz];exact Hy c (kg c) W
 have H0:Hid (bz w w.heap.size c (w.alloc (.cells (aF c) 23))):=bz.new w c
 unfold okB
 generalize pO c=b1 at *
 generalize nZ c=c1 at *
 generalize pQ c=b2 at *
 generalize og c=c2 at *
 generalize uY c=b3 at *
 generalize sW c=c3 at *
 generalize lZ c=b4 at *
 generalize kg c=c4 at *
 go_enter Tryz.func29,Tryz.ntmps29
 go_upto_region 1 with fail
 generalize hg:w.heap.size=g at *
 generalize w.alloc (.cells (aF c) 23)=W at *
 have HG:Hid (w.heap.size=g):=hg
 clear hg
 go_region_held3 (λV=>(V.cell? ⟨g,0,none⟩=some (.int .i64 c.n)/\V.cell? ⟨g,1,none⟩=some (.int .i64 c.f)/\V.cell? ⟨g,2,none⟩=some (.int .i64 c.s)/\V.cell? ⟨g,3,none⟩=some (.int .i64 c.d)/\V.cell? ⟨g,4,none⟩=some (.int .i64 c.k)/\V.cell? ⟨g,5,none⟩=some (.int .i64 c.e)/\V.cell? ⟨g,6,none⟩=some (.int .i64 c.v)/\V.cell? ⟨g,7,none⟩=some (.int .i64 c.r)/\V.cell? ⟨g,8,none⟩=some (.int .i64 c.l)/\V.cell? ⟨g,9,none⟩=some (.int .i64 c.p))/\bz w g c V)
   (first|exact H0.out.held|assumption|exact(bz.drew (And.right (by assumption))).held|exact H0.out.drew.held)
   (first|(go_at_call 63;refine(K1.out _).mono ?_;rintro e w1 ⟨rfl,hb⟩;replace hb:=(bz.step (And.right (by assumption)) hb).held))
 rename_i XW
 have H1:Hid (bz w g c w1):=XW.2
 clear XW hb H0 K1 n1
 cases b1
 case false=>
  go_wp2
  go_ret
  exact⟨by simp,HG.out▸H1.out.aM⟩
 go_upto_region 2 with fail
 go_region_held3 (λV=>(V.cell? ⟨g,0,none⟩=some (.int .i64 c.n)/\V.cell? ⟨g,1,none⟩=some (.int .i64 c.f)/\V.cell? ⟨g,2,none⟩=some (.int .i64 c.s)/\V.cell? ⟨g,3,none⟩=some (.int .i64 c.d)/\V.cell? ⟨g,4,none⟩=some (.int .i64 c.k)/\V.cell? ⟨g,5,none⟩=some (.int .i64 c.e)/\V.cell? ⟨g,6,none⟩=some (.int .i64 c.v)/\V.cell? ⟨g,7,none⟩=some (.int .i64 c.r)/\V.cell? ⟨g,8,none⟩=some (.int .i64 c.l)/\V.cell? ⟨g,9,none⟩=some (.int .i64 c.p))/\bz w g c V)
   (first|exact H1.out.held|assumption|exact(bz.drew (And.right (by assumption))).held|exact H1.out.drew.held)
   (first|(go_at_call 64;refine(K2.out _).mono ?_;rintro e w2 ⟨rfl,hb⟩;replace hb:=(bz.step (And.right (by assumption)) hb).held))
 rename_i hh2
 have H2:Hid (bz w g c w2):=hh2.2
 clear hh2 hb H1 K2 n2
 cases b2
 case false=>
  go_wp2
  go_ret
  exact⟨by simp,HG.out▸H2.out.aM⟩
 go_upto_region 3 with fail
 go_region_held3 (λV=>(V.cell? ⟨g,0,none⟩=some (.int .i64 c.n)/\V.cell? ⟨g,1,none⟩=some (.int .i64 c.f)/\V.cell? ⟨g,2,none⟩=some (.int .i64 c.s)/\V.cell? ⟨g,3,none⟩=some (.int .i64 c.d)/\V.cell? ⟨g,4,none⟩=some (.int .i64 c.k)/\V.cell? ⟨g,5,none⟩=some (.int .i64 c.e)/\V.cell? ⟨g,6,none⟩=some (.int .i64 c.v)/\V.cell? ⟨g,7,none⟩=some (.int .i64 c.r)/\V.cell? ⟨g,8,none⟩=some (.int .i64 c.l)/\V.cell? ⟨g,9,none⟩=some (.int .i64 c.p))/\bz w g c V)
   (first|exact H2.out.held|assumption|exact(bz.drew (And.right (by assumption))).held|exact H2.out.drew.held)
   (first|(go_at_call 65;refine(K3.out _).mono ?_;rintro e w3 ⟨rfl,hb⟩;replace hb:=(bz.step (And.right (by assumption)) hb).held))
 rename_i hh3
 have H3:Hid (bz w g c w3):=hh3.2
 clear hh3 hb H2 K3 n3
 cases b3
 case false=>
  go_wp2
  go_ret
  exact⟨by simp,HG.out▸H3.out.aM⟩
 go_upto_region 4 with fail
 go_region_held3 (λV=>(V.cell? ⟨g,0,none⟩=some (.int .i64 c.n)/\V.cell? ⟨g,1,none⟩=some (.int .i64 c.f)/\V.cell? ⟨g,2,none⟩=some (.int .i64 c.s)/\V.cell? ⟨g,3,none⟩=some (.int .i64 c.d)/\V.cell? ⟨g,4,none⟩=some (.int .i64 c.k)/\V.cell? ⟨g,5,none⟩=some (.int .i64 c.e)/\V.cell? ⟨g,6,none⟩=some (.int .i64 c.v)/\V.cell? ⟨g,7,none⟩=some (.int .i64 c.r)/\V.cell? ⟨g,8,none⟩=some (.int .i64 c.l)/\V.cell? ⟨g,9,none⟩=some (.int .i64 c.p))/\bz w g c V)
   (first|exact H3.out.held|assumption|exact(bz.drew (And.right (by assumption))).held|exact H3.out.drew.held)
   (first|(go_at_call 66;refine(K4.out _).mono ?_;rintro e w4 ⟨rfl,hb⟩;replace hb:=(bz.step (And.right (by assumption)) hb).held))
 rename_i hh4
 have H4:Hid (bz w g c w4):=hh4.2
 clear hh4 hb H3 K4 n4
 cases b4
 case false=>
  go_wp2
  go_ret
  exact⟨by simp,HG.out▸H4.out.aM⟩
 go_wp2
 go_ret
 exact⟨by simp,HG.out▸H4.out.aM⟩
theorem eD {x:Int}(h0 : -9223372036854775808<=x)(h1:x<=9223372036854775807):IntKind.i64.wrap x=x:=by rw[IntKind.wrap_i64];omega
theorem Oq (w:World)(c:Cf):Calls Tryz.prog 102 #[.agg (aF c)] w λe w'=>e=.returned (.int .i64 (iV c))/\Below w.heap.size w w':=by
 have HL:Hid ((Instr.loadAt 23 (.pointer (some ⟨w.heap.size,0,none⟩))).run Tryz.prog (w.alloc (.cells (aF c) 23))=.ok (.agg (aF c)) (w.alloc (.cells (aF c) 23))):=(aS.new w c).loads
 have K1:=kD (w.alloc (.cells (aF c) 23)) c
 have H0:Hid (bz w w.heap.size c (w.alloc (.cells (aF c) 23))):=bz.new w c
 cases ho:okB c
 ·rw[ho,if_neg Bool.false_ne_true] at K1
  rw[show iV c=0 by simp[iV,ho]]
  clear ho
  go_enter Tryz.func102,Tryz.ntmps102
  go_wp2_with (first|(refine af rfl 23 _ rfl _ _ rfl HL.out ?_)|fail)
  refine K1.mono ?_
  rintro e w1 ⟨rfl,hb⟩
  have H1:Hid (bz w w.heap.size c w1):=H0.out.step hb
  clear K1 HL H0 hb
  go_wp2
  go_ret
  exact⟨rfl,H1.out.aM⟩
 ·rw[ho,if_pos rfl] at K1
  have hr:=AO ho
  obtain⟨R,hR⟩:=ai (iV c)
  rw[<-hR] at hr ⊢
  have e1:IntKind.i64.wrap (c.n*c.s)=R:=by rw[<-qF ho,<-hR];exact eD (by omega) (by omega)
  clear ho hr hR
  go_enter Tryz.func102,Tryz.ntmps102
  go_wp2_with (first|(refine af rfl 23 _ rfl _ _ rfl HL.out ?_)|fail)
  refine K1.mono ?_
  rintro e w1 ⟨rfl,hb⟩
  have H1:Hid (bz w w.heap.size c w1):=H0.out.step hb
  have p0:=H1.out.own.c0
  have p2:=H1.out.own.c2
  clear K1 HL H0 hb
  go_wp2
  go_ret
  exact⟨rfl,H1.out.aM⟩
theorem Kj (w:World)(c:Cf)(i:Int):Calls Tryz.prog 101 #[.agg (aF c),.int .i64 i] w λe w'=>e=.returned (.bool (iT c i))/\Below w.heap.size w w':=by
 have HL:Hid ((Instr.loadAt 23 (.pointer (some ⟨w.heap.size,0,none⟩))).run Tryz.prog (w.alloc (.cells (aF c) 23))=.ok (.agg (aF c)) (w.alloc (.cells (aF c) 23))):=(aS.new w c).loads
 have K1:=kD (w.alloc (.cells (aF c) 23)) c
 have H0:Hid (bz w w.heap.size c (w.alloc (.cells (aF c) 23))):=bz.new w c
 cases ho:okB c
 ·rw[ho,if_neg Bool.false_ne_true] at K1
  rw[show iT c i=false by simp[iT,ho]]
  clear ho
  go_enter Tryz.func101,Tryz.ntmps101
  go_wp2_with (first|(refine af rfl 23 _ rfl _ _ rfl HL.out ?_)|fail)
  refine K1.mono ?_
  rintro e w1 ⟨rfl,hb⟩
  have H1:Hid (bz w w.heap.size c w1):=H0.out.step hb
  clear K1 HL H0 hb
  go_wp2
  go_ret
  exact⟨rfl,H1.out.aM⟩
 ·rw[ho,if_pos rfl] at K1
  by_cases h0:0<=i
  ·have hN:iT c i=decide (i<c.n):=by simp[iT,ho,h0]
   rw[hN]
   clear hN
   by_cases h1:i<c.n
   all_goals
    simp only[h1,decide_true,decide_false]
    clear ho
    go_enter Tryz.func101,Tryz.ntmps101
    go_wp2_with (first|(refine af rfl 23 _ rfl _ _ rfl HL.out ?_)|fail)
    refine K1.mono ?_
    rintro e w1 ⟨rfl,hb⟩
    have H1:Hid (bz w w.heap.size c w1):=H0.out.step hb
    have p0:=H1.out.own.c0
    clear K1 HL H0 hb
    go_wp2
    go_ret
    exact⟨by first|rfl|(simp;done)|(simp;omega),H1.out.aM⟩
  ·rw[show iT c i=false by simp[iT,h0]]
   clear ho
   go_enter Tryz.func101,Tryz.ntmps101
   go_wp2_with (first|(refine af rfl 23 _ rfl _ _ rfl HL.out ?_)|fail)
   refine K1.mono ?_
   rintro e w1 ⟨rfl,hb⟩
   have H1:Hid (bz w w.heap.size c w1):=H0.out.step hb
   clear K1 HL H0 hb
   go_wp2
   go_ret
   exact⟨by first|rfl|(simp;done)|(simp;omega),H1.out.aM⟩
theorem Kk (w:World)(t:Int):Calls Tryz.prog 104 #[.int .i64 t] w λe w'=>e=.returned (.bool (lW t))/\w'=w:=by
 by_cases h0:0<=t
 ·have hN:lW t=decide (t<=1099511627776):=by simp[lW,h0]
  rw[hN]
  clear hN
  by_cases h1:t<=1099511627776
  all_goals
   simp only[h1,decide_true,decide_false]
   go_enter Tryz.func104,Tryz.ntmps104
   go_wp2
   go_ret
   exact⟨by first|rfl|(simp;done)|(simp;omega),rfl⟩
 ·rw[show lW t=false by simp[lW,h0]]
  go_enter Tryz.func104,Tryz.ntmps104
  go_wp2
  go_ret
  exact⟨by first|rfl|(simp;done)|(simp;omega),rfl⟩
theorem Ot (w:World)(c:Cf)(i u:Int)(e1:IntKind.i64.wrap (i*c.s)=u):Calls Tryz.prog 103 #[.agg (aF c),.int .i64 i] w λe w'=>e=.returned (.int .i64 u)/\Below w.heap.size w w':=by
 have H0:Hid (bz w w.heap.size c (w.alloc (.cells (aF c) 23))):=bz.new w c
 have p2:=H0.out.own.c2
 go_enter Tryz.func103,Tryz.ntmps103
 go_wp2
 go_ret
 exact⟨rfl,H0.out.aM⟩
def tF (c:Cf)(r s:Int):Value:=if gN c r s=true then .tuple #[.int .i64 (NY c r s),.int .i64 0] else .tuple #[.int .i64 0,.int .i64 1]
theorem WE (w:World)(c:Cf)(r s:Int):Calls Tryz.prog 56 #[.agg (aF c),.int .i64 r,.int .i64 s] w λe w'=>e=.returned (tF c r s)/\Below w.heap.size w w':=by
 have K1:=Kj (w.alloc (.cells (aF c) 23)) c s
 have H0:Hid (bz w w.heap.size c (w.alloc (.cells (aF c) 23))):=bz.new w c
 by_cases h0:0<=r
 case neg=>
  rw[tF,if_neg (by simp[gN,h0])]
  clear K1
  go_enter Tryz.func56,Tryz.ntmps56
  go_wp2
  go_ret2
  exact⟨rfl,H0.out.aM⟩
 by_cases h1:r<1048576
 case neg=>
  rw[tF,if_neg (by simp[gN,h1])]
  clear K1
  go_enter Tryz.func56,Tryz.ntmps56
  go_wp2
  go_ret2
  exact⟨rfl,H0.out.aM⟩
 cases hn:iT c s
 ·rw[hn] at K1
  rw[tF,if_neg (by simp[gN,hn])]
  clear hn
  go_enter Tryz.func56,Tryz.ntmps56
  obtain⟨p0,p1,p2,p3,p4,p5,p6,p7,p8,p9⟩:=H0.out.held.1
  go_wp2_with fail
  refine K1.mono ?_
  rintro e w1 ⟨rfl,hb⟩
  have H1:Hid (bz w w.heap.size c w1):=H0.out.step hb
  clear K1 H0 hb p0 p1 p2 p3 p4 p5 p6 p7 p8 p9
  go_wp2
  go_ret2
  exact⟨rfl,H1.out.aM⟩
 ·rw[hn] at K1
  have hc:gN c r s=true:=by simp[gN,hn,h0,h1]
  rw[tF,if_pos hc]
  obtain⟨b1,b2,b3,b4,b5,b6,b7,b8⟩:=Tk hc
  have K2:Hid (∀ W,Calls Tryz.prog 102 #[.agg (aF c)] W λe w'=>e=.returned (.int .i64 (iV c))/\Below W.heap.size W w'):=λW=>Oq W c
  obtain⟨u,hu⟩:=ai (s*c.s)
  obtain⟨x,hx⟩:=ai (r*iV c)
  obtain⟨T,hT⟩:=ai (NY c r s)
  have K3:Hid (∀ W,Calls Tryz.prog 103 #[.agg (aF c),.int .i64 s] W λe w'=>e=.returned (.int .i64 u)/\Below W.heap.size W w'):=λW=>Ot W c s u (by rw[hu];exact eD (by omega) (by omega))
  have K4:Hid (∀ W,Calls Tryz.prog 104 #[.int .i64 T] W λe w'=>e=.returned (.bool true)/\w'=W):=λW=>by
   have:=Kk W T
   rw[show lW T=true by rw[hT];simp only[lW,decide_eq_true_eq];omega] at this
   exact this
  have e1:IntKind.i64.wrap (r*iV c)=x:=by rw[hx];exact eD (by omega) (by omega)
  have e2:IntKind.i64.wrap (x+u)=T:=by rw[hx,hu,hT];exact eD (by unfold NY at b5;omega) (by unfold NY at b6;omega)
  rw[<-hT]
  clear hu hx hT b1 b2 b3 b4 b5 b6 b7 b8 hc hn
  generalize iV c=R at *
  go_enter Tryz.func56,Tryz.ntmps56
  obtain⟨p0,p1,p2,p3,p4,p5,p6,p7,p8,p9⟩:=H0.out.held.1
  go_wp2_with fail
  refine K1.mono ?_
  rintro e w1 ⟨rfl,hb⟩
  have H1:Hid (bz w w.heap.size c w1):=H0.out.step hb
  clear K1 H0 hb p0 p1 p2 p3 p4 p5 p6 p7 p8 p9
  go_upto_region 3 with fail
  clear h0 h1
  generalize hg:w.heap.size=g at *
  have HG:Hid (w.heap.size=g):=hg
  clear hg
  go_region_held3 (λV=>(V.cell? ⟨g,0,none⟩=some (.int .i64 c.n)/\V.cell? ⟨g,1,none⟩=some (.int .i64 c.f)/\V.cell? ⟨g,2,none⟩=some (.int .i64 c.s)/\V.cell? ⟨g,3,none⟩=some (.int .i64 c.d)/\V.cell? ⟨g,4,none⟩=some (.int .i64 c.k)/\V.cell? ⟨g,5,none⟩=some (.int .i64 c.e)/\V.cell? ⟨g,6,none⟩=some (.int .i64 c.v)/\V.cell? ⟨g,7,none⟩=some (.int .i64 c.r)/\V.cell? ⟨g,8,none⟩=some (.int .i64 c.l)/\V.cell? ⟨g,9,none⟩=some (.int .i64 c.p))/\bz w g c V)
   (first|exact H1.out.held|assumption|exact(bz.drew (And.right (by assumption))).held|exact H1.out.drew.held)
   (first | (go_at_call 102; refine (K2.out _).mono ?_; rintro e w2 ⟨rfl, hb⟩; replace hb := (bz.step (And.right (by assumption)) hb).held)
          | (go_at_call 103; refine (K3.out _).mono ?_; rintro e w2 ⟨rfl, hb⟩; replace hb := (bz.step (And.right (by assumption)) hb).held))
  all_goals
   rename_i hh
   have H2:Hid (bz w g c _):=hh.2
   clear hh H1 K2 K3
   go_wp2_with fail
   refine(K4.out _).mono ?_
   rintro e w3 ⟨rfl,rfl⟩
   go_wp2
   go_ret2
   exact⟨rfl,HG.out▸H2.out.aM⟩
end Go.Proofs.YtmffplhaclnehaaGreatDoor
