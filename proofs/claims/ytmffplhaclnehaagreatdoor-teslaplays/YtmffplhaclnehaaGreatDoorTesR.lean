/- A helper. -/
import Derived.Test.YtmffplhaclnehaaGreatDoorSchedC
import Derived.Test.YtmffplhaclnehaaGreatDoorTesA
namespace Go.Proofs.YtmffplhaclnehaaGreatDoor
set_option maxRecDepth 20000
set_option maxHeartbeats 3200000
open Go.ChangeShapes Go.WideShapes Go.ChangeAt Go.RowKit
def bR (n a b:Int):Bool:=decide (a<=n/\n<=b)
theorem AQ {n a b:Int}(h:bR n a b=true):a<=n/\n<=b:=of_decide_eq_true h
theorem jE (w:World)(n a b:Int):Calls Tryz.prog 67 #[.int .i64 n,.int .i64 a,.int .i64 b] w λe w'=>e=.returned (.bool (bR n a b))/\w'=w:=by
 by_cases h0:a<=n
 ·have hN:bR n a b=decide (n<=b):=by simp[bR,h0]
  rw[hN]
  clear hN
  by_cases h1:n<=b
  all_goals
   simp only[h1,decide_true,decide_false]
   go_enter Tryz.func67,Tryz.ntmps67
   go_wp2
   go_ret
   exact⟨by first|rfl|(simp;done)|(simp;omega),rfl⟩
 ·rw[show bR n a b=false by simp[bR,h0]]
  go_enter Tryz.func67,Tryz.ntmps67
  go_wp2
  go_ret
  exact⟨by first|rfl|(simp;done)|(simp;omega),rfl⟩
theorem Ou (c:Cf):okB c=(bR c.n 1 8&&bR c.f 0 8&&decide (3*c.f<c.n)&&bR c.s 300 10000&&bR c.d 1 4&&bR c.k (c.d+4) 256&&bR c.e 1 (4*c.s)&&bR c.v 100 (4*c.s)&&bR c.r 0 5&&bR c.l 0 5&&bR c.p 1 64):=by
 rw[Bool.eq_iff_iff]
 simp only[okB,pO,pQ,uY,lZ,bR,Bool.and_eq_true,decide_eq_true_eq]
 constructor
 ·rintro⟨⟨⟨⟨a1,a2,a3,a4⟩,b1,b2,b3,b4,b5,b6⟩,c1,c2,c3,c4,c5,c6⟩,d1,d2,d3,d4⟩
  exact⟨⟨⟨⟨⟨⟨⟨⟨⟨⟨⟨a1,a2⟩,a3,by omega⟩,a4⟩,b1,b2⟩,c1,c2⟩,c3,c4⟩,b3,b4⟩,b5,b6⟩,d1,d2⟩,d3,d4⟩,c5,c6⟩
 ·rintro⟨⟨⟨⟨⟨⟨⟨⟨⟨⟨⟨a1,a2⟩,a3,_⟩,a4⟩,b1,b2⟩,c1,c2⟩,c3,c4⟩,b3,b4⟩,b5,b6⟩,d1,d2⟩,d3,d4⟩,c5,c6⟩
  exact⟨⟨⟨⟨a1,a2,a3,a4⟩,b1,b2,b3,b4,b5,b6⟩,c1,c2,c3,c4,c5,c6⟩,d1,d2,d3,d4⟩
theorem jq (w:World)(c:Cf):Calls Tryz.prog 31 #[.agg (aF c)] w λe w'=>e=.returned (.int .i64 (if okB c=true then 0 else 1))/\Below w.heap.size w w':=by
 have H0:Hid (bz w w.heap.size c (w.alloc (.cells (aF c) 23))):=bz.new w c
 rw[Ou c]
 have F1:Hid (∀ W,Calls Tryz.prog 67 #[.int .i64 c.n,.int .i64 1,.int .i64 8] W λe w'=>e=.returned (.bool (bR c.n 1 8))/\w'=W):=λW=>jE W _ _ _
 have F2:Hid (∀ W,Calls Tryz.prog 67 #[.int .i64 c.f,.int .i64 0,.int .i64 8] W λe w'=>e=.returned (.bool (bR c.f 0 8))/\w'=W):=λW=>jE W _ _ _
 have F4:Hid (∀ W,Calls Tryz.prog 67 #[.int .i64 c.s,.int .i64 300,.int .i64 10000] W λe w'=>e=.returned (.bool (bR c.s 300 10000))/\w'=W):=λW=>jE W _ _ _
 have F5:Hid (∀ W,Calls Tryz.prog 67 #[.int .i64 c.d,.int .i64 1,.int .i64 4] W λe w'=>e=.returned (.bool (bR c.d 1 4))/\w'=W):=λW=>jE W _ _ _
 have F6:Hid (∀ W,Calls Tryz.prog 67 #[.int .i64 c.k,.int .i64 (c.d+4),.int .i64 256] W λe w'=>e=.returned (.bool (bR c.k (c.d+4) 256))/\w'=W):=λW=>jE W _ _ _
 have F7:Hid (∀ W,Calls Tryz.prog 67 #[.int .i64 c.e,.int .i64 1,.int .i64 (4*c.s)] W λe w'=>e=.returned (.bool (bR c.e 1 (4*c.s)))/\w'=W):=λW=>jE W _ _ _
 have F8:Hid (∀ W,Calls Tryz.prog 67 #[.int .i64 c.v,.int .i64 100,.int .i64 (4*c.s)] W λe w'=>e=.returned (.bool (bR c.v 100 (4*c.s)))/\w'=W):=λW=>jE W _ _ _
 have F9:Hid (∀ W,Calls Tryz.prog 67 #[.int .i64 c.r,.int .i64 0,.int .i64 5] W λe w'=>e=.returned (.bool (bR c.r 0 5))/\w'=W):=λW=>jE W _ _ _
 have F10:Hid (∀ W,Calls Tryz.prog 67 #[.int .i64 c.l,.int .i64 0,.int .i64 5] W λe w'=>e=.returned (.bool (bR c.l 0 5))/\w'=W):=λW=>jE W _ _ _
 have F11:Hid (∀ W,Calls Tryz.prog 67 #[.int .i64 c.p,.int .i64 1,.int .i64 64] W λe w'=>e=.returned (.bool (bR c.p 1 64))/\w'=W):=λW=>jE W _ _ _
 have E3:Hid (bR c.f 0 8=true->IntKind.i64.wrap (3*c.f)=3*c.f):=λh=>by have:=AQ h;exact eD (by omega) (by omega)
 have E6:Hid (bR c.d 1 4=true->IntKind.i64.wrap (c.d+4)=c.d+4):=λh=>by have:=AQ h;exact eD (by omega) (by omega)
 have E7:Hid (bR c.s 300 10000=true->IntKind.i64.wrap (4*c.s)=4*c.s):=λh=>by have:=AQ h;exact eD (by omega) (by omega)
 generalize bR c.n 1 8=b1 at *
 generalize bR c.f 0 8=b2 at *
 generalize bR c.s 300 10000=b4 at *
 generalize bR c.d 1 4=b5 at *
 generalize bR c.k (c.d+4) 256=b6 at *
 generalize bR c.e 1 (4*c.s)=b7 at *
 generalize bR c.v 100 (4*c.s)=b8 at *
 generalize bR c.r 0 5=b9 at *
 generalize bR c.l 0 5=b10 at *
 generalize bR c.p 1 64=b11 at *
 go_enter Tryz.func31,Tryz.ntmps31
 obtain⟨p0,p1,p2,p3,p4,p5,p6,p7,p8,p9⟩:=H0.out.held.1
 go_wp2_with fail
 refine(F1.out _).mono ?_
 rintro e w1 ⟨rfl,rfl⟩
 clear F1
 cases b1
 case false=>
  go_wp2
  all_goals
   go_ret
   exact⟨by first|rfl|(simp;done)|(simp[h3];done),H0.out.aM⟩
 go_wp2_with fail
 refine(F2.out _).mono ?_
 rintro e w1 ⟨rfl,rfl⟩
 clear F2
 cases b2
 case false=>
  go_wp2
  all_goals
   go_ret
   exact⟨by first|rfl|(simp;done)|(simp[h3];done),H0.out.aM⟩
 have e3:=E3.out rfl
 clear E3
 by_cases h3:3*c.f<c.n
 case neg=>
  go_wp2
  all_goals
   go_ret
   exact⟨by first|rfl|(simp;done)|(simp[h3];done),H0.out.aM⟩
 go_wp2_with fail
 refine(F4.out _).mono ?_
 rintro e w1 ⟨rfl,rfl⟩
 clear F4
 cases b4
 case false=>
  go_wp2
  all_goals
   go_ret
   exact⟨by first|rfl|(simp;done)|(simp[h3];done),H0.out.aM⟩
 have e7:=E7.out rfl
 clear E7
 go_wp2_with fail
 refine(F5.out _).mono ?_
 rintro e w1 ⟨rfl,rfl⟩
 clear F5
 cases b5
 case false=>
  go_wp2
  all_goals
   go_ret
   exact⟨by first|rfl|(simp;done)|(simp[h3];done),H0.out.aM⟩
 have e6:=E6.out rfl
 clear E6
 go_wp2_with fail
 refine(F6.out _).mono ?_
 rintro e w1 ⟨rfl,rfl⟩
 clear F6
 cases b6
 case false=>
  go_wp2
  all_goals
   go_ret
   exact⟨by first|rfl|(simp;done)|(simp[h3];done),H0.out.aM⟩
 go_wp2_with fail
 refine(F7.out _).mono ?_
 rintro e w1 ⟨rfl,rfl⟩
 clear F7
 cases b7
 case false=>
  go_wp2
  all_goals
   go_ret
   exact⟨by first|rfl|(simp;done)|(simp[h3];done),H0.out.aM⟩
 go_wp2_with fail
 refine(F8.out _).mono ?_
 rintro e w1 ⟨rfl,rfl⟩
 clear F8
 cases b8
 case false=>
  go_wp2
  all_goals
   go_ret
   exact⟨by first|rfl|(simp;done)|(simp[h3];done),H0.out.aM⟩
 go_wp2_with fail
 refine(F9.out _).mono ?_
 rintro e w1 ⟨rfl,rfl⟩
 clear F9
 cases b9
 case false=>
  go_wp2
  all_goals
   go_ret
   exact⟨by first|rfl|(simp;done)|(simp[h3];done),H0.out.aM⟩
 go_wp2_with fail
 refine(F10.out _).mono ?_
 rintro e w1 ⟨rfl,rfl⟩
 clear F10
 cases b10
 case false=>
  go_wp2
  all_goals
   go_ret
   exact⟨by first|rfl|(simp;done)|(simp[h3];done),H0.out.aM⟩
 go_wp2_with fail
 refine(F11.out _).mono ?_
 rintro e w1 ⟨rfl,rfl⟩
 clear F11
 cases b11
 case false=>
  go_wp2
  all_goals
   go_ret
   exact⟨by first|rfl|(simp;done)|(simp[h3];done),H0.out.aM⟩
 go_wp2
 all_goals
  go_ret
  exact⟨by first|rfl|(simp;done)|(simp[h3];done),H0.out.aM⟩
theorem Kl (w:World)(c:Cf):Calls Tryz.prog 176 #[.agg (aF c)] w λe w'=>e=.returned (.int .i64 (iV c))/\Below w.heap.size w w':=by
 have HL:Hid ((Instr.loadAt 23 (.pointer (some ⟨w.heap.size,0,none⟩))).run Tryz.prog (w.alloc (.cells (aF c) 23))=.ok (.agg (aF c)) (w.alloc (.cells (aF c) 23))):=(aS.new w c).loads
 have K1:=jq (w.alloc (.cells (aF c) 23)) c
 have H0:Hid (bz w w.heap.size c (w.alloc (.cells (aF c) 23))):=bz.new w c
 cases ho:okB c
 ·rw[ho,if_neg Bool.false_ne_true] at K1
  rw[show iV c=0 by simp[iV,ho]]
  clear ho
  go_enter Tryz.func176,Tryz.ntmps176
  go_wp2_with (first|(refine af rfl 23 _ rfl _ _ rfl HL.out ?_)|fail)
  refine K1.mono ?_
  rintro e w1 ⟨rfl,hb⟩
  have H1:Hid (bz w w.heap.size c w1):=H0.out.step hb
  clear K1 HL H0 hb
  go_wp2
  go_ret
  exact⟨rfl,H1.out.aM⟩
 ·rw[ho,if_pos rfl] at K1
  have hr:=AO ho
  obtain⟨R,hR⟩:=ai (iV c)
  rw[<-hR] at hr ⊢
  have e1:IntKind.i64.wrap (c.n*c.s)=R:=by rw[<-qF ho,<-hR];exact eD (by omega) (by omega)
  clear ho hr hR
  go_enter Tryz.func176,Tryz.ntmps176
  go_wp2_with (first|(refine af rfl 23 _ rfl _ _ rfl HL.out ?_)|fail)
  refine K1.mono ?_
  rintro e w1 ⟨rfl,hb⟩
  have H1:Hid (bz w w.heap.size c w1):=H0.out.step hb
  have p0:=H1.out.own.c0
  have p2:=H1.out.own.c2
  clear K1 HL H0 hb
  go_wp2
  go_ret
  exact⟨rfl,H1.out.aM⟩
theorem Um (w:World)(c:Cf)(r s:Int):Calls Tryz.prog 136 #[.agg (aF c),.int .i64 r,.int .i64 s] w λe w'=>e=.returned (tF c r s)/\Below w.heap.size w w':=by
 have HL:Hid ((Instr.loadAt 23 (.pointer (some ⟨w.heap.size,0,none⟩))).run Tryz.prog (w.alloc (.cells (aF c) 23))=.ok (.agg (aF c)) (w.alloc (.cells (aF c) 23))):=(aS.new w c).loads
 have K1:=jq (w.alloc (.cells (aF c) 23)) c
 have H0:Hid (bz w w.heap.size c (w.alloc (.cells (aF c) 23))):=bz.new w c
 cases ho:okB c
 ·rw[ho,if_neg Bool.false_ne_true] at K1
  rw[tF,if_neg (by simp[gN,iT,ho])]
  clear ho
  go_enter Tryz.func136,Tryz.ntmps136
  go_wp2_with (first|(refine af rfl 23 _ rfl _ _ rfl HL.out ?_)|fail)
  refine K1.mono ?_
  rintro e w1 ⟨rfl,hb⟩
  have H1:Hid (bz w w.heap.size c w1):=H0.out.step hb
  clear K1 HL H0 hb
  go_wp2
  go_ret2
  exact⟨rfl,H1.out.aM⟩
 rw[ho,if_pos rfl] at K1
 by_cases h0:0<=r
 case neg=>
  rw[tF,if_neg (by simp[gN,h0])]
  clear ho
  go_enter Tryz.func136,Tryz.ntmps136
  go_wp2_with (first|(refine af rfl 23 _ rfl _ _ rfl HL.out ?_)|fail)
  refine K1.mono ?_
  rintro e w1 ⟨rfl,hb⟩
  have H1:Hid (bz w w.heap.size c w1):=H0.out.step hb
  clear K1 HL H0 hb
  have p0:=H1.out.own.c0
  go_wp2
  go_ret2
  exact⟨rfl,H1.out.aM⟩
 by_cases h1:r<1048576
 case neg=>
  rw[tF,if_neg (by simp[gN,h1])]
  clear ho
  go_enter Tryz.func136,Tryz.ntmps136
  go_wp2_with (first|(refine af rfl 23 _ rfl _ _ rfl HL.out ?_)|fail)
  refine K1.mono ?_
  rintro e w1 ⟨rfl,hb⟩
  have H1:Hid (bz w w.heap.size c w1):=H0.out.step hb
  clear K1 HL H0 hb
  have p0:=H1.out.own.c0
  go_wp2
  go_ret2
  exact⟨rfl,H1.out.aM⟩
 by_cases s0:0<=s
 case neg=>
  rw[tF,if_neg (by simp[gN,iT,s0])]
  clear ho
  go_enter Tryz.func136,Tryz.ntmps136
  go_wp2_with (first|(refine af rfl 23 _ rfl _ _ rfl HL.out ?_)|fail)
  refine K1.mono ?_
  rintro e w1 ⟨rfl,hb⟩
  have H1:Hid (bz w w.heap.size c w1):=H0.out.step hb
  clear K1 HL H0 hb
  have p0:=H1.out.own.c0
  go_wp2
  go_ret2
  exact⟨rfl,H1.out.aM⟩
 by_cases s1:s<c.n
 case neg=>
  rw[tF,if_neg (by simp[gN,iT,s1])]
  clear ho
  go_enter Tryz.func136,Tryz.ntmps136
  go_wp2_with (first|(refine af rfl 23 _ rfl _ _ rfl HL.out ?_)|fail)
  refine K1.mono ?_
  rintro e w1 ⟨rfl,hb⟩
  have H1:Hid (bz w w.heap.size c w1):=H0.out.step hb
  clear K1 HL H0 hb
  have p0:=H1.out.own.c0
  go_wp2
  go_ret2
  exact⟨rfl,H1.out.aM⟩
 have hc:gN c r s=true:=by simp[gN,iT,ho,h0,h1,s0,s1]
 rw[tF,if_pos hc]
 obtain⟨b1,b2,b3,b4,b5,b6,b7,b8⟩:=Tk hc
 have K2:Hid (∀ W,Calls Tryz.prog 176 #[.agg (aF c)] W λe w'=>e=.returned (.int .i64 (iV c))/\Below W.heap.size W w'):=λW=>Kl W c
 obtain⟨u,hu⟩:=ai (s*c.s)
 obtain⟨x,hx⟩:=ai (r*iV c)
 obtain⟨T,hT⟩:=ai (NY c r s)
 have e0:IntKind.i64.wrap (s*c.s)=u:=by rw[hu];exact eD (by omega) (by omega)
 have e1:IntKind.i64.wrap (r*iV c)=x:=by rw[hx];exact eD (by omega) (by omega)
 have e2:IntKind.i64.wrap (x+u)=T:=by rw[hx,hu,hT];exact eD (by unfold NY at b5;omega) (by unfold NY at b6;omega)
 have y:T<=1099511627776:=by rw[hT];omega
 rw[<-hT]
 clear hu hx hT b1 b2 b3 b4 b5 b6 b7 b8 hc ho
 generalize iV c=R at *
 go_enter Tryz.func136,Tryz.ntmps136
 go_wp2_with (first|(refine af rfl 23 _ rfl _ _ rfl HL.out ?_)|fail)
 refine K1.mono ?_
 rintro e w1 ⟨rfl,hb⟩
 have H1:Hid (bz w w.heap.size c w1):=H0.out.step hb
 clear K1 HL H0 hb
 have p0:=H1.out.own.c0
 go_upto_region 3 with fail
 clear h0 h1 s0 s1 p0
 generalize hg:w.heap.size=g at *
 have HG:Hid (w.heap.size=g):=hg
 clear hg
 go_region_held3 (λV=>(V.cell? ⟨g,0,none⟩=some (.int .i64 c.n)/\V.cell? ⟨g,1,none⟩=some (.int .i64 c.f)/\V.cell? ⟨g,2,none⟩=some (.int .i64 c.s)/\V.cell? ⟨g,3,none⟩=some (.int .i64 c.d)/\V.cell? ⟨g,4,none⟩=some (.int .i64 c.k)/\V.cell? ⟨g,5,none⟩=some (.int .i64 c.e)/\V.cell? ⟨g,6,none⟩=some (.int .i64 c.v)/\V.cell? ⟨g,7,none⟩=some (.int .i64 c.r)/\V.cell? ⟨g,8,none⟩=some (.int .i64 c.l)/\V.cell? ⟨g,9,none⟩=some (.int .i64 c.p))/\bz w g c V)
  (first|exact H1.out.held|assumption|exact(bz.drew (And.right (by assumption))).held|exact H1.out.drew.held)
  (first|(go_at_call 176;refine(K2.out _).mono ?_;rintro e w2 ⟨rfl,hb⟩;replace hb:=(bz.step (And.right (by assumption)) hb).held))
 all_goals
  rename_i hh
  have H2:Hid (bz w g c _):=hh.2
  clear hh H1 K2
  go_wp2
  go_ret2
  exact⟨rfl,HG.out▸H2.out.aM⟩
end Go.Proofs.YtmffplhaclnehaaGreatDoor
namespace Go.Proofs.YtmffplhaclnehaaGreatDoor
set_option maxRecDepth 20000
set_option maxHeartbeats 1600000
open Go.ChangeShapes Go.WideShapes Go.ChangeAt Go.RowKit
theorem Pg (w:World)(c:Cf)(me:Int)(g:Nat):(Instr.build 76 #[(0,.agg (aF c)),(1,.int .i64 me),(2,.agg #[.int .i64 (-1),.int .i64 0,.int .i64 (-1),.slice none 0 0]),(3,.int .i64 (-1)),(4,.pointer (some ⟨g,0,none⟩))]).run Tryz.prog w=.ok (.agg (OP (newR c me) none 0 g).toArray) w:=run_build w 76 _ _ (by kernel_rfl)
theorem Ph (w:World):(Instr.build 73 #[(0,.int .i64 (-1)),(2,.int .i64 (-1))]).run Tryz.prog w=.ok (.agg #[.int .i64 (-1),.int .i64 0,.int .i64 (-1),.slice none 0 0]) w:=run_build w 73 _ _ (by kernel_rfl)
def xw (w:World)(R:Nat)(c:Cf)(me:Int)(w':World):Prop:=∃ F,PM w' R (newR c me,0) F/\(∀ k,F k->w.heap.size<=k)/\Below w.heap.size w w'
def OW (w:World)(R:Nat)(c:Cf)(me:Int)(w':World):Prop:=∃ F,DM w' R (newR c me) F/\(∀ k,F k->w.heap.size<=k)/\Below w.heap.size w w'
theorem Q9 (w:World)(c:Cf)(me:Int)(h:¬ (okB c=true/\0<=me/\me<c.n)):Calls Tryz.prog 8 #[.agg (aF c),.int .i64 me] w λe w'=>e=.returned (.tuple #[.pointer none,.int .i64 1])/\Below w.heap.size w w':=by
 have HL:Hid ((Instr.loadAt 23 (.pointer (some ⟨w.heap.size,0,none⟩))).run Tryz.prog (w.alloc (.cells (aF c) 23))=.ok (.agg (aF c)) (w.alloc (.cells (aF c) 23))):=(aS.new w c).loads
 have K1:=kD (w.alloc (.cells (aF c) 23)) c
 have H0:Hid (Below w.heap.size w (w.alloc (.cells (aF c) 23))):=(Below.refl _ _).alloc (Nat.le_refl _) _
 have c0:(w.alloc (.cells (aF c) 23)).cell? ⟨w.heap.size,0,none⟩=some (.int .i64 c.n):=(aS.new w c).c0
 have C0:Hid (aS (w.alloc (.cells (aF c) 23)) w.heap.size c):=aS.new w c
 go_enter Tryz.func8,Tryz.ntmps8
 go_upto_region 1 with fail
 generalize hW:w.alloc (Obj.cells (aF c) 23)=W at *
 go_wp2_with (first|(refine af rfl 23 _ rfl _ _ rfl HL.out ?_)|fail)
 refine K1.mono ?_
 rintro e w1 ⟨rfl,hb1⟩
 have H1:Hid (Below w.heap.size w w1):=H0.out.trans (hb1.mono H0.out.size)
 have c1:=(C0.out.below hb1).c0
 clear K1 hb1 c0 C0 HL H0
 by_cases h1:okB c=true
 ·rw[if_pos h1]
  by_cases h2:me<0
  ·clear h
   go_wp2
   go_ret2
   exact⟨rfl,H1.out⟩
  ·have h3:c.n<=me:=Int.not_lt.1 λhh=>h ⟨h1,by omega,hh⟩
   clear h
   go_wp2
   go_ret2
   exact⟨rfl,H1.out⟩
 ·rw[if_neg h1]
  clear h h1
  go_wp2
  go_ret2
  exact⟨rfl,H1.out⟩
theorem GX (w:World)(c:Cf)(me:Int)(hz:3<=w.heap.size)(h:okB c=true)(h0:0<=me)(h1:me<c.n):Calls Tryz.prog 8 #[.agg (aF c),.int .i64 me] w λe w'=>∃ R,e=.returned (.tuple #[.pointer (some ⟨R,0,none⟩),.int .i64 0])/\xw w R c me w':=by
 have HL:Hid ((Instr.loadAt 23 (.pointer (some ⟨w.heap.size,0,none⟩))).run Tryz.prog (w.alloc (.cells (aF c) 23))=.ok (.agg (aF c)) (w.alloc (.cells (aF c) 23))):=(aS.new w c).loads
 have K1:=kD (w.alloc (.cells (aF c) 23)) c
 rw[if_pos h] at K1
 have H0:Hid (Below w.heap.size w (w.alloc (.cells (aF c) 23))):=(Below.refl _ _).alloc (Nat.le_refl _) _
 have C0:Hid (aS (w.alloc (.cells (aF c) 23)) w.heap.size c):=aS.new w c
 have oG:Hid (3<=w.heap.size/\okB c=true/\0<=me/\me<c.n):=⟨hz,h,h0,h1⟩
 have g0:¬ (me<0):=by omega
 have g1:¬ (c.n<=me):=by omega
 obtain⟨p,hp⟩:∃ p:Nat,c.p=(p:Int):=⟨c.p.toNat,by have:=gP h;omega⟩
 have hp1:1<=p/\p<=64:=by have:=gP h;omega
 clear hz h h0 h1
 go_enter Tryz.func8,Tryz.ntmps8
 go_upto_region 1 with fail
 generalize hW:w.alloc (Obj.cells (aF c) 23)=W at *
 go_wp2_with (first|(refine af rfl 23 _ rfl _ _ rfl HL.out ?_)|fail)
 refine K1.mono ?_
 rintro e w1 ⟨rfl,hb1⟩
 have H1:Hid (Below w.heap.size w w1):=H0.out.trans (hb1.mono H0.out.size)
 have C1:Hid (aS w1 w.heap.size c):=C0.out.below hb1
 have c1:=C1.out.c0
 have c9:=C1.out.c9
 rw[hp] at c9
 have K2:=TU w1 p hp1.1 hp1.2
 clear K1 hb1 C0 HL H0 hW
 go_wp2_with fail
 refine K2.mono ?_
 rintro e w2 ⟨g,rfl,hBo⟩
 obtain⟨mm,vv,ss,Tv,hb2,hown⟩:=hBo
 have H2:Hid (Below w.heap.size w w2):=H1.out.trans (hb2.mono H1.out.size)
 have HL2:Hid ((Instr.loadAt 23 (.pointer (some ⟨w.heap.size,0,none⟩))).run Tryz.prog w2=.ok (.agg (aF c)) w2):=(C1.out.below hb2).loads
 obtain⟨W3,hW3⟩:=ai (w2.alloc (.cells (OP (newR c me) none 0 g).toArray 76))
 have hb3:Below w2.heap.size w2 W3:=by rw[hW3];exact(Below.refl _ _).alloc (Nat.le_refl _) _
 have hat:rW W3 w2.heap.size (newR c me) none 0 g:=by rw[hW3];exact heap_alloc_new _ _
 have hs0:(⟨p,0,[]⟩:Bs)=(newR c me).b:=by unfold newR;rw[hp];rfl
 have HE:Hid (xw w w2.heap.size c me W3):=by
  have hw1:=H1.out.size
  have hw2:=H2.out.size
  have hz:=oG.out.1
  have hlo:∀ k,dG w2.heap.size g mm vv k->w.heap.size<=k:=λk hk=>by
   rcases hk with rfl|hk
   ·exact hw2
   ·have:=hown k hk;omega
  rw[hs0] at Tv
  exact⟨_,⟨g,mm,vv,none,0,ss,⟨hat,ag.nil' _,Tv.below hb3⟩,zH oG.out.2.1 oG.out.2.2.1 oG.out.2.2.2,λk hk=>by have:=hlo k hk;omega,rfl⟩,hlo,H2.out.trans (hb3.mono H2.out.size)⟩
 have HW3:Hid (W3=w2.alloc (.cells (OP (newR c me) none 0 g).toArray 76)):=hW3
 have hab:=Ph
 have htb:=Pg
 clear K2 Tv hb2 hown hat hs0 hb3 hW3 c1 c9 hp1
 go_wp2_with (first|(refine af rfl 23 _ rfl _ _ rfl HL2.out ?_)|(refine aB rfl 73 _ rfl _ _ rfl (Ph _) ?_)|(refine aB rfl 76 _ rfl _ _ rfl (Pg _ _ _ _) ?_)|fail)
 rw[<-HW3.out]
 go_ret2
 exact⟨_,rfl,HE.out⟩
end Go.Proofs.YtmffplhaclnehaaGreatDoor
namespace Go.Proofs.YtmffplhaclnehaaGreatDoor
set_option maxRecDepth 20000
set_option maxHeartbeats 1600000
open Go.ChangeShapes Go.WideShapes Go.ChangeAt Go.RowKit
variable {w w':World} {R r:Nat} {v:Value} {s:Rv}
def rX (w:World)(R r:Nat)(v:Value)(s':Rv)(w':World):Prop:=∃ v' kb kd ss',dS w' R s' r v' kb kd ss'/\Apart (lM R r v) w w'/\∀ j,v'.ownBlock=some j->v.ownBlock=some j\/w.heap.size<=j
theorem rX.same {ka:Option Addr}{kc:Nat}{ss:List eU}(h:dS w' R s r v ka kc ss)(ha:Apart (lM R r v) w w'):rX w R r v s w':=⟨v,ka,kc,ss,h,ha,λ_ h=>.inl h⟩
theorem rX.after {w1:World}(ha:Apart (lM R r v) w w1)(h:rX w1 R r v s w'):rX w R r v s w':=by
 obtain⟨v',kb,kd,ss',h1,h2,h3⟩:=h
 exact⟨v',kb,kd,ss',h1,ha.trans h2 (λ_ h=>.inl h),λj hj=>(h3 j hj).imp id λh=>Nat.le_trans ha.size h⟩
theorem rX.own {v':Value}(h3:∀ j,v'.ownBlock=some j->v.ownBlock=some j\/w.heap.size<=j):∀ k,lM R r v' k->lM R r v k\/w.heap.size<=k:=λk hk=>by
 rcases hk with rfl|rfl|hk
 ·exact .inl (.inl rfl)
 ·exact .inl (.inr (.inl rfl))
 ·exact(h3 k hk).imp (λh=>.inr (.inr h)) id
theorem rX.left (h:rX w R r v s w')(hok:s.ok)(hhi:∀ k,lM R r v k->3<=k)(hR:R<w.heap.size):Left DM w (lM R r v) R s w':=by
 obtain⟨v',kb,kd,ss',h1,h2,h3⟩:=h
 have h4:=rX.own (w:=w) (R:=R) (r:=r) h3
 have h6:=hhi R (.inl rfl)
 exact⟨_,⟨r,v',kb,kd,ss',h1,hok,λk hk=>(h4 k hk).elim (hhi k) (λh=>by omega),rfl⟩,h2,h4⟩
theorem fB.go {ka:Option Addr}{kc:Nat}{ss:List eU}(h:dS w R s r v ka kc ss){b':Bs}(hl:fB w r v b' w'):rX w R r v { s with b:=b' } w':=by
 obtain⟨v',ss',h1,h2,h3⟩:=hl
 have h2':Apart (DK r v) w w':=h2.mono λk hk=>.inl hk
 exact⟨v',ka,kc,ss',⟨(h2'.block R h.at'.lt h.ne).trans h.at',h.key.apart h2' λk hk=>h.buf.plain hk,h1⟩,h2'.mono λk hk=>.inr hk,h3⟩
theorem xY (w:World)(x:Option Addr)(cx:Nat)(k:List UInt8)(hx:ag w x cx k)(hk:k.length<=140737488351232):∃ d cd w3,(Builtin.append_ #[24,24] 24 #[.slice (some ⟨w.heap.size,0,none⟩) 0 0,.slice x k.length cx]).run Tryz.prog (w.alloc (.cells #[] 5))=.ok (.slice d k.length cd) w3/\ag w3 d cd k/\Below w.heap.size w w3:=by
 have hb:Below w.heap.size w (w.alloc (.cells #[] 5)):=(Below.refl _ _).alloc (Nat.le_refl _) _
 obtain⟨v3,w3,bP,ho,hbl⟩:=aP (w.alloc (.cells #[] 5)) w.heap.size _ [] (ji w) x cx k (hx.below hb) (by simp;omega) (by simp)
 obtain⟨d,cd,rfl,hs3⟩:=ag.bA ho
 rw[List.nil_append] at hs3 bP
 exact⟨d,cd,w3,bP,hs3,hbl _ _ hb (Nat.le_refl _)⟩
theorem Vm (w:World)(c:Cf)(me:Int)(g:Nat):(Instr.build 50 #[(0,.agg (aF c)),(1,.int .i64 me),(2,.int .i64 (-1)),(4,.int .i64 (-1)),(6,.pointer (some ⟨g,0,none⟩)),(7,.int .i64 (-1))]).run Tryz.prog w=.ok (.agg (OQ (newR c me) none 0 g).toArray) w:=run_build w 50 _ _ (by kernel_rfl)
theorem Ra (w:World)(c:Cf)(me:Int)(h:¬ (okB c=true/\0<=me/\me<c.n)):Calls Tryz.prog 9 #[.agg (aF c),.int .i64 me] w λe w'=>e=.returned (.tuple #[.pointer none,.int .i64 1])/\Below w.heap.size w w':=by
 have HL:Hid ((Instr.loadAt 23 (.pointer (some ⟨w.heap.size,0,none⟩))).run Tryz.prog (w.alloc (.cells (aF c) 23))=.ok (.agg (aF c)) (w.alloc (.cells (aF c) 23))):=(aS.new w c).loads
 have K1:=jq (w.alloc (.cells (aF c) 23)) c
 have H0:Hid (Below w.heap.size w (w.alloc (.cells (aF c) 23))):=(Below.refl _ _).alloc (Nat.le_refl _) _
 have c0:(w.alloc (.cells (aF c) 23)).cell? ⟨w.heap.size,0,none⟩=some (.int .i64 c.n):=(aS.new w c).c0
 have C0:Hid (aS (w.alloc (.cells (aF c) 23)) w.heap.size c):=aS.new w c
 go_enter Tryz.func9,Tryz.ntmps9
 go_upto_region 1 with fail
 generalize hW:w.alloc (Obj.cells (aF c) 23)=W at *
 go_wp2_with (first|(refine af rfl 23 _ rfl _ _ rfl HL.out ?_)|fail)
 refine K1.mono ?_
 rintro e w1 ⟨rfl,hb1⟩
 have H1:Hid (Below w.heap.size w w1):=H0.out.trans (hb1.mono H0.out.size)
 have c1:=(C0.out.below hb1).c0
 clear K1 hb1 c0 C0 HL H0
 by_cases h1:okB c=true
 ·rw[if_pos h1]
  by_cases h2:me<0
  ·clear h
   go_wp2
   go_ret2
   exact⟨rfl,H1.out⟩
  ·have h3:c.n<=me:=Int.not_lt.1 λhh=>h ⟨h1,by omega,hh⟩
   clear h
   go_wp2
   go_ret2
   exact⟨rfl,H1.out⟩
 ·rw[if_neg h1]
  clear h h1
  go_wp2
  go_ret2
  exact⟨rfl,H1.out⟩
theorem Rc (w:World)(c:Cf)(me:Int)(hz:3<=w.heap.size)(h:okB c=true)(h0:0<=me)(h1:me<c.n):Calls Tryz.prog 9 #[.agg (aF c),.int .i64 me] w λe w'=>∃ R,e=.returned (.tuple #[.pointer (some ⟨R,0,none⟩),.int .i64 0])/\OW w R c me w':=by
 have HL:Hid ((Instr.loadAt 23 (.pointer (some ⟨w.heap.size,0,none⟩))).run Tryz.prog (w.alloc (.cells (aF c) 23))=.ok (.agg (aF c)) (w.alloc (.cells (aF c) 23))):=(aS.new w c).loads
 have K1:=jq (w.alloc (.cells (aF c) 23)) c
 rw[if_pos h] at K1
 have H0:Hid (Below w.heap.size w (w.alloc (.cells (aF c) 23))):=(Below.refl _ _).alloc (Nat.le_refl _) _
 have C0:Hid (aS (w.alloc (.cells (aF c) 23)) w.heap.size c):=aS.new w c
 have oG:Hid (3<=w.heap.size/\okB c=true/\0<=me/\me<c.n):=⟨hz,h,h0,h1⟩
 have g0:¬ (me<0):=by omega
 have g1:¬ (c.n<=me):=by omega
 obtain⟨p,hp⟩:∃ p:Nat,c.p=(p:Int):=⟨c.p.toNat,by have:=gP h;omega⟩
 have hp1:1<=p/\p<=64:=by have:=gP h;omega
 clear hz h h0 h1
 go_enter Tryz.func9,Tryz.ntmps9
 go_upto_region 1 with fail
 generalize hW:w.alloc (Obj.cells (aF c) 23)=W at *
 go_wp2_with (first|(refine af rfl 23 _ rfl _ _ rfl HL.out ?_)|fail)
 refine K1.mono ?_
 rintro e w1 ⟨rfl,hb1⟩
 have H1:Hid (Below w.heap.size w w1):=H0.out.trans (hb1.mono H0.out.size)
 have C1:Hid (aS w1 w.heap.size c):=C0.out.below hb1
 have c1:=C1.out.c0
 have c9:=C1.out.c9
 rw[hp] at c9
 have K2:=PV w1 p hp1.1 hp1.2
 clear K1 hb1 C0 HL H0 hW
 go_wp2_with fail
 refine K2.mono ?_
 rintro e w2 ⟨rfl,Tv,hb2⟩
 obtain⟨g,hg⟩:=ai w1.heap.size
 rw[<-hg] at Tv ⊢
 have HGG:Hid (g=w1.heap.size):=hg
 clear hg
 have H2:Hid (Below w.heap.size w w2):=H1.out.trans (hb2.mono H1.out.size)
 have HL2:Hid ((Instr.loadAt 23 (.pointer (some ⟨w.heap.size,0,none⟩))).run Tryz.prog w2=.ok (.agg (aF c)) w2):=(C1.out.below hb2).loads
 obtain⟨W3,hW3⟩:=ai (w2.alloc (.cells (OQ (newR c me) none 0 g).toArray 50))
 have hb3:Below w2.heap.size w2 W3:=by rw[hW3];exact(Below.refl _ _).alloc (Nat.le_refl _) _
 have hat:AY W3 w2.heap.size (newR c me) none 0 g:=by rw[hW3];exact heap_alloc_new _ _
 have hs0:(⟨p,0,[]⟩:Bs)=(newR c me).b:=by unfold newR;rw[hp];rfl
 have HE:Hid (OW w w2.heap.size c me W3):=by
  have hw1:=H1.out.size
  have hw2:=H2.out.size
  have hz:=oG.out.1
  have hlo:∀ k,lM w2.heap.size g (.slice none 0 0) k->w.heap.size<=k:=λk hk=>by
   rcases hk with rfl|rfl|hk
   ·exact hw2
   ·have:=HGG.out;omega
   ·cases hk
  rw[hs0] at Tv
  exact⟨_,⟨g,.slice none 0 0,none,0,[],⟨hat,ag.nil' _,Tv.below hb3⟩,zH oG.out.2.1 oG.out.2.2.1 oG.out.2.2.2,λk hk=>by have:=hlo k hk;omega,rfl⟩,hlo,H2.out.trans (hb3.mono H2.out.size)⟩
 have HW3:Hid (W3=w2.alloc (.cells (OQ (newR c me) none 0 g).toArray 50)):=hW3
 clear K2 Tv hb2 hat hs0 hb3 hW3 c1 c9 hp1
 go_wp2_with (first|(refine af rfl 23 _ rfl _ _ rfl HL2.out ?_)|(refine aB rfl 50 _ rfl _ _ rfl (Vm _ _ _ _) ?_)|fail)
 rw[<-HW3.out]
 go_ret2
 exact⟨_,rfl,HE.out⟩
end Go.Proofs.YtmffplhaclnehaaGreatDoor
