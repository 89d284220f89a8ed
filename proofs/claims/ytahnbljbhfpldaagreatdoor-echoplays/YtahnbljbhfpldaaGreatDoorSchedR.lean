/-
  The document's side: from and Check.
  The document's side: Round, Keep, Quiet.
  The document's side: At, Speak, Patience.
  The document's side: Place.
-/
import Derived.Test.YtahnbljbhfpldaaGreatDoorSchedA
namespace Go.Proofs.YtahnbljbhfpldaaGreatDoor
set_option maxRecDepth 20000
set_option maxHeartbeats 1600000
open Go.ChangeShapes Go.WideShapes Go.ChangeAt Go.RowKit
structure Cfg (w:World)(g:Nat)(c:Cf)(W:World):Prop where
 own:CfAt W g c
 le:w.heap.size<=g
 bel:Below w.heap.size w W
theorem Cfg.new (w:World)(c:Cf):Cfg w w.heap.size c (w.alloc (.cells (cfC c) 23)):=⟨CfAt.new w c,Nat.le_refl _,Go.Joins.below_alloc1 _ _⟩
theorem Cfg.drew {w W:World}{g:Nat}{c:Cf}(h:Cfg w g c W):Cfg w g c W.drew:=⟨h.own,h.le,h.bel.drew⟩
theorem Cfg.step {w W V:World}{g:Nat}{c:Cf}(h:Cfg w g c W)(hb:Below W.heap.size W V):Cfg w g c V:=⟨h.own.below hb,h.le,h.bel.trans (hb.mono h.bel.size)⟩
theorem Cfg.held {w W:World}{g:Nat}{c:Cf}(h:Cfg w g c W):(W.cell? ⟨g,0,none⟩=some (.int .i64 c.n)/\W.cell? ⟨g,1,none⟩=some (.int .i64 c.f)/\W.cell? ⟨g,2,none⟩=some (.int .i64 c.s)/\W.cell? ⟨g,3,none⟩=some (.int .i64 c.d)/\W.cell? ⟨g,4,none⟩=some (.int .i64 c.k)/\W.cell? ⟨g,5,none⟩=some (.int .i64 c.e)/\W.cell? ⟨g,6,none⟩=some (.int .i64 c.v)/\W.cell? ⟨g,7,none⟩=some (.int .i64 c.r)/\W.cell? ⟨g,8,none⟩=some (.int .i64 c.l)/\W.cell? ⟨g,9,none⟩=some (.int .i64 c.p))/\Cfg w g c W:=
 ⟨⟨h.own.c0,h.own.c1,h.own.c2,h.own.c3,h.own.c4,h.own.c5,h.own.c6,h.own.c7,h.own.c8,h.own.c9⟩,h⟩
theorem scheck_ok (w:World)(c:Cf):Calls Tryz.prog 28 #[.agg (cfC c)] w λe w'=>e=.returned (.int .i64 (if okB c=true then 0 else 1))/\Below w.heap.size w w':=by
 have K1:Hid (∀ W,Calls Tryz.prog 56 #[.agg (cfC c)] W λe w'=>e=.returned (.agg (cfC (bNodes c)))/\Below W.heap.size W w'):=λW=>bnodes_ok W c
 have n1:∀ W,(binOp .neq 23 (.agg #[.int .i64 c.n,.int .i64 c.f,.int .i64 c.s,.int .i64 c.d,.int .i64 c.k,.int .i64 c.e,.int .i64 c.v,.int .i64 c.r,.int .i64 c.l,.int .i64 c.p]) (.agg (cfC (bNodes c)))).run Tryz.prog W=.ok (.bool (!nodesB c)) W:=λW=>by rw[<-same_nodes];exact neqCf c (bNodes c) W
 have K2:Hid (∀ W,Calls Tryz.prog 57 #[.agg (cfC c)] W λe w'=>e=.returned (.agg (cfC (bSlots c)))/\Below W.heap.size W w'):=λW=>bslots_ok W c
 have n2:∀ W,(binOp .neq 23 (.agg #[.int .i64 c.n,.int .i64 c.f,.int .i64 c.s,.int .i64 c.d,.int .i64 c.k,.int .i64 c.e,.int .i64 c.v,.int .i64 c.r,.int .i64 c.l,.int .i64 c.p]) (.agg (cfC (bSlots c)))).run Tryz.prog W=.ok (.bool (!slotsB c)) W:=λW=>by rw[<-same_slots];exact neqCf c (bSlots c) W
 have K3:Hid (∀ W,Calls Tryz.prog 58 #[.agg (cfC c)] W λe w'=>e=.returned (.agg (cfC (bKeys c)))/\Below W.heap.size W w'):=λW=>bkeys_ok W c
 have n3:∀ W,(binOp .neq 23 (.agg #[.int .i64 c.n,.int .i64 c.f,.int .i64 c.s,.int .i64 c.d,.int .i64 c.k,.int .i64 c.e,.int .i64 c.v,.int .i64 c.r,.int .i64 c.l,.int .i64 c.p]) (.agg (cfC (bKeys c)))).run Tryz.prog W=.ok (.bool (!keysB c)) W:=λW=>by rw[<-same_keys];exact neqCf c (bKeys c) W
 have K4:Hid (∀ W,Calls Tryz.prog 59 #[.agg (cfC c)] W λe w'=>e=.returned (.agg (cfC (bClocks c)))/\Below W.heap.size W w'):=λW=>bclocks_ok W c
 have n4:∀ W,(binOp .neq 23 (.agg #[.int .i64 c.n,.int .i64 c.f,.int .i64 c.s,.int .i64 c.d,.int .i64 c.k,.int .i64 c.e,.int .i64 c.v,.int .i64 c.r,.int .i64 c.l,.int .i64 c.p]) (.agg (cfC (bClocks c)))).run Tryz.prog W=.ok (.bool (!clocksB c)) W:=λW=>by rw[<-same_clocks];exact neqCf c (bClocks c) W
 have H0:Hid (Cfg w w.heap.size c (w.alloc (.cells (cfC c) 23))):=Cfg.new w c
 unfold okB
 generalize nodesB c=b1 at *
 generalize bNodes c=c1 at *
 generalize slotsB c=b2 at *
 generalize bSlots c=c2 at *
 generalize keysB c=b3 at *
 generalize bKeys c=c3 at *
 generalize clocksB c=b4 at *
 generalize bClocks c=c4 at *
 go_enter Tryz.func28,Tryz.ntmps28
 go_upto_region 1 with fail
 generalize hg:w.heap.size=g at *
 generalize w.alloc (.cells (cfC c) 23)=W at *
 have HG:Hid (w.heap.size=g):=hg
 clear hg
 go_region_held3 (λV=>(V.cell? ⟨g,0,none⟩=some (.int .i64 c.n)/\V.cell? ⟨g,1,none⟩=some (.int .i64 c.f)/\V.cell? ⟨g,2,none⟩=some (.int .i64 c.s)/\V.cell? ⟨g,3,none⟩=some (.int .i64 c.d)/\V.cell? ⟨g,4,none⟩=some (.int .i64 c.k)/\V.cell? ⟨g,5,none⟩=some (.int .i64 c.e)/\V.cell? ⟨g,6,none⟩=some (.int .i64 c.v)/\V.cell? ⟨g,7,none⟩=some (.int .i64 c.r)/\V.cell? ⟨g,8,none⟩=some (.int .i64 c.l)/\V.cell? ⟨g,9,none⟩=some (.int .i64 c.p))/\Cfg w g c V)
   (first|exact H0.out.held|assumption|exact(Cfg.drew (And.right (by assumption))).held|exact H0.out.drew.held)
   (first|(go_at_call 56;refine(K1.out _).mono ?_;rintro e w1 ⟨rfl,hb⟩;replace hb:=(Cfg.step (And.right (by assumption)) hb).held))
 rename_i hh1
 have H1:Hid (Cfg w g c w1):=hh1.2
 clear hh1 hb H0 K1 n1
 cases b1
 case false=>
  go_wp2
  go_ret
  exact⟨by simp,HG.out▸H1.out.bel⟩
 go_upto_region 2 with fail
 go_region_held3 (λV=>(V.cell? ⟨g,0,none⟩=some (.int .i64 c.n)/\V.cell? ⟨g,1,none⟩=some (.int .i64 c.f)/\V.cell? ⟨g,2,none⟩=some (.int .i64 c.s)/\V.cell? ⟨g,3,none⟩=some (.int .i64 c.d)/\V.cell? ⟨g,4,none⟩=some (.int .i64 c.k)/\V.cell? ⟨g,5,none⟩=some (.int .i64 c.e)/\V.cell? ⟨g,6,none⟩=some (.int .i64 c.v)/\V.cell? ⟨g,7,none⟩=some (.int .i64 c.r)/\V.cell? ⟨g,8,none⟩=some (.int .i64 c.l)/\V.cell? ⟨g,9,none⟩=some (.int .i64 c.p))/\Cfg w g c V)
   (first|exact H1.out.held|assumption|exact(Cfg.drew (And.right (by assumption))).held|exact H1.out.drew.held)
   (first|(go_at_call 57;refine(K2.out _).mono ?_;rintro e w2 ⟨rfl,hb⟩;replace hb:=(Cfg.step (And.right (by assumption)) hb).held))
 rename_i hh2
 have H2:Hid (Cfg w g c w2):=hh2.2
 clear hh2 hb H1 K2 n2
 cases b2
 case false=>
  go_wp2
  go_ret
  exact⟨by simp,HG.out▸H2.out.bel⟩
 go_upto_region 3 with fail
 go_region_held3 (λV=>(V.cell? ⟨g,0,none⟩=some (.int .i64 c.n)/\V.cell? ⟨g,1,none⟩=some (.int .i64 c.f)/\V.cell? ⟨g,2,none⟩=some (.int .i64 c.s)/\V.cell? ⟨g,3,none⟩=some (.int .i64 c.d)/\V.cell? ⟨g,4,none⟩=some (.int .i64 c.k)/\V.cell? ⟨g,5,none⟩=some (.int .i64 c.e)/\V.cell? ⟨g,6,none⟩=some (.int .i64 c.v)/\V.cell? ⟨g,7,none⟩=some (.int .i64 c.r)/\V.cell? ⟨g,8,none⟩=some (.int .i64 c.l)/\V.cell? ⟨g,9,none⟩=some (.int .i64 c.p))/\Cfg w g c V)
   (first|exact H2.out.held|assumption|exact(Cfg.drew (And.right (by assumption))).held|exact H2.out.drew.held)
   (first|(go_at_call 58;refine(K3.out _).mono ?_;rintro e w3 ⟨rfl,hb⟩;replace hb:=(Cfg.step (And.right (by assumption)) hb).held))
 rename_i hh3
 have H3:Hid (Cfg w g c w3):=hh3.2
 clear hh3 hb H2 K3 n3
 cases b3
 case false=>
  go_wp2
  go_ret
  exact⟨by simp,HG.out▸H3.out.bel⟩
 go_upto_region 4 with fail
 go_region_held3 (λV=>(V.cell? ⟨g,0,none⟩=some (.int .i64 c.n)/\V.cell? ⟨g,1,none⟩=some (.int .i64 c.f)/\V.cell? ⟨g,2,none⟩=some (.int .i64 c.s)/\V.cell? ⟨g,3,none⟩=some (.int .i64 c.d)/\V.cell? ⟨g,4,none⟩=some (.int .i64 c.k)/\V.cell? ⟨g,5,none⟩=some (.int .i64 c.e)/\V.cell? ⟨g,6,none⟩=some (.int .i64 c.v)/\V.cell? ⟨g,7,none⟩=some (.int .i64 c.r)/\V.cell? ⟨g,8,none⟩=some (.int .i64 c.l)/\V.cell? ⟨g,9,none⟩=some (.int .i64 c.p))/\Cfg w g c V)
   (first|exact H3.out.held|assumption|exact(Cfg.drew (And.right (by assumption))).held|exact H3.out.drew.held)
   (first|(go_at_call 59;refine(K4.out _).mono ?_;rintro e w4 ⟨rfl,hb⟩;replace hb:=(Cfg.step (And.right (by assumption)) hb).held))
 rename_i hh4
 have H4:Hid (Cfg w g c w4):=hh4.2
 clear hh4 hb H3 K4 n4
 cases b4
 case false=>
  go_wp2
  go_ret
  exact⟨by simp,HG.out▸H4.out.bel⟩
 go_wp2
 go_ret
 exact⟨by simp,HG.out▸H4.out.bel⟩
theorem wrap_in {x:Int}(h0 : -9223372036854775808<=x)(h1:x<=9223372036854775807):IntKind.i64.wrap x=x:=by rw[IntKind.wrap_i64];omega
end Go.Proofs.YtahnbljbhfpldaaGreatDoor
namespace Go.Proofs.YtahnbljbhfpldaaGreatDoor
set_option maxRecDepth 20000
set_option maxHeartbeats 3200000
open Go.ChangeShapes Go.WideShapes Go.ChangeAt Go.RowKit
def fromB (n a b:Int):Bool:=decide (a<=n/\n<=b)
theorem from_in {n a b:Int}(h:fromB n a b=true):a<=n/\n<=b:=of_decide_eq_true h
theorem from_ok (w:World)(n a b:Int):Calls Tryz.prog 60 #[.int .i64 n,.int .i64 a,.int .i64 b] w λe w'=>e=.returned (.bool (fromB n a b))/\w'=w:=by
 by_cases h0:a<=n
 ·have hN:fromB n a b=decide (n<=b):=by simp[fromB,h0]
  rw[hN]
  clear hN
  by_cases h1:n<=b
  all_goals
   simp only[h1,decide_true,decide_false]
   go_enter Tryz.func60,Tryz.ntmps60
   go_wp2
   go_ret
   exact⟨by first|rfl|(simp;done)|(simp;omega),rfl⟩
 ·rw[show fromB n a b=false by simp[fromB,h0]]
  go_enter Tryz.func60,Tryz.ntmps60
  go_wp2
  go_ret
  exact⟨by first|rfl|(simp;done)|(simp;omega),rfl⟩
theorem ok_chain (c:Cf):okB c=(fromB c.n 1 8&&fromB c.f 0 8&&decide (3*c.f<c.n)&&fromB c.s 300 10000&&fromB c.d 1 4&&fromB c.k (c.d+4) 256&&fromB c.e 1 (4*c.s)&&fromB c.v 100 (4*c.s)&&fromB c.r 0 5&&fromB c.l 0 5&&fromB c.p 1 64):=by
 rw[Bool.eq_iff_iff]
 simp only[okB,nodesB,slotsB,keysB,clocksB,fromB,Bool.and_eq_true,decide_eq_true_eq]
 constructor
 ·rintro⟨⟨⟨⟨a1,a2,a3,a4⟩,b1,b2,b3,b4,b5,b6⟩,c1,c2,c3,c4,c5,c6⟩,d1,d2,d3,d4⟩
  exact⟨⟨⟨⟨⟨⟨⟨⟨⟨⟨⟨a1,a2⟩,a3,by omega⟩,a4⟩,b1,b2⟩,c1,c2⟩,c3,c4⟩,b3,b4⟩,b5,b6⟩,d1,d2⟩,d3,d4⟩,c5,c6⟩
 ·rintro⟨⟨⟨⟨⟨⟨⟨⟨⟨⟨⟨a1,a2⟩,a3,_⟩,a4⟩,b1,b2⟩,c1,c2⟩,c3,c4⟩,b3,b4⟩,b5,b6⟩,d1,d2⟩,d3,d4⟩,c5,c6⟩
  exact⟨⟨⟨⟨a1,a2,a3,a4⟩,b1,b2,b3,b4,b5,b6⟩,c1,c2,c3,c4,c5,c6⟩,d1,d2,d3,d4⟩
theorem srcheck_ok (w:World)(c:Cf):Calls Tryz.prog 30 #[.agg (cfC c)] w λe w'=>e=.returned (.int .i64 (if okB c=true then 0 else 1))/\Below w.heap.size w w':=by
 have H0:Hid (Cfg w w.heap.size c (w.alloc (.cells (cfC c) 23))):=Cfg.new w c
 rw[ok_chain c]
 have F1:Hid (∀ W,Calls Tryz.prog 60 #[.int .i64 c.n,.int .i64 1,.int .i64 8] W λe w'=>e=.returned (.bool (fromB c.n 1 8))/\w'=W):=λW=>from_ok W _ _ _
 have F2:Hid (∀ W,Calls Tryz.prog 60 #[.int .i64 c.f,.int .i64 0,.int .i64 8] W λe w'=>e=.returned (.bool (fromB c.f 0 8))/\w'=W):=λW=>from_ok W _ _ _
 have F4:Hid (∀ W,Calls Tryz.prog 60 #[.int .i64 c.s,.int .i64 300,.int .i64 10000] W λe w'=>e=.returned (.bool (fromB c.s 300 10000))/\w'=W):=λW=>from_ok W _ _ _
 have F5:Hid (∀ W,Calls Tryz.prog 60 #[.int .i64 c.d,.int .i64 1,.int .i64 4] W λe w'=>e=.returned (.bool (fromB c.d 1 4))/\w'=W):=λW=>from_ok W _ _ _
 have F6:Hid (∀ W,Calls Tryz.prog 60 #[.int .i64 c.k,.int .i64 (c.d+4),.int .i64 256] W λe w'=>e=.returned (.bool (fromB c.k (c.d+4) 256))/\w'=W):=λW=>from_ok W _ _ _
 have F7:Hid (∀ W,Calls Tryz.prog 60 #[.int .i64 c.e,.int .i64 1,.int .i64 (4*c.s)] W λe w'=>e=.returned (.bool (fromB c.e 1 (4*c.s)))/\w'=W):=λW=>from_ok W _ _ _
 have F8:Hid (∀ W,Calls Tryz.prog 60 #[.int .i64 c.v,.int .i64 100,.int .i64 (4*c.s)] W λe w'=>e=.returned (.bool (fromB c.v 100 (4*c.s)))/\w'=W):=λW=>from_ok W _ _ _
 have F9:Hid (∀ W,Calls Tryz.prog 60 #[.int .i64 c.r,.int .i64 0,.int .i64 5] W λe w'=>e=.returned (.bool (fromB c.r 0 5))/\w'=W):=λW=>from_ok W _ _ _
 have F10:Hid (∀ W,Calls Tryz.prog 60 #[.int .i64 c.l,.int .i64 0,.int .i64 5] W λe w'=>e=.returned (.bool (fromB c.l 0 5))/\w'=W):=λW=>from_ok W _ _ _
 have F11:Hid (∀ W,Calls Tryz.prog 60 #[.int .i64 c.p,.int .i64 1,.int .i64 64] W λe w'=>e=.returned (.bool (fromB c.p 1 64))/\w'=W):=λW=>from_ok W _ _ _
 have E3:Hid (fromB c.f 0 8=true->IntKind.i64.wrap (3*c.f)=3*c.f):=λh=>by have:=from_in h;exact wrap_in (by omega) (by omega)
 have E6:Hid (fromB c.d 1 4=true->IntKind.i64.wrap (c.d+4)=c.d+4):=λh=>by have:=from_in h;exact wrap_in (by omega) (by omega)
 have E7:Hid (fromB c.s 300 10000=true->IntKind.i64.wrap (4*c.s)=4*c.s):=λh=>by have:=from_in h;exact wrap_in (by omega) (by omega)
 generalize fromB c.n 1 8=b1 at *
 generalize fromB c.f 0 8=b2 at *
 generalize fromB c.s 300 10000=b4 at *
 generalize fromB c.d 1 4=b5 at *
 generalize fromB c.k (c.d+4) 256=b6 at *
 generalize fromB c.e 1 (4*c.s)=b7 at *
 generalize fromB c.v 100 (4*c.s)=b8 at *
 generalize fromB c.r 0 5=b9 at *
 generalize fromB c.l 0 5=b10 at *
 generalize fromB c.p 1 64=b11 at *
 go_enter Tryz.func30,Tryz.ntmps30
 obtain⟨p0,p1,p2,p3,p4,p5,p6,p7,p8,p9⟩:=H0.out.held.1
 go_wp2_with fail
 refine(F1.out _).mono ?_
 rintro e w1 ⟨rfl,rfl⟩
 clear F1
 cases b1
 case false=>
  go_wp2
  all_goals
   go_ret
   exact⟨by first|rfl|(simp;done)|(simp[h3];done),H0.out.bel⟩
 go_wp2_with fail
 refine(F2.out _).mono ?_
 rintro e w1 ⟨rfl,rfl⟩
 clear F2
 cases b2
 case false=>
  go_wp2
  all_goals
   go_ret
   exact⟨by first|rfl|(simp;done)|(simp[h3];done),H0.out.bel⟩
 have e3:=E3.out rfl
 clear E3
 by_cases h3:3*c.f<c.n
 case neg=>
  go_wp2
  all_goals
   go_ret
   exact⟨by first|rfl|(simp;done)|(simp[h3];done),H0.out.bel⟩
 go_wp2_with fail
 refine(F4.out _).mono ?_
 rintro e w1 ⟨rfl,rfl⟩
 clear F4
 cases b4
 case false=>
  go_wp2
  all_goals
   go_ret
   exact⟨by first|rfl|(simp;done)|(simp[h3];done),H0.out.bel⟩
 have e7:=E7.out rfl
 clear E7
 go_wp2_with fail
 refine(F5.out _).mono ?_
 rintro e w1 ⟨rfl,rfl⟩
 clear F5
 cases b5
 case false=>
  go_wp2
  all_goals
   go_ret
   exact⟨by first|rfl|(simp;done)|(simp[h3];done),H0.out.bel⟩
 have e6:=E6.out rfl
 clear E6
 go_wp2_with fail
 refine(F6.out _).mono ?_
 rintro e w1 ⟨rfl,rfl⟩
 clear F6
 cases b6
 case false=>
  go_wp2
  all_goals
   go_ret
   exact⟨by first|rfl|(simp;done)|(simp[h3];done),H0.out.bel⟩
 go_wp2_with fail
 refine(F7.out _).mono ?_
 rintro e w1 ⟨rfl,rfl⟩
 clear F7
 cases b7
 case false=>
  go_wp2
  all_goals
   go_ret
   exact⟨by first|rfl|(simp;done)|(simp[h3];done),H0.out.bel⟩
 go_wp2_with fail
 refine(F8.out _).mono ?_
 rintro e w1 ⟨rfl,rfl⟩
 clear F8
 cases b8
 case false=>
  go_wp2
  all_goals
   go_ret
   exact⟨by first|rfl|(simp;done)|(simp[h3];done),H0.out.bel⟩
 go_wp2_with fail
 refine(F9.out _).mono ?_
 rintro e w1 ⟨rfl,rfl⟩
 clear F9
 cases b9
 case false=>
  go_wp2
  all_goals
   go_ret
   exact⟨by first|rfl|(simp;done)|(simp[h3];done),H0.out.bel⟩
 go_wp2_with fail
 refine(F10.out _).mono ?_
 rintro e w1 ⟨rfl,rfl⟩
 clear F10
 cases b10
 case false=>
  go_wp2
  all_goals
   go_ret
   exact⟨by first|rfl|(simp;done)|(simp[h3];done),H0.out.bel⟩
 go_wp2_with fail
 refine(F11.out _).mono ?_
 rintro e w1 ⟨rfl,rfl⟩
 clear F11
 cases b11
 case false=>
  go_wp2
  all_goals
   go_ret
   exact⟨by first|rfl|(simp;done)|(simp[h3];done),H0.out.bel⟩
 go_wp2
 all_goals
  go_ret
  exact⟨by first|rfl|(simp;done)|(simp[h3];done),H0.out.bel⟩
end Go.Proofs.YtahnbljbhfpldaaGreatDoor
