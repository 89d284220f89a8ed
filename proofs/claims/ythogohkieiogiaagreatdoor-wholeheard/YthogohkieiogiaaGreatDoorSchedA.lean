/-
  A config by value, and in memory; two of them compared; an argument that is one.
  The contracts of within, boundNodes, boundSlots, boundKeys, boundClocks and Check.
-/
import Derived.Test.YthogohkieiogiaaGreatDoorPureB
import Derived.Test.YthogohkieiogiaaGreatDoorRows
import Derived.Laws.StructEq
import Derived.Lib.SmallJoins
import Derived.Deep.Fields
import Derived.Deep.Cut
namespace Go.Proofs.YthogohkieiogiaaGreatDoor
set_option maxRecDepth 20000
set_option maxHeartbeats 1600000
open Go.ChangeShapes Go.WideShapes Go.ChangeAt Go.RowKit
def cfL (c:Cf):List Value:=[.int .i64 c.n,.int .i64 c.f,.int .i64 c.s,.int .i64 c.d,.int .i64 c.k,.int .i64 c.e,.int .i64 c.v,.int .i64 c.r,.int .i64 c.l,.int .i64 c.p]
def cfC (c:Cf):Array Value:=(cfL c).toArray
theorem cfC_size (c:Cf):(cfC c).size=10:=rfl
theorem cfC_one (c:Cf):(cfC c).all (·.oneCell')=true:=all_oneCell_toArray (by
 intro v hv
 simp only[cfL,List.mem_cons,List.not_mem_nil,or_false] at hv
 rcases hv with rfl|rfl|rfl|rfl|rfl|rfl|rfl|rfl|rfl|rfl<;>rfl)
def CfAt (w:World)(g:Nat)(c:Cf):Prop:=w.heap[g]?=some (.cells (cfC c) 24 (0,0))
theorem CfAt.cell {w:World}{g:Nat}{c:Cf}(h:CfAt w g c)(i:Nat){u:Value}(hu:(cfL c)[i]?=some u):w.cell? ⟨g,i,none⟩=some u:=by
 rw[cell_of_row w _ i _ _ _ h];simpa [cfC] using hu
theorem CfAt.c0 {w:World}{g:Nat}{c:Cf}(h:CfAt w g c):w.cell? ⟨g,0,none⟩=some (.int .i64 c.n):=h.cell 0 rfl
theorem CfAt.c1 {w:World}{g:Nat}{c:Cf}(h:CfAt w g c):w.cell? ⟨g,1,none⟩=some (.int .i64 c.f):=h.cell 1 rfl
theorem CfAt.c2 {w:World}{g:Nat}{c:Cf}(h:CfAt w g c):w.cell? ⟨g,2,none⟩=some (.int .i64 c.s):=h.cell 2 rfl
theorem CfAt.c3 {w:World}{g:Nat}{c:Cf}(h:CfAt w g c):w.cell? ⟨g,3,none⟩=some (.int .i64 c.d):=h.cell 3 rfl
theorem CfAt.c4 {w:World}{g:Nat}{c:Cf}(h:CfAt w g c):w.cell? ⟨g,4,none⟩=some (.int .i64 c.k):=h.cell 4 rfl
theorem CfAt.c5 {w:World}{g:Nat}{c:Cf}(h:CfAt w g c):w.cell? ⟨g,5,none⟩=some (.int .i64 c.e):=h.cell 5 rfl
theorem CfAt.c6 {w:World}{g:Nat}{c:Cf}(h:CfAt w g c):w.cell? ⟨g,6,none⟩=some (.int .i64 c.v):=h.cell 6 rfl
theorem CfAt.c7 {w:World}{g:Nat}{c:Cf}(h:CfAt w g c):w.cell? ⟨g,7,none⟩=some (.int .i64 c.r):=h.cell 7 rfl
theorem CfAt.c8 {w:World}{g:Nat}{c:Cf}(h:CfAt w g c):w.cell? ⟨g,8,none⟩=some (.int .i64 c.l):=h.cell 8 rfl
theorem CfAt.c9 {w:World}{g:Nat}{c:Cf}(h:CfAt w g c):w.cell? ⟨g,9,none⟩=some (.int .i64 c.p):=h.cell 9 rfl
theorem CfAt.fz {w:World}{g:Nat}{c:Cf}(h:CfAt w g c)(i:Nat):w.frozen? ⟨g,i,none⟩=false:=frozen_of_row _ _ i _ _ h
theorem CfAt.lt {w:World}{g:Nat}{c:Cf}(h:CfAt w g c):g<w.heap.size:=(Array.getElem?_eq_some_iff.1 h).1
theorem CfAt.keep {w w':World}{g:Nat}{c:Cf}(h:CfAt w g c)(hb:w'.heap[g]?=w.heap[g]?):CfAt w' g c:=hb.trans h
theorem CfAt.below {w w':World}{g:Nat}{c:Cf}(h:CfAt w g c)(hb:Below w.heap.size w w'):CfAt w' g c:=h.keep (hb.block g h.lt)
theorem CfAt.new (w:World)(c:Cf):CfAt (w.alloc (.cells (cfC c) 24)) w.heap.size c:=heap_alloc_new _ _
theorem CfAt.alloc {w:World}{g:Nat}{c:Cf}(h:CfAt w g c)(o:Obj):CfAt (w.alloc o) g c:=by
 show (w.heap.push o)[g]?=_
 rw[Array.getElem?_push,if_neg (Nat.ne_of_lt h.lt)];exact h
theorem CfAt.loads {w:World}{g:Nat}{c:Cf}(h:CfAt w g c):(Instr.loadAt 24 (.pointer (some ⟨g,0,none⟩))).run Tryz.prog w=.ok (.agg (cfC c)) w:=
 loadAt_row w g 24 24 _ (0,0) _ h Tryz.underlying24 rfl (by rw[cfC_size];kernel_rfl)
theorem CfAt.stores {w:World}{g:Nat}{c:Cf}(h:CfAt w g c)(b:Cf):(Instr.storeAt 24 (.pointer (some ⟨g,0,none⟩)) (.agg (cfC b))).run Tryz.prog w=.ok () (w.setRow g (cfC b)):=
 storeAt_row w g 24 24 _ _ h (by rw[cfC_size];kernel_rfl) rfl (cfC_one b)
theorem CfAt.stored {w:World}{g:Nat}{c:Cf}(h:CfAt w g c)(b:Cf):CfAt (w.setRow g (cfC b)) g b:=setRow_heap _ _ _ _ 24 _ h
theorem res_cf {fn:Func}{p:Tmp}(h:fn.results=#[.cell p 24]){tmps:Array Value}{w:World}{g:Nat}{c:Cf}(hp:tmps.getD p undef=.pointer (some ⟨g,0,none⟩))(hg:CfAt w g c):
  (results fn tmps).run Tryz.prog w=.ok (.agg (cfC c)) w:=
 results_cell_row h tmps w g 24 _ (0,0) _ hp hg Tryz.underlying24 rfl (by rw[cfC_size];kernel_rfl)
theorem CfAt.put {w:World}{g:Nat}{c b:Cf}(h:CfAt w g c)(i:Nat)(u:Value)(hl:(cfL c).set i u=cfL b):CfAt (w.setCell ⟨g,i,none⟩ u) g b:=by
 show (w.setCell ⟨g,i,none⟩ u).heap[g]?=_
 rw[heap_setCell_same _ _ _ _ _ _ h]
 congr 2
 show ((cfL c).toArray).setIfInBounds i u=(cfL b).toArray
 rw[List.setIfInBounds_toArray,hl]
theorem eqCf (a b:Cf)(w:World):(binOp .eql 24 (.agg (cfC a)) (.agg (cfC b))).run Tryz.prog w=.ok (.bool (ssameB a b)) w:=by
 have u3:=Tryz.underlying3
 have a3:=Tryz.isAgg3
 have z3:=Tryz.sizeOf3
 have hS:Tryz.prog.underlying 24=some (.struct (Tryz.prog.fieldsOf 24)):=by kernel_rfl
 have hp:Tryz.prog.stoodInHeld 24=false:=by kernel_rfl
 rw[run_eql_struct,show (10000:Nat)=9999+1 from rfl,run_equalIn_agg w 9999 24 _ _ hS hp]
 simp only[Program.fieldsOf,Tryz.underlying24]
 obtain⟨a0,a1,a2,a3',a4,a5,a6,a7,a8,a9⟩:=a
 obtain⟨b0,b1,b2,b3,b4,b5,b6,b7,b8,b9⟩:=b
 simp only[cfC,cfL,ssameB]
 go_simp
 by_cases h0:a0=b0
 case neg=>simp[h0]
 by_cases h1:a1=b1
 case neg=>simp[h1]
 by_cases h2:a2=b2
 case neg=>simp[h2]
 by_cases h3:a3'=b3
 case neg=>simp[h3]
 by_cases h4:a4=b4
 case neg=>simp[h4]
 by_cases h5:a5=b5
 case neg=>simp[h5]
 by_cases h6:a6=b6
 case neg=>simp[h6]
 by_cases h7:a7=b7
 case neg=>simp[h7]
 by_cases h8:a8=b8
 case neg=>simp[h8]
 by_cases h9:a9=b9
 case neg=>simp[h9]
 simp[h0,h1,h2,h3,h4,h5,h6,h7,h8,h9]
theorem neqCf (a b:Cf)(w:World):(binOp .neq 24 (.agg (cfC a)) (.agg (cfC b))).run Tryz.prog w=.ok (.bool (!ssameB a b)) w:=by
 have h:=eqCf a b w
 rw[run_eql_struct] at h
 rw[run_neq_struct]
 generalize (Op.equalIn 10000 24 (.agg (cfC a)) (.agg (cfC b))).run Tryz.prog w=r at h ⊢
 cases r<;>simp_all [Result.andThen]
theorem swithin_ok (w:World)(n l m:Int):Calls Tryz.prog 88 #[.int .i64 n,.int .i64 l,.int .i64 m] w λe w'=>e=.returned (.int .i64 (wiN n l m))/\w'=w:=by
 have c1:(if n<l then l else n)=mxN n l:=rfl
 have c2:(if m<mxN n l then m else mxN n l)=wiN n l m:=rfl
 generalize wiN n l m=q at *
 generalize mxN n l=u at *
 go_enter Tryz.func88,Tryz.ntmps88
 go_wp2
 go_ret
 exact⟨rfl,rfl⟩
theorem laid2 (w:World)(c:Cf):CfAt ((w.alloc (.cells (cfC c) 24)).alloc (.cells (cfC Cf.zero) 24)) w.heap.size c/\CfAt ((w.alloc (.cells (cfC c) 24)).alloc (.cells (cfC Cf.zero) 24)) (w.heap.size+1) Cf.zero /\
  Below w.heap.size w ((w.alloc (.cells (cfC c) 24)).alloc (.cells (cfC Cf.zero) 24)):=
 ⟨(CfAt.new w c).alloc _,by simpa using CfAt.new (w.alloc (.cells (cfC c) 24)) Cf.zero,Go.Joins.below_alloc2 _ _ _⟩
structure DMid (w W:World)(g:Nat)(c:Cf):Prop where
 own:CfAt W g c
 room:CfAt W (g+1) Cf.zero
 le:w.heap.size<=g
 bel:Below w.heap.size w W
theorem DMid.put {w W:World}{g:Nat}{c b:Cf}(h:DMid w W g c)(i:Nat)(u:Value)(hl:(cfL c).set i u=cfL b):DMid w (W.setCell ⟨g,i,none⟩ u) g b:=
 ⟨h.own.put i u hl,h.room.keep (heap_setCell_other _ _ _ _ (by simp)),h.le,h.bel.setCell (p:=⟨g,i,none⟩) h.le u⟩
theorem DMid.out {w W:World}{g:Nat}{c:Cf}(h:DMid w W g c):CfAt (W.setRow (g+1) (cfC c)) (g+1) c/\Below w.heap.size w (W.setRow (g+1) (cfC c)):=
 ⟨h.room.stored c,below_setRow h.bel (by have:=h.le;omega) _⟩
theorem bnodes_ok (w:World)(c:Cf):Calls Tryz.prog 51 #[.agg (cfC c)] w λe w'=>e=.returned (.agg (cfC (bNodes c)))/\Below w.heap.size w w':=by
 obtain⟨a1,a2,a3⟩:=laid2 w c
 have H0:DMid w ((w.alloc (.cells (cfC c) 24)).alloc (.cells (cfC Cf.zero) 24)) w.heap.size c:=⟨a1,a2,Nat.le_refl _,a3⟩
 have hq:=wi_in (n:=c.n) (l:=1) (m:=8) (by omega)
 obtain⟨q0,eq0⟩:∃ q,q=wiN c.n 1 8:=⟨_,rfl⟩
 rw[<-eq0] at hq
 obtain⟨u,eu⟩:∃ u,u=(q0-1).tdiv 3:=⟨_,rfl⟩
 have hu:0<=u/\u<=2:=by rw[eu,Int.tdiv_eq_ediv_of_nonneg (by omega)];omega
 have e1:IntKind.i64.wrap (q0-1)=q0-1:=by rw[IntKind.wrap_i64];omega
 have e2:IntKind.i64.wrap u=u:=by rw[IntKind.wrap_i64];omega
 have e3:(q0-1).tdiv 3=u:=eu.symm
 clear hq hu
 obtain⟨q1,eq1⟩:∃ q,q=wiN c.f 0 u:=⟨_,rfl⟩
 have eb:bNodes c={ c with n:=q0,f:=q1 }:=by rw[bNodes,<-eq0,<-eu,<-eq1]
 rw[eb]
 obtain⟨W0,hW0⟩:∃ W,W=(w.alloc (.cells (cfC c) 24)).alloc (.cells (cfC Cf.zero) 24):=⟨_,rfl⟩
 rw[<-hW0] at H0
 have k0:=swithin_ok W0 c.n 1 8
 rw[<-eq0] at k0
 have H1:=H0.put (b:={ c with n:=q0 }) 0 (.int .i64 q0) rfl
 obtain⟨W1,hW1⟩:∃ W,W=W0.setCell ⟨w.heap.size,0,none⟩ (.int .i64 q0):=⟨_,rfl⟩
 rw[<-hW1] at H1
 have k1:=swithin_ok W1 c.f 0 u
 rw[<-eq1] at k1
 have H2:=H1.put (b:={ c with n:=q0,f:=q1 }) 1 (.int .i64 q1) rfl
 obtain⟨W2,hW2⟩:∃ W,W=W1.setCell ⟨w.heap.size,1,none⟩ (.int .i64 q1):=⟨_,rfl⟩
 rw[<-hW2] at H2
 have HL:Hid ((Instr.loadAt 24 (.pointer (some ⟨w.heap.size,0,none⟩))).run Tryz.prog W2=.ok (.agg (cfC { c with n:=q0,f:=q1 })) W2):=H2.own.loads
 have HS:Hid ((Instr.storeAt 24 (.pointer (some ⟨w.heap.size+1,0,none⟩)) (.agg (cfC { c with n:=q0,f:=q1 }))).run Tryz.prog W2=.ok () (W2.setRow (w.heap.size+1) (cfC { c with n:=q0,f:=q1 }))):=H2.room.stores _
 have HE:Hid (CfAt (W2.setRow (w.heap.size+1) (cfC { c with n:=q0,f:=q1 })) (w.heap.size+1) { c with n:=q0,f:=q1 }/\Below w.heap.size w (W2.setRow (w.heap.size+1) (cfC { c with n:=q0,f:=q1 }))):=H2.out
 have p0x0:=H0.own.c0
 have z0:=H0.own.fz 0
 have p1x1:=H1.own.c1
 have p1x0:=H1.own.c0
 have z1:=H1.own.fz 1
 have HW0:Hid ((w.alloc (.cells (cfC c) 24)).alloc (.cells #[.int .i64 0,.int .i64 0,.int .i64 0,.int .i64 0,.int .i64 0,.int .i64 0,.int .i64 0,.int .i64 0,.int .i64 0,.int .i64 0] 24)=W0):=hW0.symm
 have HW1:Hid (W0.setCell ⟨w.heap.size,0,none⟩ (.int .i64 q0)=W1):=hW1.symm
 have HW2:Hid (W1.setCell ⟨w.heap.size,1,none⟩ (.int .i64 q1)=W2):=hW2.symm
 clear a1 a2 a3 eb eu H0 hW0 H1 hW1 H2 hW2 eq0 eq1
 go_enter Tryz.func51,Tryz.ntmps51
 go_upto_region 1 with fail
 rw[HW0.out]
 clear HW0
 go_wp2_with fail
 refine k0.mono ?_
 rintro e w1 ⟨rfl,rfl⟩
 clear k0
 go_upto_region 2 with fail
 rw[HW1.out]
 clear HW1 z0 p0x0
 go_wp2_with fail
 refine k1.mono ?_
 rintro e w1 ⟨rfl,rfl⟩
 clear k1
 go_upto_region 3 with fail
 rw[HW2.out]
 clear HW2 z1 p1x1 p1x0
 go_wp2_with (first|(refine wpList_load_run rfl 24 _ rfl _ _ rfl HL.out ?_)|(refine wpList_store_run rfl 24 _ _ rfl _ _ rfl rfl HS.out ?_)|fail)
 refine bodyPost_ret (res_cf rfl rfl HE.out.1) rfl ?_
 exact⟨rfl,HE.out.2⟩
theorem bslots_ok (w:World)(c:Cf):Calls Tryz.prog 52 #[.agg (cfC c)] w λe w'=>e=.returned (.agg (cfC (bSlots c)))/\Below w.heap.size w w':=by
 obtain⟨a1,a2,a3⟩:=laid2 w c
 have H0:DMid w ((w.alloc (.cells (cfC c) 24)).alloc (.cells (cfC Cf.zero) 24)) w.heap.size c:=⟨a1,a2,Nat.le_refl _,a3⟩
 have hq:=wi_in (n:=c.s) (l:=300) (m:=10000) (by omega)
 obtain⟨q0,eq0⟩:∃ q,q=wiN c.s 300 10000:=⟨_,rfl⟩
 rw[<-eq0] at hq
 obtain⟨u,eu⟩:∃ u,u=4*q0:=⟨_,rfl⟩
 have e1:IntKind.i64.wrap (4*q0)=u:=by rw[IntKind.wrap_i64];omega
 clear hq
 obtain⟨q1,eq1⟩:∃ q,q=wiN c.e 1 u:=⟨_,rfl⟩
 obtain⟨q2,eq2⟩:∃ q,q=wiN c.v 100 u:=⟨_,rfl⟩
 have eb:bSlots c={ c with s:=q0,e:=q1,v:=q2 }:=by rw[bSlots,<-eq0,<-eu,<-eq1,<-eq2]
 rw[eb]
 obtain⟨W0,hW0⟩:∃ W,W=(w.alloc (.cells (cfC c) 24)).alloc (.cells (cfC Cf.zero) 24):=⟨_,rfl⟩
 rw[<-hW0] at H0
 have k0:=swithin_ok W0 c.s 300 10000
 rw[<-eq0] at k0
 have H1:=H0.put (b:={ c with s:=q0 }) 2 (.int .i64 q0) rfl
 obtain⟨W1,hW1⟩:∃ W,W=W0.setCell ⟨w.heap.size,2,none⟩ (.int .i64 q0):=⟨_,rfl⟩
 rw[<-hW1] at H1
 have k1:=swithin_ok W1 c.e 1 u
 rw[<-eq1] at k1
 have H2:=H1.put (b:={ c with s:=q0,e:=q1 }) 5 (.int .i64 q1) rfl
 obtain⟨W2,hW2⟩:∃ W,W=W1.setCell ⟨w.heap.size,5,none⟩ (.int .i64 q1):=⟨_,rfl⟩
 rw[<-hW2] at H2
 have k2:=swithin_ok W2 c.v 100 u
 rw[<-eq2] at k2
 have H3:=H2.put (b:={ c with s:=q0,e:=q1,v:=q2 }) 6 (.int .i64 q2) rfl
 obtain⟨W3,hW3⟩:∃ W,W=W2.setCell ⟨w.heap.size,6,none⟩ (.int .i64 q2):=⟨_,rfl⟩
 rw[<-hW3] at H3
 have HL:Hid ((Instr.loadAt 24 (.pointer (some ⟨w.heap.size,0,none⟩))).run Tryz.prog W3=.ok (.agg (cfC { c with s:=q0,e:=q1,v:=q2 })) W3):=H3.own.loads
 have HS:Hid ((Instr.storeAt 24 (.pointer (some ⟨w.heap.size+1,0,none⟩)) (.agg (cfC { c with s:=q0,e:=q1,v:=q2 }))).run Tryz.prog W3=.ok () (W3.setRow (w.heap.size+1) (cfC { c with s:=q0,e:=q1,v:=q2 }))):=H3.room.stores _
 have HE:Hid (CfAt (W3.setRow (w.heap.size+1) (cfC { c with s:=q0,e:=q1,v:=q2 })) (w.heap.size+1) { c with s:=q0,e:=q1,v:=q2 }/\Below w.heap.size w (W3.setRow (w.heap.size+1) (cfC { c with s:=q0,e:=q1,v:=q2 }))):=H3.out
 have p0x2:=H0.own.c2
 have z0:=H0.own.fz 2
 have p1x5:=H1.own.c5
 have p1x2:=H1.own.c2
 have z1:=H1.own.fz 5
 have p2x6:=H2.own.c6
 have p2x2:=H2.own.c2
 have z2:=H2.own.fz 6
 have HW0:Hid ((w.alloc (.cells (cfC c) 24)).alloc (.cells #[.int .i64 0,.int .i64 0,.int .i64 0,.int .i64 0,.int .i64 0,.int .i64 0,.int .i64 0,.int .i64 0,.int .i64 0,.int .i64 0] 24)=W0):=hW0.symm
 have HW1:Hid (W0.setCell ⟨w.heap.size,2,none⟩ (.int .i64 q0)=W1):=hW1.symm
 have HW2:Hid (W1.setCell ⟨w.heap.size,5,none⟩ (.int .i64 q1)=W2):=hW2.symm
 have HW3:Hid (W2.setCell ⟨w.heap.size,6,none⟩ (.int .i64 q2)=W3):=hW3.symm
 clear a1 a2 a3 eb eu H0 hW0 H1 hW1 H2 hW2 H3 hW3 eq0 eq1 eq2
 go_enter Tryz.func52,Tryz.ntmps52
 go_upto_region 1 with fail
 rw[HW0.out]
 clear HW0
 go_wp2_with fail
 refine k0.mono ?_
 rintro e w1 ⟨rfl,rfl⟩
 clear k0
 go_upto_region 2 with fail
 rw[HW1.out]
 clear HW1 z0 p0x2
 go_wp2_with fail
 refine k1.mono ?_
 rintro e w1 ⟨rfl,rfl⟩
 clear k1
 go_upto_region 3 with fail
 rw[HW2.out]
 clear HW2 z1 p1x5 p1x2
 go_wp2_with fail
 refine k2.mono ?_
 rintro e w1 ⟨rfl,rfl⟩
 clear k2
 go_upto_region 4 with fail
 rw[HW3.out]
 clear HW3 z2 p2x6 p2x2
 go_wp2_with (first|(refine wpList_load_run rfl 24 _ rfl _ _ rfl HL.out ?_)|(refine wpList_store_run rfl 24 _ _ rfl _ _ rfl rfl HS.out ?_)|fail)
 refine bodyPost_ret (res_cf rfl rfl HE.out.1) rfl ?_
 exact⟨rfl,HE.out.2⟩
theorem bkeys_ok (w:World)(c:Cf):Calls Tryz.prog 53 #[.agg (cfC c)] w λe w'=>e=.returned (.agg (cfC (bKeys c)))/\Below w.heap.size w w':=by
 obtain⟨a1,a2,a3⟩:=laid2 w c
 have H0:DMid w ((w.alloc (.cells (cfC c) 24)).alloc (.cells (cfC Cf.zero) 24)) w.heap.size c:=⟨a1,a2,Nat.le_refl _,a3⟩
 have hq:=wi_in (n:=c.d) (l:=1) (m:=4) (by omega)
 obtain⟨q0,eq0⟩:∃ q,q=wiN c.d 1 4:=⟨_,rfl⟩
 rw[<-eq0] at hq
 obtain⟨u,eu⟩:∃ u,u=q0+4:=⟨_,rfl⟩
 have e1:IntKind.i64.wrap (q0+4)=u:=by rw[IntKind.wrap_i64];omega
 clear hq
 obtain⟨q1,eq1⟩:∃ q,q=wiN c.k u 256:=⟨_,rfl⟩
 obtain⟨q2,eq2⟩:∃ q,q=wiN c.p 1 64:=⟨_,rfl⟩
 have eb:bKeys c={ c with d:=q0,k:=q1,p:=q2 }:=by rw[bKeys,<-eq0,<-eu,<-eq1,<-eq2]
 rw[eb]
 obtain⟨W0,hW0⟩:∃ W,W=(w.alloc (.cells (cfC c) 24)).alloc (.cells (cfC Cf.zero) 24):=⟨_,rfl⟩
 rw[<-hW0] at H0
 have k0:=swithin_ok W0 c.d 1 4
 rw[<-eq0] at k0
 have H1:=H0.put (b:={ c with d:=q0 }) 3 (.int .i64 q0) rfl
 obtain⟨W1,hW1⟩:∃ W,W=W0.setCell ⟨w.heap.size,3,none⟩ (.int .i64 q0):=⟨_,rfl⟩
 rw[<-hW1] at H1
 have k1:=swithin_ok W1 c.k u 256
 rw[<-eq1] at k1
 have H2:=H1.put (b:={ c with d:=q0,k:=q1 }) 4 (.int .i64 q1) rfl
 obtain⟨W2,hW2⟩:∃ W,W=W1.setCell ⟨w.heap.size,4,none⟩ (.int .i64 q1):=⟨_,rfl⟩
 rw[<-hW2] at H2
 have k2:=swithin_ok W2 c.p 1 64
 rw[<-eq2] at k2
 have H3:=H2.put (b:={ c with d:=q0,k:=q1,p:=q2 }) 9 (.int .i64 q2) rfl
 obtain⟨W3,hW3⟩:∃ W,W=W2.setCell ⟨w.heap.size,9,none⟩ (.int .i64 q2):=⟨_,rfl⟩
 rw[<-hW3] at H3
 have HL:Hid ((Instr.loadAt 24 (.pointer (some ⟨w.heap.size,0,none⟩))).run Tryz.prog W3=.ok (.agg (cfC { c with d:=q0,k:=q1,p:=q2 })) W3):=H3.own.loads
 have HS:Hid ((Instr.storeAt 24 (.pointer (some ⟨w.heap.size+1,0,none⟩)) (.agg (cfC { c with d:=q0,k:=q1,p:=q2 }))).run Tryz.prog W3=.ok () (W3.setRow (w.heap.size+1) (cfC { c with d:=q0,k:=q1,p:=q2 }))):=H3.room.stores _
 have HE:Hid (CfAt (W3.setRow (w.heap.size+1) (cfC { c with d:=q0,k:=q1,p:=q2 })) (w.heap.size+1) { c with d:=q0,k:=q1,p:=q2 }/\Below w.heap.size w (W3.setRow (w.heap.size+1) (cfC { c with d:=q0,k:=q1,p:=q2 }))):=H3.out
 have p0x3:=H0.own.c3
 have z0:=H0.own.fz 3
 have p1x4:=H1.own.c4
 have p1x3:=H1.own.c3
 have z1:=H1.own.fz 4
 have p2x9:=H2.own.c9
 have z2:=H2.own.fz 9
 have HW0:Hid ((w.alloc (.cells (cfC c) 24)).alloc (.cells #[.int .i64 0,.int .i64 0,.int .i64 0,.int .i64 0,.int .i64 0,.int .i64 0,.int .i64 0,.int .i64 0,.int .i64 0,.int .i64 0] 24)=W0):=hW0.symm
 have HW1:Hid (W0.setCell ⟨w.heap.size,3,none⟩ (.int .i64 q0)=W1):=hW1.symm
 have HW2:Hid (W1.setCell ⟨w.heap.size,4,none⟩ (.int .i64 q1)=W2):=hW2.symm
 have HW3:Hid (W2.setCell ⟨w.heap.size,9,none⟩ (.int .i64 q2)=W3):=hW3.symm
 clear a1 a2 a3 eb eu H0 hW0 H1 hW1 H2 hW2 H3 hW3 eq0 eq1 eq2
 go_enter Tryz.func53,Tryz.ntmps53
 go_upto_region 1 with fail
 rw[HW0.out]
 clear HW0
 go_wp2_with fail
 refine k0.mono ?_
 rintro e w1 ⟨rfl,rfl⟩
 clear k0
 go_upto_region 2 with fail
 rw[HW1.out]
 clear HW1 z0 p0x3
 go_wp2_with fail
 refine k1.mono ?_
 rintro e w1 ⟨rfl,rfl⟩
 clear k1
 go_upto_region 3 with fail
 rw[HW2.out]
 clear HW2 z1 p1x4 p1x3
 go_wp2_with fail
 refine k2.mono ?_
 rintro e w1 ⟨rfl,rfl⟩
 clear k2
 go_upto_region 4 with fail
 rw[HW3.out]
 clear HW3 z2 p2x9
 go_wp2_with (first|(refine wpList_load_run rfl 24 _ rfl _ _ rfl HL.out ?_)|(refine wpList_store_run rfl 24 _ _ rfl _ _ rfl rfl HS.out ?_)|fail)
 refine bodyPost_ret (res_cf rfl rfl HE.out.1) rfl ?_
 exact⟨rfl,HE.out.2⟩
theorem bclocks_ok (w:World)(c:Cf):Calls Tryz.prog 54 #[.agg (cfC c)] w λe w'=>e=.returned (.agg (cfC (bClocks c)))/\Below w.heap.size w w':=by
 obtain⟨a1,a2,a3⟩:=laid2 w c
 have H0:DMid w ((w.alloc (.cells (cfC c) 24)).alloc (.cells (cfC Cf.zero) 24)) w.heap.size c:=⟨a1,a2,Nat.le_refl _,a3⟩
 obtain⟨q0,eq0⟩:∃ q,q=wiN c.r 0 5:=⟨_,rfl⟩
 obtain⟨q1,eq1⟩:∃ q,q=wiN c.l 0 5:=⟨_,rfl⟩
 have eb:bClocks c={ c with r:=q0,l:=q1 }:=by rw[bClocks,<-eq0,<-eq1]
 rw[eb]
 obtain⟨W0,hW0⟩:∃ W,W=(w.alloc (.cells (cfC c) 24)).alloc (.cells (cfC Cf.zero) 24):=⟨_,rfl⟩
 rw[<-hW0] at H0
 have k0:=swithin_ok W0 c.r 0 5
 rw[<-eq0] at k0
 have H1:=H0.put (b:={ c with r:=q0 }) 7 (.int .i64 q0) rfl
 obtain⟨W1,hW1⟩:∃ W,W=W0.setCell ⟨w.heap.size,7,none⟩ (.int .i64 q0):=⟨_,rfl⟩
 rw[<-hW1] at H1
 have k1:=swithin_ok W1 c.l 0 5
 rw[<-eq1] at k1
 have H2:=H1.put (b:={ c with r:=q0,l:=q1 }) 8 (.int .i64 q1) rfl
 obtain⟨W2,hW2⟩:∃ W,W=W1.setCell ⟨w.heap.size,8,none⟩ (.int .i64 q1):=⟨_,rfl⟩
 rw[<-hW2] at H2
 have HL:Hid ((Instr.loadAt 24 (.pointer (some ⟨w.heap.size,0,none⟩))).run Tryz.prog W2=.ok (.agg (cfC { c with r:=q0,l:=q1 })) W2):=H2.own.loads
 have HS:Hid ((Instr.storeAt 24 (.pointer (some ⟨w.heap.size+1,0,none⟩)) (.agg (cfC { c with r:=q0,l:=q1 }))).run Tryz.prog W2=.ok () (W2.setRow (w.heap.size+1) (cfC { c with r:=q0,l:=q1 }))):=H2.room.stores _
 have HE:Hid (CfAt (W2.setRow (w.heap.size+1) (cfC { c with r:=q0,l:=q1 })) (w.heap.size+1) { c with r:=q0,l:=q1 }/\Below w.heap.size w (W2.setRow (w.heap.size+1) (cfC { c with r:=q0,l:=q1 }))):=H2.out
 have p0x7:=H0.own.c7
 have z0:=H0.own.fz 7
 have p1x8:=H1.own.c8
 have z1:=H1.own.fz 8
 have HW0:Hid ((w.alloc (.cells (cfC c) 24)).alloc (.cells #[.int .i64 0,.int .i64 0,.int .i64 0,.int .i64 0,.int .i64 0,.int .i64 0,.int .i64 0,.int .i64 0,.int .i64 0,.int .i64 0] 24)=W0):=hW0.symm
 have HW1:Hid (W0.setCell ⟨w.heap.size,7,none⟩ (.int .i64 q0)=W1):=hW1.symm
 have HW2:Hid (W1.setCell ⟨w.heap.size,8,none⟩ (.int .i64 q1)=W2):=hW2.symm
 clear a1 a2 a3 eb H0 hW0 H1 hW1 H2 hW2 eq0 eq1
 go_enter Tryz.func54,Tryz.ntmps54
 go_upto_region 1 with fail
 rw[HW0.out]
 clear HW0
 go_wp2_with fail
 refine k0.mono ?_
 rintro e w1 ⟨rfl,rfl⟩
 clear k0
 go_upto_region 2 with fail
 rw[HW1.out]
 clear HW1 z0 p0x7
 go_wp2_with fail
 refine k1.mono ?_
 rintro e w1 ⟨rfl,rfl⟩
 clear k1
 go_upto_region 3 with fail
 rw[HW2.out]
 clear HW2 z1 p1x8
 go_wp2_with (first|(refine wpList_load_run rfl 24 _ rfl _ _ rfl HL.out ?_)|(refine wpList_store_run rfl 24 _ _ rfl _ _ rfl rfl HS.out ?_)|fail)
 refine bodyPost_ret (res_cf rfl rfl HE.out.1) rfl ?_
 exact⟨rfl,HE.out.2⟩
end Go.Proofs.YthogohkieiogiaaGreatDoor
