/-
  The contracts of Same, of the program and of the document.

  The contract of suits.

  suits at data frames.

  suits at pings, and at what is no kind.

  suits at pongs.

  The contracts of rightCore and Check.
-/
import Derived.Test.YthogohkieiogiaaGreatDoorFrameA
import Derived.Test.YthogohkieiogiaaGreatDoorCrcA
import Derived.Deep.Cut
namespace Go.Proofs.YthogohkieiogiaaGreatDoor
set_option maxRecDepth 20000
set_option maxHeartbeats 6400000
open Go.ChangeShapes Go.WideShapes Go.ChangeAt Go.RowKit
def sameB (F G:Fr):Bool:=(F.k==G.k)&&(F.f==G.f)&&(F.t==G.t)&&(F.e==G.e)&&(F.s==G.s)&&(F.r==G.r)&&((F.n:Int)==(G.n:Int))&&(F.m==G.m)&&(F.v==G.v)&&(F.i==G.i)&&(F.key==G.key)&&(F.body==G.body)&&(F.tag==G.tag)
theorem sameB_iff (F G:Fr):sameB F G=true↔F=G:=by
 unfold sameB
 simp only[Bool.and_eq_true,beq_iff_eq]
 constructor
 ·rintro⟨⟨⟨⟨⟨⟨⟨⟨⟨⟨⟨⟨h0,h1⟩,h2⟩,h3⟩,h4⟩,h5⟩,h6⟩,h7⟩,h8⟩,h9⟩,h10⟩,h11⟩,h12⟩
  exact fr_ext h0 h1 h2 h3 h4 h5 (by omega) h7 h8 h9 h10 h11 h12
 ·rintro rfl
  simp
theorem sameB_refl (F:Fr):sameB F F=true:=(sameB_iff F F).2 rfl
theorem two_new (w:World)(F:Fr)(A:At)(G:Fr)(B:At):FrAt ((w.alloc (.cells (frC F A) 41)).alloc (.cells (frC G B) 41)) w.heap.size F A/\FrAt ((w.alloc (.cells (frC F A) 41)).alloc (.cells (frC G B) 41)) (w.heap.size+1) G B:=
 ⟨(FrAt.new w F A).alloc _,by simpa using FrAt.new (w.alloc (.cells (frC F A) 41)) G B⟩
theorem same_ok (w:World)(F:Fr)(A:At)(G:Fr)(B:At)(hF:Seen w F A)(hG:Seen w G B):
  Calls Tryz.prog 19 #[.agg (frC F A),.agg (frC G B)] w λe w'=>e=.returned (.bool (sameB F G))/\w'=(w.alloc (.cells (frC F A) 41)).alloc (.cells (frC G B) 41):=by
 obtain⟨hN,hM⟩:=two_new w F A G B
 have p0:=hN.c0
 have q0:=hM.c0
 have p1:=hN.c1
 have q1:=hM.c1
 have p2:=hN.c2
 have q2:=hM.c2
 have p3:=hN.c3
 have q3:=hM.c3
 have p4:=hN.c4
 have q4:=hM.c4
 have p5:=hN.c5
 have q5:=hM.c5
 have p6:=hN.c6
 have q6:=hM.c6
 have p7:=hN.c7
 have q7:=hM.c7
 have p8:=hN.c8
 have q8:=hM.c8
 have p9:=hN.c9
 have q9:=hM.c9
 have p10:=hN.c10
 have q10:=hM.c10
 have p11:=hN.c11
 have q11:=hM.c11
 have p12:=hN.c12
 have q12:=hM.c12
 clear hN hM
 have hb:Below w.heap.size w ((w.alloc (.cells (frC F A) 41)).alloc (.cells (frC G B) 41)):=Go.Joins.below_alloc2 _ _ _
 replace hF:=hF.below hb
 replace hG:=hG.below hb
 clear hb
 have u1:=equal_ok _ _ _ _ _ _ _ hF.key hG.key
 have u2:=equal_ok _ _ _ _ _ _ _ hF.body hG.body
 have u3:=equal_ok _ _ _ _ _ _ _ hF.tag hG.tag
 clear hF hG
 unfold sameB
 obtain⟨b0,h0⟩:∃ b,(F.k==G.k)=b:=⟨_,rfl⟩
 obtain⟨b1,h1⟩:∃ b,(F.f==G.f)=b:=⟨_,rfl⟩
 obtain⟨b2,h2⟩:∃ b,(F.t==G.t)=b:=⟨_,rfl⟩
 obtain⟨b3,h3⟩:∃ b,(F.e==G.e)=b:=⟨_,rfl⟩
 obtain⟨b4,h4⟩:∃ b,(F.s==G.s)=b:=⟨_,rfl⟩
 obtain⟨b5,h5⟩:∃ b,(F.r==G.r)=b:=⟨_,rfl⟩
 obtain⟨b6,h6⟩:∃ b,((F.n:Int)==(G.n:Int))=b:=⟨_,rfl⟩
 obtain⟨b7,h7⟩:∃ b,(F.m==G.m)=b:=⟨_,rfl⟩
 obtain⟨b8,h8⟩:∃ b,(F.v==G.v)=b:=⟨_,rfl⟩
 obtain⟨b9,h9⟩:∃ b,(F.i==G.i)=b:=⟨_,rfl⟩
 rw[h0,h1,h2,h3,h4,h5,h6,h7,h8,h9]
 obtain⟨b10,h10⟩:∃ b,(F.key==G.key)=b:=⟨_,rfl⟩
 rw[h10]
 rw[h10] at u1
 clear h10
 obtain⟨b11,h11⟩:∃ b,(F.body==G.body)=b:=⟨_,rfl⟩
 rw[h11]
 rw[h11] at u2
 clear h11
 obtain⟨b12,h12⟩:∃ b,(F.tag==G.tag)=b:=⟨_,rfl⟩
 rw[h12]
 rw[h12] at u3
 clear h12
 cases b0
 ·go_enter Tryz.func19,Tryz.ntmps19
  go_upto_region 1 with fail
  simp only[List.append_eq,List.cons_append,List.nil_append]
  go_wp2
  go_ret
  exact⟨rfl,rfl⟩
 cases b1
 ·go_enter Tryz.func19,Tryz.ntmps19
  go_upto_region 1 with fail
  simp only[List.append_eq,List.cons_append,List.nil_append]
  go_wp2
  go_ret
  exact⟨rfl,rfl⟩
 cases b2
 ·go_enter Tryz.func19,Tryz.ntmps19
  go_upto_region 1 with fail
  simp only[List.append_eq,List.cons_append,List.nil_append]
  go_wp2
  go_ret
  exact⟨rfl,rfl⟩
 cases b3
 ·go_enter Tryz.func19,Tryz.ntmps19
  go_upto_region 1 with fail
  simp only[List.append_eq,List.cons_append,List.nil_append]
  go_wp2
  go_ret
  exact⟨rfl,rfl⟩
 cases b4
 ·go_enter Tryz.func19,Tryz.ntmps19
  go_upto_region 1 with fail
  simp only[List.append_eq,List.cons_append,List.nil_append]
  go_wp2
  go_ret
  exact⟨rfl,rfl⟩
 cases b5
 ·go_enter Tryz.func19,Tryz.ntmps19
  go_upto_region 1 with fail
  simp only[List.append_eq,List.cons_append,List.nil_append]
  go_wp2
  go_ret
  exact⟨rfl,rfl⟩
 cases b6
 ·go_enter Tryz.func19,Tryz.ntmps19
  go_upto_region 1 with fail
  simp only[List.append_eq,List.cons_append,List.nil_append]
  go_wp2
  go_ret
  exact⟨rfl,rfl⟩
 cases b7
 ·go_enter Tryz.func19,Tryz.ntmps19
  go_upto_region 1 with fail
  simp only[List.append_eq,List.cons_append,List.nil_append]
  go_wp2
  go_ret
  exact⟨rfl,rfl⟩
 cases b8
 ·go_enter Tryz.func19,Tryz.ntmps19
  go_upto_region 1 with fail
  simp only[List.append_eq,List.cons_append,List.nil_append]
  go_wp2
  go_ret
  exact⟨rfl,rfl⟩
 cases b9
 ·go_enter Tryz.func19,Tryz.ntmps19
  go_upto_region 1 with fail
  simp only[List.append_eq,List.cons_append,List.nil_append]
  go_wp2
  go_ret
  exact⟨rfl,rfl⟩
 go_enter Tryz.func19,Tryz.ntmps19
 go_upto_region 1 with fail
 simp only[List.append_eq,List.cons_append,List.nil_append]
 go_wp2_with fail
 refine u1.mono ?_
 rintro e w1 ⟨rfl,rfl⟩
 clear u1
 cases b10
 ·go_wp2
  go_ret
  exact⟨rfl,rfl⟩
 go_wp2_with fail
 refine u2.mono ?_
 rintro e w1 ⟨rfl,rfl⟩
 clear u2
 cases b11
 ·go_wp2
  go_ret
  exact⟨rfl,rfl⟩
 go_wp2_with fail
 refine u3.mono ?_
 rintro e w1 ⟨rfl,rfl⟩
 clear u3
 go_wp2
 go_ret
 exact⟨rfl,rfl⟩
def ownA (F:Fr):Fr:={ Fr.zero with k:=F.k,f:=F.f,tag:=F.tag }
def ownAA (A:At):At:={ At.zero with ta:=A.ta,tc:=A.tc }
def ownData (F:Fr):Fr:={ ownA F with e:=F.e,r:=F.r,v:=F.v,i:=F.i,key:=F.key,body:=F.body }
def ownPing (F:Fr):Fr:={ ownA F with t:=F.t,n:=F.n }
def ownPong0 (F:Fr):Fr:={ ownA F with m:=F.m,e:=F.e,s:=F.s,i:=F.i,key:=F.key }
def ownPong (F:Fr):Fr:={ ownPong0 F with t:=F.t,n:=F.n }
def ownPongA (A:At):At:={ ownAA A with ka:=A.ka,kc:=A.kc }
def suitB (F:Fr):Bool:=if F.k=1 then sameB F (ownData F) else if F.k=3 then (if F.f=F.t then false else sameB F (ownPong F)) else if F.k=2 then (if F.f=F.t then false else sameB F (ownPing F)) else false
theorem build_own (w:World)(F:Fr)(A:At):(Instr.build 41 #[(0,.int .i64 F.k),(1,.int .i64 F.f),(12,.slice A.ta F.tag.length A.tc)]).run Tryz.prog w=.ok (.agg (frC (ownA F) (ownAA A))) w:=
 run_build w 41 _ _ (by kernel_rfl)
theorem suits_laid (w:World)(F:Fr)(A:At):∃ W,(Instr.storeAt 41 (.pointer (some ⟨w.heap.size+1,0,none⟩)) (.agg (frC (ownA F) (ownAA A)))).run Tryz.prog ((w.alloc (.cells (frC F A) 41)).alloc (.cells (frC Fr.zero At.zero) 41))=.ok () W /\
  FrAt W w.heap.size F A/\FrAt W (w.heap.size+1) (ownA F) (ownAA A)/\Below w.heap.size w W/\W.heap.size=w.heap.size+2:=by
 obtain⟨h1,h2⟩:=two_new w F A Fr.zero At.zero
 refine⟨_,h2.stores _ _,h1.keep (setRow_other _ _ _ _ (by omega)),h2.stored _ _,below_setRow (Go.Joins.below_alloc2 _ _ _) (by omega) _,by simp⟩
theorem frow_put {w:World}{g:Nat}{l:List Value}(h:w.heap[g]?=some (.cells l.toArray 41 (0,0)))(i:Nat)(u:Value):(w.setCell ⟨g,i,none⟩ u).heap[g]?=some (.cells (l.set i u).toArray 41 (0,0)):=by
 rw[heap_setCell_same _ _ _ _ _ _ h,List.setIfInBounds_toArray]
theorem fr_row {w:World}{g:Nat}{l:List Value}{F:Fr}{A:At}(h:w.heap[g]?=some (.cells l.toArray 41 (0,0)))(hl:l=frL F A):FrAt w.drew g F A:=by
 subst hl;exact h
theorem suits_dataW (w W:World)(g:Nat)(F:Fr)(A:At)(hg:w.heap.size<=g)(hP:FrAt W g F A)(hQ:FrAt W (g+1) (ownA F) (ownAA A))(hb:Below w.heap.size w W):
  FrAt ((((((W.setCell ⟨(g+1),3,none⟩ (.int .i64 F.e)).setCell ⟨(g+1),5,none⟩ (.int .i64 F.r)).setCell ⟨(g+1),8,none⟩ (.int .i64 F.v)).setCell ⟨(g+1),9,none⟩ (.int .i64 F.i)).setCell ⟨(g+1),10,none⟩ (.slice A.ka F.key.length A.kc)).setCell ⟨(g+1),11,none⟩ (.slice A.ba F.body.length A.bc)).drew g F A/\FrAt ((((((W.setCell ⟨(g+1),3,none⟩ (.int .i64 F.e)).setCell ⟨(g+1),5,none⟩ (.int .i64 F.r)).setCell ⟨(g+1),8,none⟩ (.int .i64 F.v)).setCell ⟨(g+1),9,none⟩ (.int .i64 F.i)).setCell ⟨(g+1),10,none⟩ (.slice A.ka F.key.length A.kc)).setCell ⟨(g+1),11,none⟩ (.slice A.ba F.body.length A.bc)).drew (g+1) (ownData F) A/\Below w.heap.size w ((((((W.setCell ⟨(g+1),3,none⟩ (.int .i64 F.e)).setCell ⟨(g+1),5,none⟩ (.int .i64 F.r)).setCell ⟨(g+1),8,none⟩ (.int .i64 F.v)).setCell ⟨(g+1),9,none⟩ (.int .i64 F.i)).setCell ⟨(g+1),10,none⟩ (.slice A.ka F.key.length A.kc)).setCell ⟨(g+1),11,none⟩ (.slice A.ba F.body.length A.bc)).drew:=by
 have q0:=frow_put hQ 3 (.int .i64 F.e)
 have q1:=frow_put q0 5 (.int .i64 F.r)
 have q2:=frow_put q1 8 (.int .i64 F.v)
 have q3:=frow_put q2 9 (.int .i64 F.i)
 have q4:=frow_put q3 10 (.slice A.ka F.key.length A.kc)
 have q5:=frow_put q4 11 (.slice A.ba F.body.length A.bc)
 refine⟨hP.keep ?_,fr_row q5 rfl,?_⟩
 ·show ((((((W.setCell ⟨(g+1),3,none⟩ (.int .i64 F.e)).setCell ⟨(g+1),5,none⟩ (.int .i64 F.r)).setCell ⟨(g+1),8,none⟩ (.int .i64 F.v)).setCell ⟨(g+1),9,none⟩ (.int .i64 F.i)).setCell ⟨(g+1),10,none⟩ (.slice A.ka F.key.length A.kc)).setCell ⟨(g+1),11,none⟩ (.slice A.ba F.body.length A.bc)).drew.heap[g]?=_
  simp only[World.drew]
  repeat rw[heap_setCell_other _ _ _ _ (by simp)]
 ·exact((((((hb.setCell (p:=⟨g+1,3,none⟩) (by simp;omega) _).setCell (p:=⟨g+1,5,none⟩) (by simp;omega) _).setCell (p:=⟨g+1,8,none⟩) (by simp;omega) _).setCell (p:=⟨g+1,9,none⟩) (by simp;omega) _).setCell (p:=⟨g+1,10,none⟩) (by simp;omega) _).setCell (p:=⟨g+1,11,none⟩) (by simp;omega) _).drew
theorem suits_pongW (w W:World)(g:Nat)(F:Fr)(A:At)(hg:w.heap.size<=g)(hP:FrAt W g F A)(hQ:FrAt W (g+1) (ownA F) (ownAA A))(hb:Below w.heap.size w W):
  FrAt (((((W.setCell ⟨(g+1),7,none⟩ (.int .i64 F.m)).setCell ⟨(g+1),3,none⟩ (.int .i64 F.e)).setCell ⟨(g+1),4,none⟩ (.int .i64 F.s)).setCell ⟨(g+1),9,none⟩ (.int .i64 F.i)).setCell ⟨(g+1),10,none⟩ (.slice A.ka F.key.length A.kc)).drew g F A/\FrAt (((((W.setCell ⟨(g+1),7,none⟩ (.int .i64 F.m)).setCell ⟨(g+1),3,none⟩ (.int .i64 F.e)).setCell ⟨(g+1),4,none⟩ (.int .i64 F.s)).setCell ⟨(g+1),9,none⟩ (.int .i64 F.i)).setCell ⟨(g+1),10,none⟩ (.slice A.ka F.key.length A.kc)).drew (g+1) (ownPong0 F) (ownPongA A)/\Below w.heap.size w (((((W.setCell ⟨(g+1),7,none⟩ (.int .i64 F.m)).setCell ⟨(g+1),3,none⟩ (.int .i64 F.e)).setCell ⟨(g+1),4,none⟩ (.int .i64 F.s)).setCell ⟨(g+1),9,none⟩ (.int .i64 F.i)).setCell ⟨(g+1),10,none⟩ (.slice A.ka F.key.length A.kc)).drew:=by
 have q0:=frow_put hQ 7 (.int .i64 F.m)
 have q1:=frow_put q0 3 (.int .i64 F.e)
 have q2:=frow_put q1 4 (.int .i64 F.s)
 have q3:=frow_put q2 9 (.int .i64 F.i)
 have q4:=frow_put q3 10 (.slice A.ka F.key.length A.kc)
 refine⟨hP.keep ?_,fr_row q4 rfl,?_⟩
 ·show (((((W.setCell ⟨(g+1),7,none⟩ (.int .i64 F.m)).setCell ⟨(g+1),3,none⟩ (.int .i64 F.e)).setCell ⟨(g+1),4,none⟩ (.int .i64 F.s)).setCell ⟨(g+1),9,none⟩ (.int .i64 F.i)).setCell ⟨(g+1),10,none⟩ (.slice A.ka F.key.length A.kc)).drew.heap[g]?=_
  simp only[World.drew]
  repeat rw[heap_setCell_other _ _ _ _ (by simp)]
 ·exact(((((hb.setCell (p:=⟨g+1,7,none⟩) (by simp;omega) _).setCell (p:=⟨g+1,3,none⟩) (by simp;omega) _).setCell (p:=⟨g+1,4,none⟩) (by simp;omega) _).setCell (p:=⟨g+1,9,none⟩) (by simp;omega) _).setCell (p:=⟨g+1,10,none⟩) (by simp;omega) _).drew
theorem suits_pong2W (w W:World)(g:Nat)(F:Fr)(A:At)(hg:w.heap.size<=g)(hP:FrAt W g F A)(hQ:FrAt W (g+1) (ownPong0 F) (ownPongA A))(hb:Below w.heap.size w W):
  FrAt ((W.setCell ⟨(g+1),2,none⟩ (.int .i64 F.t)).setCell ⟨(g+1),6,none⟩ (.int .u64 (F.n:Int))).drew g F A/\FrAt ((W.setCell ⟨(g+1),2,none⟩ (.int .i64 F.t)).setCell ⟨(g+1),6,none⟩ (.int .u64 (F.n:Int))).drew (g+1) (ownPong F) (ownPongA A)/\Below w.heap.size w ((W.setCell ⟨(g+1),2,none⟩ (.int .i64 F.t)).setCell ⟨(g+1),6,none⟩ (.int .u64 (F.n:Int))).drew:=by
 have q0:=frow_put hQ 2 (.int .i64 F.t)
 have q1:=frow_put q0 6 (.int .u64 (F.n:Int))
 refine⟨hP.keep ?_,fr_row q1 rfl,?_⟩
 ·show ((W.setCell ⟨(g+1),2,none⟩ (.int .i64 F.t)).setCell ⟨(g+1),6,none⟩ (.int .u64 (F.n:Int))).drew.heap[g]?=_
  simp only[World.drew]
  repeat rw[heap_setCell_other _ _ _ _ (by simp)]
 ·exact((hb.setCell (p:=⟨g+1,2,none⟩) (by simp;omega) _).setCell (p:=⟨g+1,6,none⟩) (by simp;omega) _).drew
theorem suits_pingW (w W:World)(g:Nat)(F:Fr)(A:At)(hg:w.heap.size<=g)(hP:FrAt W g F A)(hQ:FrAt W (g+1) (ownA F) (ownAA A))(hb:Below w.heap.size w W):
  FrAt ((W.setCell ⟨(g+1),2,none⟩ (.int .i64 F.t)).setCell ⟨(g+1),6,none⟩ (.int .u64 (F.n:Int))).drew g F A/\FrAt ((W.setCell ⟨(g+1),2,none⟩ (.int .i64 F.t)).setCell ⟨(g+1),6,none⟩ (.int .u64 (F.n:Int))).drew (g+1) (ownPing F) (ownAA A)/\Below w.heap.size w ((W.setCell ⟨(g+1),2,none⟩ (.int .i64 F.t)).setCell ⟨(g+1),6,none⟩ (.int .u64 (F.n:Int))).drew:=by
 have q0:=frow_put hQ 2 (.int .i64 F.t)
 have q1:=frow_put q0 6 (.int .u64 (F.n:Int))
 refine⟨hP.keep ?_,fr_row q1 rfl,?_⟩
 ·show ((W.setCell ⟨(g+1),2,none⟩ (.int .i64 F.t)).setCell ⟨(g+1),6,none⟩ (.int .u64 (F.n:Int))).drew.heap[g]?=_
  simp only[World.drew]
  repeat rw[heap_setCell_other _ _ _ _ (by simp)]
 ·exact((hb.setCell (p:=⟨g+1,2,none⟩) (by simp;omega) _).setCell (p:=⟨g+1,6,none⟩) (by simp;omega) _).drew
theorem Seen.ownData {w:World}{F:Fr}{A:At}(h:Seen w F A):Seen w (ownData F) A:=⟨h.key,h.body,h.tag⟩
theorem Seen.ownPong {w:World}{F:Fr}{A:At}(h:Seen w F A):Seen w (ownPong F) (ownPongA A):=⟨h.key,Sees.nil' w,h.tag⟩
theorem Seen.ownPing {w:World}{F:Fr}{A:At}(h:Seen w F A):Seen w (ownPing F) (ownAA A):=⟨Sees.nil' w,Sees.nil' w,h.tag⟩
theorem suits_data (w:World)(F:Fr)(A:At)(hF:Seen w F A)(hk:F.k=1):
  Calls Tryz.prog 120 #[.agg (frC F A)] w λe w'=>e=.returned (.bool (sameB F (ownData F)))/\Below w.heap.size w w':=by
 have hN:=FrAt.new w F A
 have p0:=hN.c0
 have p1:=hN.c1
 have p12:=hN.c12
 have g1:(F.k==1)=true:=by simp[hk]
 clear hk
 have HB:Hid ((Instr.build 41 #[(0,.int .i64 F.k),(1,.int .i64 F.f),(12,.slice A.ta F.tag.length A.tc)]).run Tryz.prog (w.alloc (.cells (frC F A) 41))=.ok (.agg (frC (ownA F) (ownAA A))) (w.alloc (.cells (frC F A) 41))):=build_own _ F A
 obtain⟨W,hst,hP,hQ,hbel,hsz⟩:=suits_laid w F A
 have HST:Hid ((Instr.storeAt 41 (.pointer (some ⟨w.heap.size+1,0,none⟩)) (.agg (frC (ownA F) (ownAA A)))).run Tryz.prog ((w.alloc (.cells (frC F A) 41)).alloc (.cells (frC Fr.zero At.zero) 41))=.ok () W):=hst
 have a0:=hP.c0
 clear hN hst hsz
 have a3:=hP.c3
 have a5:=hP.c5
 have a8:=hP.c8
 have a9:=hP.c9
 have a10:=hP.c10
 have a11:=hP.c11
 have b3:=hQ.c3
 have z3:=hQ.fz 3
 have b5:=hQ.c5
 have z5:=hQ.fz 5
 have b8:=hQ.c8
 have z8:=hQ.fz 8
 have b9:=hQ.c9
 have z9:=hQ.fz 9
 have b10:=hQ.c10
 have z10:=hQ.fz 10
 have b11:=hQ.c11
 have z11:=hQ.fz 11
 have HX:Hid (FrAt W w.heap.size F A/\FrAt W (w.heap.size+1) (ownA F) (ownAA A)/\Below w.heap.size w W):=⟨hP,hQ,hbel⟩
 have HF:Hid (Seen w F A):=hF
 clear hP hQ hbel hF
 go_enter Tryz.func120,Tryz.ntmps120
 go_wp2_with (first|(refine wpList_build_run rfl 41 _ rfl [(0,.int .i64 F.k),(1,.int .i64 F.f),(12,.slice A.ta F.tag.length A.tc)] _ rfl HB.out ?_)|(refine wpList_store_run rfl 41 _ _ rfl _ _ rfl rfl HST.out ?_)|fail)
 go_big_region
 clear a3 b3 z3 a5 b5 z5 a8 b8 z8 a9 b9 z9 a10 b10 z10 a11 b11 z11 a0 p0 p1 p12 HB HST
 have hF:=HF.out
 obtain⟨hY1,hY2,hY3⟩:=suits_dataW w W w.heap.size F A (Nat.le_refl _) HX.out.1 HX.out.2.1 HX.out.2.2
 clear HX HF
 generalize ((((((W.setCell ⟨(w.heap.size+1),3,none⟩ (.int .i64 F.e)).setCell ⟨(w.heap.size+1),5,none⟩ (.int .i64 F.r)).setCell ⟨(w.heap.size+1),8,none⟩ (.int .i64 F.v)).setCell ⟨(w.heap.size+1),9,none⟩ (.int .i64 F.i)).setCell ⟨(w.heap.size+1),10,none⟩ (.slice A.ka F.key.length A.kc)).setCell ⟨(w.heap.size+1),11,none⟩ (.slice A.ba F.body.length A.bc)).drew=Y at *
 have hS:=same_ok Y F A (ownData F) A (hF.below hY3) ((hF.below hY3).ownData)
 have HL1:Hid ((Instr.loadAt 41 (.pointer (some ⟨w.heap.size,0,none⟩))).run Tryz.prog Y=.ok (.agg (frC F A)) Y):=hY1.loads
 have HL2:Hid ((Instr.loadAt 41 (.pointer (some ⟨w.heap.size+1,0,none⟩))).run Tryz.prog Y=.ok (.agg (frC (ownData F) A)) Y):=hY2.loads
 have HE:Hid (Below w.heap.size w ((Y.alloc (.cells (frC F A) 41)).alloc (.cells (frC (ownData F) A) 41))):=hY3.trans ((Go.Joins.below_alloc2 _ _ _).mono hY3.size)
 clear hY1 hY2 hY3 hF
 go_wp2_with (first|(refine wpList_load_run rfl 41 _ rfl _ _ rfl HL1.out ?_)|(refine wpList_load_run rfl 41 _ rfl _ _ rfl HL2.out ?_)|fail)
 refine hS.mono ?_
 rintro e w1 ⟨rfl,rfl⟩
 clear hS
 go_wp2
 go_ret
 exact⟨rfl,HE.out⟩
theorem suits_ping (w:World)(F:Fr)(A:At)(hF:Seen w F A)(hk:F.k=2)(hne:¬ F.f=F.t):
  Calls Tryz.prog 120 #[.agg (frC F A)] w λe w'=>e=.returned (.bool (sameB F (ownPing F)))/\Below w.heap.size w w':=by
 have hN:=FrAt.new w F A
 have p0:=hN.c0
 have p1:=hN.c1
 have p12:=hN.c12
 have g1:(F.k==1)=false:=by simp[hk]
 have g2:(F.k==2)=true:=by simp[hk]
 have g3:(F.k==3)=false:=by simp[hk]
 have gn:(F.f==F.t)=false:=by simp[hne]
 clear hk hne
 have HB:Hid ((Instr.build 41 #[(0,.int .i64 F.k),(1,.int .i64 F.f),(12,.slice A.ta F.tag.length A.tc)]).run Tryz.prog (w.alloc (.cells (frC F A) 41))=.ok (.agg (frC (ownA F) (ownAA A))) (w.alloc (.cells (frC F A) 41))):=build_own _ F A
 obtain⟨W,hst,hP,hQ,hbel,hsz⟩:=suits_laid w F A
 have HST:Hid ((Instr.storeAt 41 (.pointer (some ⟨w.heap.size+1,0,none⟩)) (.agg (frC (ownA F) (ownAA A)))).run Tryz.prog ((w.alloc (.cells (frC F A) 41)).alloc (.cells (frC Fr.zero At.zero) 41))=.ok () W):=hst
 have a0:=hP.c0
 clear hN hst hsz
 have a1:=hP.c1
 have a2:=hP.c2
 have a6:=hP.c6
 have b2:=hQ.c2
 have z2:=hQ.fz 2
 have b6:=hQ.c6
 have z6:=hQ.fz 6
 have HX:Hid (FrAt W w.heap.size F A/\FrAt W (w.heap.size+1) (ownA F) (ownAA A)/\Below w.heap.size w W):=⟨hP,hQ,hbel⟩
 have HF:Hid (Seen w F A):=hF
 clear hP hQ hbel hF
 go_enter Tryz.func120,Tryz.ntmps120
 go_wp2_with (first|(refine wpList_build_run rfl 41 _ rfl [(0,.int .i64 F.k),(1,.int .i64 F.f),(12,.slice A.ta F.tag.length A.tc)] _ rfl HB.out ?_)|(refine wpList_store_run rfl 41 _ _ rfl _ _ rfl rfl HST.out ?_)|fail)
 go_big_region
 clear a2 b2 z2 a6 b6 z6 a0 a1 p0 p1 p12 HB HST
 have hF:=HF.out
 obtain⟨hY1,hY2,hY3⟩:=suits_pingW w W w.heap.size F A (Nat.le_refl _) HX.out.1 HX.out.2.1 HX.out.2.2
 clear HX HF
 generalize ((W.setCell ⟨(w.heap.size+1),2,none⟩ (.int .i64 F.t)).setCell ⟨(w.heap.size+1),6,none⟩ (.int .u64 (F.n:Int))).drew=Y at *
 have hS:=same_ok Y F A (ownPing F) (ownAA A) (hF.below hY3) ((hF.below hY3).ownPing)
 have HL1:Hid ((Instr.loadAt 41 (.pointer (some ⟨w.heap.size,0,none⟩))).run Tryz.prog Y=.ok (.agg (frC F A)) Y):=hY1.loads
 have HL2:Hid ((Instr.loadAt 41 (.pointer (some ⟨w.heap.size+1,0,none⟩))).run Tryz.prog Y=.ok (.agg (frC (ownPing F) (ownAA A))) Y):=hY2.loads
 have HE:Hid (Below w.heap.size w ((Y.alloc (.cells (frC F A) 41)).alloc (.cells (frC (ownPing F) (ownAA A)) 41))):=hY3.trans ((Go.Joins.below_alloc2 _ _ _).mono hY3.size)
 clear hY1 hY2 hY3 hF
 go_wp2_with (first|(refine wpList_load_run rfl 41 _ rfl _ _ rfl HL1.out ?_)|(refine wpList_load_run rfl 41 _ rfl _ _ rfl HL2.out ?_)|fail)
 refine hS.mono ?_
 rintro e w1 ⟨rfl,rfl⟩
 clear hS
 go_wp2
 go_ret
 exact⟨rfl,HE.out⟩
theorem suits_pingno (w:World)(F:Fr)(A:At)(hk:F.k=2)(hne:F.f=F.t):
  Calls Tryz.prog 120 #[.agg (frC F A)] w λe w'=>e=.returned (.bool false)/\Below w.heap.size w w':=by
 have hN:=FrAt.new w F A
 have p0:=hN.c0
 have p1:=hN.c1
 have p12:=hN.c12
 have g1:(F.k==1)=false:=by simp[hk]
 have g2:(F.k==2)=true:=by simp[hk]
 have g3:(F.k==3)=false:=by simp[hk]
 have gn:(F.f==F.t)=true:=by simp[hne]
 clear hk hne
 have HB:Hid ((Instr.build 41 #[(0,.int .i64 F.k),(1,.int .i64 F.f),(12,.slice A.ta F.tag.length A.tc)]).run Tryz.prog (w.alloc (.cells (frC F A) 41))=.ok (.agg (frC (ownA F) (ownAA A))) (w.alloc (.cells (frC F A) 41))):=build_own _ F A
 obtain⟨W,hst,hP,hQ,hbel,hsz⟩:=suits_laid w F A
 have HST:Hid ((Instr.storeAt 41 (.pointer (some ⟨w.heap.size+1,0,none⟩)) (.agg (frC (ownA F) (ownAA A)))).run Tryz.prog ((w.alloc (.cells (frC F A) 41)).alloc (.cells (frC Fr.zero At.zero) 41))=.ok () W):=hst
 have a0:=hP.c0
 clear hN hst hsz
 have a1:=hP.c1
 have a2:=hP.c2
 have HX:Hid (Below w.heap.size w W):=hbel
 clear hP hQ hbel
 go_enter Tryz.func120,Tryz.ntmps120
 go_wp2_with (first|(refine wpList_build_run rfl 41 _ rfl [(0,.int .i64 F.k),(1,.int .i64 F.f),(12,.slice A.ta F.tag.length A.tc)] _ rfl HB.out ?_)|(refine wpList_store_run rfl 41 _ _ rfl _ _ rfl rfl HST.out ?_)|fail)
 go_ret
 exact⟨rfl,HX.out⟩
theorem suits_none (w:World)(F:Fr)(A:At)(h1:¬ F.k=1)(h2:¬ F.k=2)(h3:¬ F.k=3):
  Calls Tryz.prog 120 #[.agg (frC F A)] w λe w'=>e=.returned (.bool false)/\Below w.heap.size w w':=by
 have hN:=FrAt.new w F A
 have p0:=hN.c0
 have p1:=hN.c1
 have p12:=hN.c12
 have g1:(F.k==1)=false:=by simp[h1]
 have g2:(F.k==2)=false:=by simp[h2]
 have g3:(F.k==3)=false:=by simp[h3]
 clear h1 h2 h3
 have HB:Hid ((Instr.build 41 #[(0,.int .i64 F.k),(1,.int .i64 F.f),(12,.slice A.ta F.tag.length A.tc)]).run Tryz.prog (w.alloc (.cells (frC F A) 41))=.ok (.agg (frC (ownA F) (ownAA A))) (w.alloc (.cells (frC F A) 41))):=build_own _ F A
 obtain⟨W,hst,hP,hQ,hbel,hsz⟩:=suits_laid w F A
 have HST:Hid ((Instr.storeAt 41 (.pointer (some ⟨w.heap.size+1,0,none⟩)) (.agg (frC (ownA F) (ownAA A)))).run Tryz.prog ((w.alloc (.cells (frC F A) 41)).alloc (.cells (frC Fr.zero At.zero) 41))=.ok () W):=hst
 have a0:=hP.c0
 clear hN hst hsz
 have HX:Hid (Below w.heap.size w W):=hbel
 clear hP hQ hbel
 go_enter Tryz.func120,Tryz.ntmps120
 go_wp2_with (first|(refine wpList_build_run rfl 41 _ rfl [(0,.int .i64 F.k),(1,.int .i64 F.f),(12,.slice A.ta F.tag.length A.tc)] _ rfl HB.out ?_)|(refine wpList_store_run rfl 41 _ _ rfl _ _ rfl rfl HST.out ?_)|fail)
 go_ret
 exact⟨rfl,HX.out⟩
theorem suits_pong (w:World)(F:Fr)(A:At)(hF:Seen w F A)(hk:F.k=3)(hne:¬ F.f=F.t):
  Calls Tryz.prog 120 #[.agg (frC F A)] w λe w'=>e=.returned (.bool (sameB F (ownPong F)))/\Below w.heap.size w w':=by
 have hN:=FrAt.new w F A
 have p0:=hN.c0
 have p1:=hN.c1
 have p12:=hN.c12
 have g1:(F.k==1)=false:=by simp[hk]
 have g2:(F.k==2)=false:=by simp[hk]
 have g3:(F.k==3)=true:=by simp[hk]
 have gn:(F.f==F.t)=false:=by simp[hne]
 clear hk hne
 have HB:Hid ((Instr.build 41 #[(0,.int .i64 F.k),(1,.int .i64 F.f),(12,.slice A.ta F.tag.length A.tc)]).run Tryz.prog (w.alloc (.cells (frC F A) 41))=.ok (.agg (frC (ownA F) (ownAA A))) (w.alloc (.cells (frC F A) 41))):=build_own _ F A
 obtain⟨W,hst,hP,hQ,hbel,hsz⟩:=suits_laid w F A
 have HST:Hid ((Instr.storeAt 41 (.pointer (some ⟨w.heap.size+1,0,none⟩)) (.agg (frC (ownA F) (ownAA A)))).run Tryz.prog ((w.alloc (.cells (frC F A) 41)).alloc (.cells (frC Fr.zero At.zero) 41))=.ok () W):=hst
 have a0:=hP.c0
 clear hN hst hsz
 have a7:=hP.c7
 have a3:=hP.c3
 have a4:=hP.c4
 have a9:=hP.c9
 have a10:=hP.c10
 have b7:=hQ.c7
 have z7:=hQ.fz 7
 have b3:=hQ.c3
 have z3:=hQ.fz 3
 have b4:=hQ.c4
 have z4:=hQ.fz 4
 have b9:=hQ.c9
 have z9:=hQ.fz 9
 have b10:=hQ.c10
 have z10:=hQ.fz 10
 have HX:Hid (FrAt W w.heap.size F A/\FrAt W (w.heap.size+1) (ownA F) (ownAA A)/\Below w.heap.size w W):=⟨hP,hQ,hbel⟩
 have HF:Hid (Seen w F A):=hF
 clear hP hQ hbel hF
 go_enter Tryz.func120,Tryz.ntmps120
 go_wp2_with (first|(refine wpList_build_run rfl 41 _ rfl [(0,.int .i64 F.k),(1,.int .i64 F.f),(12,.slice A.ta F.tag.length A.tc)] _ rfl HB.out ?_)|(refine wpList_store_run rfl 41 _ _ rfl _ _ rfl rfl HST.out ?_)|fail)
 go_big_region
 clear a7 b7 z7 a3 b3 z3 a4 b4 z4 a9 b9 z9 a10 b10 z10 a0 p0 p1 p12 HB HST
 obtain⟨hZ1,hZ2,hZ3⟩:=suits_pongW w W w.heap.size F A (Nat.le_refl _) HX.out.1 HX.out.2.1 HX.out.2.2
 clear HX
 generalize (((((W.setCell ⟨(w.heap.size+1),7,none⟩ (.int .i64 F.m)).setCell ⟨(w.heap.size+1),3,none⟩ (.int .i64 F.e)).setCell ⟨(w.heap.size+1),4,none⟩ (.int .i64 F.s)).setCell ⟨(w.heap.size+1),9,none⟩ (.int .i64 F.i)).setCell ⟨(w.heap.size+1),10,none⟩ (.slice A.ka F.key.length A.kc)).drew=Z at *
 have a1:=hZ1.c1
 have a2:=hZ1.c2
 have a6:=hZ1.c6
 have b2:=hZ2.c2
 have z2:=hZ2.fz 2
 have b6:=hZ2.c6
 have z6:=hZ2.fz 6
 have HX:Hid (FrAt Z w.heap.size F A/\FrAt Z (w.heap.size+1) (ownPong0 F) (ownPongA A)/\Below w.heap.size w Z):=⟨hZ1,hZ2,hZ3⟩
 clear hZ1 hZ2 hZ3
 go_wp2
 go_big_region
 clear a2 b2 z2 a6 b6 z6 a1
 have hF:=HF.out
 obtain⟨hY1,hY2,hY3⟩:=suits_pong2W w Z w.heap.size F A (Nat.le_refl _) HX.out.1 HX.out.2.1 HX.out.2.2
 clear HX HF
 generalize ((Z.setCell ⟨(w.heap.size+1),2,none⟩ (.int .i64 F.t)).setCell ⟨(w.heap.size+1),6,none⟩ (.int .u64 (F.n:Int))).drew=Y at *
 have hS:=same_ok Y F A (ownPong F) (ownPongA A) (hF.below hY3) ((hF.below hY3).ownPong)
 have HL1:Hid ((Instr.loadAt 41 (.pointer (some ⟨w.heap.size,0,none⟩))).run Tryz.prog Y=.ok (.agg (frC F A)) Y):=hY1.loads
 have HL2:Hid ((Instr.loadAt 41 (.pointer (some ⟨w.heap.size+1,0,none⟩))).run Tryz.prog Y=.ok (.agg (frC (ownPong F) (ownPongA A))) Y):=hY2.loads
 have HE:Hid (Below w.heap.size w ((Y.alloc (.cells (frC F A) 41)).alloc (.cells (frC (ownPong F) (ownPongA A)) 41))):=hY3.trans ((Go.Joins.below_alloc2 _ _ _).mono hY3.size)
 clear hY1 hY2 hY3 hF
 go_wp2_with (first|(refine wpList_load_run rfl 41 _ rfl _ _ rfl HL1.out ?_)|(refine wpList_load_run rfl 41 _ rfl _ _ rfl HL2.out ?_)|fail)
 refine hS.mono ?_
 rintro e w1 ⟨rfl,rfl⟩
 clear hS
 go_wp2
 go_ret
 exact⟨rfl,HE.out⟩
theorem suits_pongno (w:World)(F:Fr)(A:At)(hk:F.k=3)(hne:F.f=F.t):
  Calls Tryz.prog 120 #[.agg (frC F A)] w λe w'=>e=.returned (.bool false)/\Below w.heap.size w w':=by
 have hN:=FrAt.new w F A
 have p0:=hN.c0
 have p1:=hN.c1
 have p12:=hN.c12
 have g1:(F.k==1)=false:=by simp[hk]
 have g2:(F.k==2)=false:=by simp[hk]
 have g3:(F.k==3)=true:=by simp[hk]
 have gn:(F.f==F.t)=true:=by simp[hne]
 clear hk hne
 have HB:Hid ((Instr.build 41 #[(0,.int .i64 F.k),(1,.int .i64 F.f),(12,.slice A.ta F.tag.length A.tc)]).run Tryz.prog (w.alloc (.cells (frC F A) 41))=.ok (.agg (frC (ownA F) (ownAA A))) (w.alloc (.cells (frC F A) 41))):=build_own _ F A
 obtain⟨W,hst,hP,hQ,hbel,hsz⟩:=suits_laid w F A
 have HST:Hid ((Instr.storeAt 41 (.pointer (some ⟨w.heap.size+1,0,none⟩)) (.agg (frC (ownA F) (ownAA A)))).run Tryz.prog ((w.alloc (.cells (frC F A) 41)).alloc (.cells (frC Fr.zero At.zero) 41))=.ok () W):=hst
 have a0:=hP.c0
 clear hN hst hsz
 have a7:=hP.c7
 have a3:=hP.c3
 have a4:=hP.c4
 have a9:=hP.c9
 have a10:=hP.c10
 have b7:=hQ.c7
 have z7:=hQ.fz 7
 have b3:=hQ.c3
 have z3:=hQ.fz 3
 have b4:=hQ.c4
 have z4:=hQ.fz 4
 have b9:=hQ.c9
 have z9:=hQ.fz 9
 have b10:=hQ.c10
 have z10:=hQ.fz 10
 have HX:Hid (FrAt W w.heap.size F A/\FrAt W (w.heap.size+1) (ownA F) (ownAA A)/\Below w.heap.size w W):=⟨hP,hQ,hbel⟩
 clear hP hQ hbel
 go_enter Tryz.func120,Tryz.ntmps120
 go_wp2_with (first|(refine wpList_build_run rfl 41 _ rfl [(0,.int .i64 F.k),(1,.int .i64 F.f),(12,.slice A.ta F.tag.length A.tc)] _ rfl HB.out ?_)|(refine wpList_store_run rfl 41 _ _ rfl _ _ rfl rfl HST.out ?_)|fail)
 go_big_region
 clear a7 b7 z7 a3 b3 z3 a4 b4 z4 a9 b9 z9 a10 b10 z10 a0 p0 p1 p12 HB HST
 obtain⟨hZ1,hZ2,hZ3⟩:=suits_pongW w W w.heap.size F A (Nat.le_refl _) HX.out.1 HX.out.2.1 HX.out.2.2
 clear HX
 generalize (((((W.setCell ⟨(w.heap.size+1),7,none⟩ (.int .i64 F.m)).setCell ⟨(w.heap.size+1),3,none⟩ (.int .i64 F.e)).setCell ⟨(w.heap.size+1),4,none⟩ (.int .i64 F.s)).setCell ⟨(w.heap.size+1),9,none⟩ (.int .i64 F.i)).setCell ⟨(w.heap.size+1),10,none⟩ (.slice A.ka F.key.length A.kc)).drew=Z at *
 have a1:=hZ1.c1
 have a2:=hZ1.c2
 have HE:Hid (Below w.heap.size w Z):=hZ3
 clear hZ1 hZ2 hZ3
 go_wp2
 go_ret
 exact⟨rfl,HE.out⟩
theorem suits_ok (w:World)(F:Fr)(A:At)(hF:Seen w F A):Calls Tryz.prog 120 #[.agg (frC F A)] w λe w'=>e=.returned (.bool (suitB F))/\Below w.heap.size w w':=by
 unfold suitB
 by_cases k1:F.k=1
 ·rw[if_pos k1];exact suits_data w F A hF k1
 ·rw[if_neg k1]
  by_cases k3:F.k=3
  ·rw[if_pos k3]
   by_cases hne:F.f=F.t
   ·rw[if_pos hne];exact suits_pongno w F A k3 hne
   ·rw[if_neg hne];exact suits_pong w F A hF k3 hne
  ·rw[if_neg k3]
   by_cases k2:F.k=2
   ·rw[if_pos k2]
    by_cases hne:F.f=F.t
    ·rw[if_pos hne];exact suits_pingno w F A k2 hne
    ·rw[if_neg hne];exact suits_ping w F A hF k2 hne
   ·rw[if_neg k2];exact suits_none w F A k1 k2 k3
theorem core_parts (F:Fr):(numsB F&&listsB F&&suitB F)=coreB F:=by
 unfold coreB
 rw[Bool.and_assoc,Bool.and_assoc]
 congr 1
 unfold listsB suitB
 have e0:∀ l:List UInt8,(l=[]↔l.length=0):=λl=>by cases l<;>simp
 by_cases k1:F.k=1
 ·rw[if_pos k1,if_pos k1,if_neg (by omega),Bool.eq_iff_iff]
  simp only[Bool.and_eq_true,decide_eq_true_eq,sameB_iff]
  constructor
  ·rintro⟨⟨h1,h2⟩,h3⟩
   refine⟨h2,h1,?_,?_,?_,?_⟩
   ·exact congrArg Fr.t h3
   ·exact congrArg Fr.n h3
   ·exact congrArg Fr.m h3
   ·exact congrArg Fr.s h3
  ·rintro⟨h2,h1,h3,h4,h5,h6⟩
   exact⟨⟨h1,h2⟩,fr_ext rfl rfl h3 rfl h6 rfl h4 h5 rfl rfl rfl rfl rfl⟩
 ·rw[if_neg k1,if_neg k1]
  by_cases k2:F.k=2
  ·rw[if_pos k2,if_pos k2,if_neg (by omega),if_pos k2]
   by_cases hft:F.f=F.t
   ·rw[if_pos hft];simp[hft]
   ·rw[if_neg hft,Bool.eq_iff_iff]
    simp only[Bool.and_eq_true,decide_eq_true_eq,sameB_iff]
    constructor
    ·rintro⟨⟨h1,h2⟩,h3⟩
     refine⟨h2,hft,h1,?_,?_,?_,?_,?_,?_,?_⟩
     ·exact congrArg Fr.e h3
     ·exact congrArg Fr.i h3
     ·exact congrArg Fr.r h3
     ·exact congrArg Fr.v h3
     ·have:=congrArg Fr.body h3
      exact(e0 _).1 this
     ·exact congrArg Fr.m h3
     ·exact congrArg Fr.s h3
    ·rintro⟨h2,_,h1,h4,h5,h6,h7,h8,h9,h10⟩
     exact⟨⟨h1,h2⟩,fr_ext rfl rfl rfl h4 h10 h6 rfl h9 h7 h5 ((e0 _).2 h1) ((e0 _).2 h8) rfl⟩
  ·rw[if_neg k2,if_neg k2,if_neg k2]
   by_cases k3:F.k=3
   ·rw[if_pos k3,if_pos k3]
    by_cases hft:F.f=F.t
    ·rw[if_pos hft];simp[hft]
    ·rw[if_neg hft,Bool.eq_iff_iff]
     simp only[Bool.and_eq_true,decide_eq_true_eq,sameB_iff]
     constructor
     ·rintro⟨⟨h1,h2⟩,h3⟩
      refine⟨h2,hft,h1,?_,?_,?_⟩
      ·exact congrArg Fr.r h3
      ·exact congrArg Fr.v h3
      ·have:=congrArg Fr.body h3
       exact(e0 _).1 this
     ·rintro⟨h2,_,h1,h4,h5,h6⟩
      exact⟨⟨h1,h2⟩,fr_ext rfl rfl rfl rfl rfl h4 rfl rfl h5 rfl rfl ((e0 _).2 h6) rfl⟩
   ·rw[if_neg k3,if_neg k3];simp
theorem Sees.len {w:World}{a:Option Addr}{cap:Nat}{l:List UInt8}(h:Sees w a cap l):l.length<=9223372036854775807:=by
 have:=h.fits;have:=h.room;unfold maxLen at this;omega
theorem rcore_ok (w:World)(F:Fr)(A:At)(hF:Seen w F A):Calls Tryz.prog 79 #[.agg (frC F A)] w λe w'=>e=.returned (.bool (coreB F))/\Below w.heap.size w w':=by
 rw[<-core_parts]
 have hN:=FrAt.new w F A
 have hb0:Below w.heap.size w (w.alloc (.cells (frC F A) 41)):=Go.Joins.below_alloc1 _ _
 have HL:Hid (∀ w1,Below (w.alloc (.cells (frC F A) 41)).heap.size (w.alloc (.cells (frC F A) 41)) w1->(Instr.loadAt 41 (.pointer (some ⟨w.heap.size,0,none⟩))).run Tryz.prog w1=.ok (.agg (frC F A)) w1):=λw1 hb=>(hN.below hb).loads
 have HF:Hid (Seen (w.alloc (.cells (frC F A) 41)) F A):=hF.below hb0
 have u1:=rnums_ok (w.alloc (.cells (frC F A) 41)) F A
 have HL0:Hid ((Instr.loadAt 41 (.pointer (some ⟨w.heap.size,0,none⟩))).run Tryz.prog (w.alloc (.cells (frC F A) 41))=.ok (.agg (frC F A)) (w.alloc (.cells (frC F A) 41))):=hN.loads
 have HB0:Hid (Below w.heap.size w (w.alloc (.cells (frC F A) 41))):=hb0
 clear hN hb0 hF
 generalize numsB F=b1 at *
 obtain⟨b2,e2⟩:∃ b,listsB F=b:=⟨_,rfl⟩
 obtain⟨b3,e3⟩:∃ b,suitB F=b:=⟨_,rfl⟩
 rw[e2,e3]
 have E2:Hid (listsB F=b2):=e2
 have E3:Hid (suitB F=b3):=e3
 clear e2 e3
 go_enter Tryz.func79,Tryz.ntmps79
 go_upto_region 1 with fail
 generalize w.alloc (Obj.cells (frC F A) 41)=W at *
 go_wp2_with (first|(refine wpList_load_run rfl 41 _ rfl _ _ rfl HL0.out ?_)|fail)
 refine u1.mono ?_
 rintro e w1 ⟨rfl,hw1⟩
 have hb1:Below W.heap.size W w1:=by rw[hw1];exact Go.Joins.below_alloc1 _ _
 have hb1':Below w.heap.size w w1:=HB0.out.trans (hb1.mono HB0.out.size)
 clear hw1 u1
 cases b1
 ·clear HL0
  have HX:Hid (Below w.heap.size w w1):=hb1'
  clear hb1 hb1'
  go_wp2
  go_ret
  exact⟨rfl,HX.out⟩
 have u2:=rlists_ok w1 F A (HF.out.below hb1).body.len
 have HL1:Hid ((Instr.loadAt 41 (.pointer (some ⟨w.heap.size,0,none⟩))).run Tryz.prog w1=.ok (.agg (frC F A)) w1):=HL.out w1 hb1
 rw[E2.out] at u2
 clear HL0
 have H1:Hid (Below W.heap.size W w1/\Below w.heap.size w w1):=⟨hb1,hb1'⟩
 clear hb1 hb1'
 go_wp2_with (first|(refine wpList_gload_run rfl 41 _ rfl _ _ rfl HL1.out ?_)|fail)
 refine u2.mono ?_
 rintro e w2 ⟨rfl,hw2⟩
 have hb2:Below w1.heap.size w1 w2:=by rw[hw2];exact Go.Joins.below_alloc1 _ _
 have hb2':Below w.heap.size w w2:=H1.out.2.trans (hb2.mono H1.out.2.size)
 have hb2W:Below W.heap.size W w2:=H1.out.1.trans (hb2.mono H1.out.1.size)
 clear hw2 u2 hb2
 cases b2
 ·have HX:Hid (Below w.heap.size w w2):=hb2'
  clear hb2' hb2W HL1
  go_wp2
  go_ret
  exact⟨rfl,HX.out⟩
 have u3:=suits_ok w2 F A (HF.out.below hb2W)
 have HL2:Hid ((Instr.loadAt 41 (.pointer (some ⟨w.heap.size,0,none⟩))).run Tryz.prog w2=.ok (.agg (frC F A)) w2):=HL.out w2 hb2W
 rw[E3.out] at u3
 have H2:Hid (Below w.heap.size w w2):=hb2'
 clear HL1 hb2' hb2W
 go_wp2_with (first|(refine wpList_gload_run rfl 41 _ rfl _ _ rfl HL2.out ?_)|fail)
 refine u3.mono ?_
 rintro e w3 ⟨rfl,hb3⟩
 have HX:Hid (Below w.heap.size w w3):=H2.out.trans (hb3.mono H2.out.size)
 clear u3 hb3 HL2
 go_wp2
 go_ret
 exact⟨rfl,HX.out⟩
theorem check_ok (w:World)(F:Fr)(A:At)(hF:Seen w F A):Calls Tryz.prog 43 #[.agg (frC F A)] w λe w'=>e=.returned (.int .i64 (if rightB F=true then 0 else 1))/\Below w.heap.size w w':=by
 have hN:=FrAt.new w F A
 have hb0:Below w.heap.size w (w.alloc (.cells (frC F A) 41)):=Go.Joins.below_alloc1 _ _
 have HL:Hid ((Instr.loadAt 41 (.pointer (some ⟨w.heap.size,0,none⟩))).run Tryz.prog (w.alloc (.cells (frC F A) 41))=.ok (.agg (frC F A)) (w.alloc (.cells (frC F A) 41))):=hN.loads
 have u1:=rcore_ok (w.alloc (.cells (frC F A) 41)) F A (hF.below hb0)
 have HC:Hid (∀ w1,Below (w.alloc (.cells (frC F A) 41)).heap.size (w.alloc (.cells (frC F A) 41)) w1->w1.cell? ⟨w.heap.size,12,none⟩=some (.slice A.ta F.tag.length A.tc)/\Below w.heap.size w w1):=λw1 hb=>⟨(hN.below hb).c12,hb0.trans (hb.mono hb0.size)⟩
 have hlm:=hF.tag.len
 obtain⟨T,hT⟩:∃ T,T=F.tag.length:=⟨_,rfl⟩
 have hR:rightB F=(coreB F&&decide (T=8)):=by rw[hT];rfl
 rw[hR]
 rw[<-hT] at HC hlm
 generalize coreB F=b1 at *
 clear hN hb0 hF hR hT
 cases b1
 ·rw[show (if (false&&decide (T=8))=true then (0:Int) else 1)=1 from rfl]
  go_enter Tryz.func43,Tryz.ntmps43
  go_wp2_with (first|(refine wpList_gload_run rfl 41 _ rfl _ _ rfl HL.out ?_)|fail)
  refine u1.mono ?_
  rintro e w1 ⟨rfl,hb1⟩
  obtain⟨_,hb⟩:=HC.out w1 hb1
  have HX:Hid (Below w.heap.size w w1):=hb
  clear hb1 u1 HL HC hb
  go_wp2
  go_ret
  exact⟨rfl,HX.out⟩
 ·by_cases h8:T=8
  ·have g8:((T:Int) != 8)=false:=by simp;omega
   rw[show (if (true&&decide (T=8))=true then (0:Int) else 1)=0 from if_pos (by simp[h8])]
   clear h8
   go_enter Tryz.func43,Tryz.ntmps43
   go_wp2_with (first|(refine wpList_gload_run rfl 41 _ rfl _ _ rfl HL.out ?_)|fail)
   refine u1.mono ?_
   rintro e w1 ⟨rfl,hb1⟩
   obtain⟨c12,hb⟩:=HC.out w1 hb1
   have HX:Hid (Below w.heap.size w w1):=hb
   clear hb1 u1 HL HC hb
   go_wp2
   go_ret
   exact⟨rfl,HX.out⟩
  ·have g8:((T:Int) != 8)=true:=by simp;omega
   rw[show (if (true&&decide (T=8))=true then (0:Int) else 1)=1 from if_neg (by simp[h8])]
   clear h8
   go_enter Tryz.func43,Tryz.ntmps43
   go_wp2_with (first|(refine wpList_gload_run rfl 41 _ rfl _ _ rfl HL.out ?_)|fail)
   refine u1.mono ?_
   rintro e w1 ⟨rfl,hb1⟩
   obtain⟨c12,hb⟩:=HC.out w1 hb1
   have HX:Hid (Below w.heap.size w w1):=hb
   clear hb1 u1 HL HC hb
   go_wp2
   go_ret
   exact⟨rfl,HX.out⟩
end Go.Proofs.YthogohkieiogiaaGreatDoor
