/- A helper. -/
import Derived.Test.YtmffplhaclnehaaGreatDoorPureB
import Derived.Lib.SmallJoins
import Derived.Deep.Cut
namespace Go.Proofs.YtmffplhaclnehaaGreatDoor
set_option maxRecDepth 100000
set_option maxHeartbeats 1600000
open Go.ChangeShapes Go.WideShapes Go.ChangeAt Go.RowKit
variable {w W:World} {g:Nat} {c:Cf}
def Hw (c:Cf):List Value:=[.int .i64 c.n,.int .i64 c.f,.int .i64 c.s,.int .i64 c.d,.int .i64 c.k,.int .i64 c.e,.int .i64 c.v,.int .i64 c.r,.int .i64 c.l,.int .i64 c.p]
def aF (c:Cf):Array Value:=(Hw c).toArray
theorem xH (c:Cf):(aF c).size=10:=rfl
theorem Rq (c:Cf):(aF c).all (·.oneCell')=true:=all_oneCell_toArray (by
 intro v hv
 simp only[Hw,List.mem_cons,List.not_mem_nil,or_false] at hv
 rcases hv with rfl|rfl|rfl|rfl|rfl|rfl|rfl|rfl|rfl|rfl<;>rfl)
def aS (w:World)(g:Nat)(c:Cf):Prop:=w.heap[g]?=some (.cells (aF c) 23 (0,0))
theorem aS.cell (h:aS w g c)(i:Nat){u:Value}(hu:(Hw c)[i]?=some u):w.cell? ⟨g,i,none⟩=some u:=by
 rw[cell_of_row w _ i _ _ _ h];simpa [aF] using hu
theorem aS.c0 (h:aS w g c):w.cell? ⟨g,0,none⟩=some (.int .i64 c.n):=h.cell 0 rfl
theorem aS.c1 (h:aS w g c):w.cell? ⟨g,1,none⟩=some (.int .i64 c.f):=h.cell 1 rfl
theorem aS.c2 (h:aS w g c):w.cell? ⟨g,2,none⟩=some (.int .i64 c.s):=h.cell 2 rfl
theorem aS.c3 (h:aS w g c):w.cell? ⟨g,3,none⟩=some (.int .i64 c.d):=h.cell 3 rfl
theorem aS.c4 (h:aS w g c):w.cell? ⟨g,4,none⟩=some (.int .i64 c.k):=h.cell 4 rfl
theorem aS.c5 (h:aS w g c):w.cell? ⟨g,5,none⟩=some (.int .i64 c.e):=h.cell 5 rfl
theorem aS.c6 (h:aS w g c):w.cell? ⟨g,6,none⟩=some (.int .i64 c.v):=h.cell 6 rfl
theorem aS.c7 (h:aS w g c):w.cell? ⟨g,7,none⟩=some (.int .i64 c.r):=h.cell 7 rfl
theorem aS.c8 (h:aS w g c):w.cell? ⟨g,8,none⟩=some (.int .i64 c.l):=h.cell 8 rfl
theorem aS.c9 (h:aS w g c):w.cell? ⟨g,9,none⟩=some (.int .i64 c.p):=h.cell 9 rfl
theorem aS.fz (h:aS w g c)(i:Nat):w.frozen? ⟨g,i,none⟩=false:=frozen_of_row _ _ i _ _ h
theorem aS.lt (h:aS w g c):g<w.heap.size:=(Array.getElem?_eq_some_iff.1 h).1
theorem aS.keep {w':World}(h:aS w g c)(hb:w'.heap[g]?=w.heap[g]?):aS w' g c:=hb.trans h
theorem aS.below {w':World}(h:aS w g c)(hb:Below w.heap.size w w'):aS w' g c:=h.keep (hb.block g h.lt)
theorem aS.new (w:World)(c:Cf):aS (w.alloc (.cells (aF c) 23)) w.heap.size c:=heap_alloc_new _ _
theorem aS.alloc (h:aS w g c)(o:Obj):aS (w.alloc o) g c:=by
 show (w.heap.push o)[g]?=_
 rw[Array.getElem?_push,if_neg (Nat.ne_of_lt h.lt)];exact h
theorem aS.loads (h:aS w g c):(Instr.loadAt 23 (.pointer (some ⟨g,0,none⟩))).run Tryz.prog w=.ok (.agg (aF c)) w:=
 fK w g 23 23 _ (0,0) _ h Tryz.underlying23 rfl (by rw[xH];kernel_rfl)
theorem aS.stores (h:aS w g c)(b:Cf):(Instr.storeAt 23 (.pointer (some ⟨g,0,none⟩)) (.agg (aF b))).run Tryz.prog w=.ok () (w.setRow g (aF b)):=
 bB w g 23 23 _ _ h (by rw[xH];kernel_rfl) rfl (Rq b)
theorem aS.stored (h:aS w g c)(b:Cf):aS (w.setRow g (aF b)) g b:=setRow_heap _ _ _ _ 23 _ h
theorem xI {fn:Func}{p:Tmp}(h:fn.results=#[.cell p 23]){tmps:Array Value}(hp:tmps.getD p undef=.pointer (some ⟨g,0,none⟩))(hg:aS w g c):
  (results fn tmps).run Tryz.prog w=.ok (.agg (aF c)) w:=
 results_cell_row h tmps w g 23 _ (0,0) _ hp hg Tryz.underlying23 rfl (by rw[xH];kernel_rfl)
theorem aS.put {b:Cf}(h:aS w g c)(i:Nat)(u:Value)(hl:(Hw c).set i u=Hw b):aS (w.setCell ⟨g,i,none⟩ u) g b:=by
 show (w.setCell ⟨g,i,none⟩ u).heap[g]?=_
 rw[heap_setCell_same _ _ _ _ _ _ h]
 congr 2
 show ((Hw c).toArray).setIfInBounds i u=(Hw b).toArray
 rw[List.setIfInBounds_toArray,hl]
theorem Y5 (a b:Cf)(w:World):(binOp .eql 23 (.agg (aF a)) (.agg (aF b))).run Tryz.prog w=.ok (.bool (lG a b)) w:=by
 have u3:=Tryz.underlying3
 have a3:=Tryz.isAgg3
 have z3:=Tryz.sizeOf3
 have hS:Tryz.prog.underlying 23=some (.struct (Tryz.prog.fieldsOf 23)):=by kernel_rfl
 have hp:Tryz.prog.stoodInHeld 23=false:=by kernel_rfl
 rw[run_eql_struct,show (10000:Nat)=9999+1 from rfl,run_equalIn_agg w 9999 23 _ _ hS hp]
 simp only[Program.fieldsOf,Tryz.underlying23]
 obtain⟨a0,a1,a2,a3',a4,a5,a6,a7,a8,a9⟩:=a
 obtain⟨b0,b1,b2,b3,b4,b5,b6,b7,b8,b9⟩:=b
 simp only[aF,Hw,lG]
 go_simp
 by_cases h0:a0=b0
 case neg=>simp[h0]
 by_cases h1:a1=b1
 case neg=>simp[h1]
 by_cases h2:a2=b2
 case neg=>simp[h2]
 by_cases h3:a3'=b3
 case neg=>simp[h3]
 by_cases h4:a4=b4
 case neg=>simp[h4]
 by_cases h5:a5=b5
 case neg=>simp[h5]
 by_cases h6:a6=b6
 case neg=>simp[h6]
 by_cases h7:a7=b7
 case neg=>simp[h7]
 by_cases h8:a8=b8
 case neg=>simp[h8]
 by_cases h9:a9=b9
 case neg=>simp[h9]
 simp[h0,h1,h2,h3,h4,h5,h6,h7,h8,h9]
theorem Hy (a b:Cf)(w:World):(binOp .neq 23 (.agg (aF a)) (.agg (aF b))).run Tryz.prog w=.ok (.bool (!lG a b)) w:=by
 have h:=Y5 a b w
 rw[run_eql_struct] at h
 rw[run_neq_struct]
 generalize (Op.equalIn 10000 23 (.agg (aF a)) (.agg (aF b))).run Tryz.prog w=r at h ⊢
 cases r<;>simp_all [Result.andThen]
theorem Rt {α:Type}{cs:Array α}(h:cs.size=10):∃ c0 c1 c2 c3 c4 c5 c6 c7 c8 c9,cs=#[c0,c1,c2,c3,c4,c5,c6,c7,c8,c9]:=by
 obtain⟨l⟩:=cs
 match l,h with
 | [c0,c1,c2,c3,c4,c5,c6,c7,c8,c9],_=>exact⟨c0,c1,c2,c3,c4,c5,c6,c7,c8,c9,rfl⟩
theorem Ru:Tryz.prog.cellsOf 23=10:=by kernel_rfl
theorem cK {P:Program}{H:Type}{enc:TypeId×Value->H}{fs:Array Field}{cs:List Value}{n:Nat}{xs:List (DataW H×List MemPlace)}(hone:Go.Deep.oneCellFields P fs=true)(hl:xs.length=fs.size)(hf:∀ (i:Nat) (f:Field),fs[i]?=some f->DataW.trod enc P W 0 (λ_=>true) true n f.type ((cs.drop f.offset).take (P.cellsOf f.type))=xs[i]?)(i:Nat)(f:Field)(hi:fs[i]?=some f)(c:Value)(hc:cs[i]?=some c):
  ∃ y,DataW.trod enc P W 0 (λ_=>true) true n f.type [c]=some y:=by
 obtain⟨h1,h2⟩:=Go.Deep.hone_of hone i f hi
 have h3:=hf i f hi
 have hlt:i<fs.size:=(Array.getElem?_eq_some_iff.1 hi).1
 rw[h1,h2] at h3
 have h4:(cs.drop i).take 1=[c]:=by
  rw[List.take_one,List.head?_drop,hc];rfl
 rw[h4] at h3
 exact⟨xs[i]'(by omega),by rw[h3];simp⟩
theorem Kg {H:Type}{enc:TypeId×Value->H}{r:Reach}{base:Nat}{v:Value}{d:DataW H}{p:List MemPlace}(hv:Value.okWide Tryz.prog W r base 23 v)(h:DataW.Trod enc Tryz.prog W 0 (λ_=>true) true 23 v d p):
  ∃ c,v=.agg (aF c):=by
 obtain⟨cs,rfl,hsz⟩:=okWide_struct Tryz.underlying23 hv
 obtain⟨c0,c1,c2,c3,c4,c5,c6,c7,c8,c9,rfl⟩:=Rt (hsz.trans Ru)
 obtain⟨fuel,hf⟩:=h
 obtain⟨xs,n,_,_,_,hlen,hfs⟩:=DataW.trod_struct Tryz.underlying23 hf
 have hcs:(Value.agg #[c0,c1,c2,c3,c4,c5,c6,c7,c8,c9]).cells.toList=[c0,c1,c2,c3,c4,c5,c6,c7,c8,c9]:=by simp[Value.cells]
 rw[hcs] at hfs
 obtain⟨y0,h0⟩:=cK (by kernel_rfl) hlen hfs 0 _ rfl c0 rfl
 obtain⟨y1,h1⟩:=cK (by kernel_rfl) hlen hfs 1 _ rfl c1 rfl
 obtain⟨y2,h2⟩:=cK (by kernel_rfl) hlen hfs 2 _ rfl c2 rfl
 obtain⟨y3,h3⟩:=cK (by kernel_rfl) hlen hfs 3 _ rfl c3 rfl
 obtain⟨y4,h4⟩:=cK (by kernel_rfl) hlen hfs 4 _ rfl c4 rfl
 obtain⟨y5,h5⟩:=cK (by kernel_rfl) hlen hfs 5 _ rfl c5 rfl
 obtain⟨y6,h6⟩:=cK (by kernel_rfl) hlen hfs 6 _ rfl c6 rfl
 obtain⟨y7,h7⟩:=cK (by kernel_rfl) hlen hfs 7 _ rfl c7 rfl
 obtain⟨y8,h8⟩:=cK (by kernel_rfl) hlen hfs 8 _ rfl c8 rfl
 obtain⟨y9,h9⟩:=cK (by kernel_rfl) hlen hfs 9 _ rfl c9 rfl
 obtain⟨x0,e0,_,_⟩:=DataW.trod_int Tryz.underlying3 h0
 obtain⟨x1,e1,_,_⟩:=DataW.trod_int Tryz.underlying3 h1
 obtain⟨x2,e2,_,_⟩:=DataW.trod_int Tryz.underlying3 h2
 obtain⟨x3,e3,_,_⟩:=DataW.trod_int Tryz.underlying3 h3
 obtain⟨x4,e4,_,_⟩:=DataW.trod_int Tryz.underlying3 h4
 obtain⟨x5,e5,_,_⟩:=DataW.trod_int Tryz.underlying3 h5
 obtain⟨x6,e6,_,_⟩:=DataW.trod_int Tryz.underlying3 h6
 obtain⟨x7,e7,_,_⟩:=DataW.trod_int Tryz.underlying3 h7
 obtain⟨x8,e8,_,_⟩:=DataW.trod_int Tryz.underlying3 h8
 obtain⟨x9,e9,_,_⟩:=DataW.trod_int Tryz.underlying3 h9
 simp only[List.cons.injEq,and_true] at e0 e1 e2 e3 e4 e5 e6 e7 e8 e9
 subst e0 e1 e2 e3 e4 e5 e6 e7 e8 e9
 exact⟨⟨x0,x1,x2,x3,x4,x5,x6,x7,x8,x9⟩,rfl⟩
theorem eY (w:World)(n l m:Int):Calls Tryz.prog 116 #[.int .i64 n,.int .i64 l,.int .i64 m] w λe w'=>e=.returned (.int .i64 (mQ n l m))/\w'=w:=by
 have c1:(if n<l then l else n)=UT n l:=rfl
 have c2:(if m<UT n l then m else UT n l)=mQ n l m:=rfl
 generalize mQ n l m=q at *
 generalize UT n l=u at *
 go_enter Tryz.func116,Tryz.ntmps116
 go_wp2
 go_ret
 exact⟨rfl,rfl⟩
theorem Hz (w:World)(c:Cf):aS ((w.alloc (.cells (aF c) 23)).alloc (.cells (aF Cf.zero) 23)) w.heap.size c/\aS ((w.alloc (.cells (aF c) 23)).alloc (.cells (aF Cf.zero) 23)) (w.heap.size+1) Cf.zero /\
  Below w.heap.size w ((w.alloc (.cells (aF c) 23)).alloc (.cells (aF Cf.zero) 23)):=
 ⟨(aS.new w c).alloc _,by simpa using aS.new (w.alloc (.cells (aF c) 23)) Cf.zero,Go.Joins.below_alloc2 _ _ _⟩
structure AP (w W:World)(g:Nat)(c:Cf):Prop where
 own:aS W g c
 room:aS W (g+1) Cf.zero
 le:w.heap.size<=g
 aM:Below w.heap.size w W
theorem AP.put {b:Cf}(h:AP w W g c)(i:Nat)(u:Value)(hl:(Hw c).set i u=Hw b):AP w (W.setCell ⟨g,i,none⟩ u) g b:=
 ⟨h.own.put i u hl,h.room.keep (heap_setCell_other _ _ _ _ (by simp)),h.le,h.aM.setCell (p:=⟨g,i,none⟩) h.le u⟩
theorem AP.out (h:AP w W g c):aS (W.setRow (g+1) (aF c)) (g+1) c/\Below w.heap.size w (W.setRow (g+1) (aF c)):=
 ⟨h.room.stored c,below_setRow h.aM (by have:=h.le;omega) _⟩
theorem Kh (w:World)(c:Cf):Calls Tryz.prog 63 #[.agg (aF c)] w λe w'=>e=.returned (.agg (aF (nZ c)))/\Below w.heap.size w w':=by
 obtain⟨a1,a2,a3⟩:=Hz w c
 have H0:AP w ((w.alloc (.cells (aF c) 23)).alloc (.cells (aF Cf.zero) 23)) w.heap.size c:=⟨a1,a2,Nat.le_refl _,a3⟩
 have hq:=zm (n:=c.n) (l:=1) (m:=8) (by omega)
 obtain⟨q0,Bn⟩:∃ q,q=mQ c.n 1 8:=⟨_,rfl⟩
 rw[<-Bn] at hq
 obtain⟨u,eu⟩:=ai ((q0-1).tdiv 3)
 have hu:0<=u/\u<=2:=by rw[eu,Int.tdiv_eq_ediv_of_nonneg (by omega)];omega
 have e1:IntKind.i64.wrap (q0-1)=q0-1:=by rw[IntKind.wrap_i64];omega
 have e2:IntKind.i64.wrap u=u:=by rw[IntKind.wrap_i64];omega
 have e3:(q0-1).tdiv 3=u:=eu.symm
 clear hq hu
 obtain⟨q1,Fs⟩:∃ q,q=mQ c.f 0 u:=⟨_,rfl⟩
 have eb:nZ c={ c with n:=q0,f:=q1 }:=by rw[nZ,<-Bn,<-eu,<-Fs]
 rw[eb]
 obtain⟨W0,hW0⟩:∃ W,W=(w.alloc (.cells (aF c) 23)).alloc (.cells (aF Cf.zero) 23):=⟨_,rfl⟩
 rw[<-hW0] at H0
 have k0:=eY W0 c.n 1 8
 rw[<-Bn] at k0
 have H1:=H0.put (b:={ c with n:=q0 }) 0 (.int .i64 q0) rfl
 obtain⟨W1,hW1⟩:∃ W,W=W0.setCell ⟨w.heap.size,0,none⟩ (.int .i64 q0):=⟨_,rfl⟩
 rw[<-hW1] at H1
 have k1:=eY W1 c.f 0 u
 rw[<-Fs] at k1
 have H2:=H1.put (b:={ c with n:=q0,f:=q1 }) 1 (.int .i64 q1) rfl
 obtain⟨W2,hW2⟩:∃ W,W=W1.setCell ⟨w.heap.size,1,none⟩ (.int .i64 q1):=⟨_,rfl⟩
 rw[<-hW2] at H2
 have HL:Hid ((Instr.loadAt 23 (.pointer (some ⟨w.heap.size,0,none⟩))).run Tryz.prog W2=.ok (.agg (aF { c with n:=q0,f:=q1 })) W2):=H2.own.loads
 have HS:Hid ((Instr.storeAt 23 (.pointer (some ⟨w.heap.size+1,0,none⟩)) (.agg (aF { c with n:=q0,f:=q1 }))).run Tryz.prog W2=.ok () (W2.setRow (w.heap.size+1) (aF { c with n:=q0,f:=q1 }))):=H2.room.stores _
 have HE:Hid (aS (W2.setRow (w.heap.size+1) (aF { c with n:=q0,f:=q1 })) (w.heap.size+1) { c with n:=q0,f:=q1 }/\Below w.heap.size w (W2.setRow (w.heap.size+1) (aF { c with n:=q0,f:=q1 }))):=H2.out
 have Y6:=H0.own.c0
 have z0:=H0.own.fz 0
 have Y7:=H1.own.c1
 have Y8:=H1.own.c0
 have z1:=H1.own.fz 1
 have HW0:Hid ((w.alloc (.cells (aF c) 23)).alloc (.cells #[.int .i64 0,.int .i64 0,.int .i64 0,.int .i64 0,.int .i64 0,.int .i64 0,.int .i64 0,.int .i64 0,.int .i64 0,.int .i64 0] 23)=W0):=hW0.symm
 have HW1:Hid (W0.setCell ⟨w.heap.size,0,none⟩ (.int .i64 q0)=W1):=hW1.symm
 have HW2:Hid (W1.setCell ⟨w.heap.size,1,none⟩ (.int .i64 q1)=W2):=hW2.symm
 clear a1 a2 a3 eb eu H0 hW0 H1 hW1 H2 hW2 Bn Fs
 go_enter Tryz.func63,Tryz.ntmps63
 go_upto_region 1 with fail
 rw[HW0.out]
 clear HW0
 go_wp2_with fail
 refine k0.mono ?_
 rintro e w1 ⟨rfl,rfl⟩
 clear k0
 go_upto_region 2 with fail
 rw[HW1.out]
 clear HW1 z0 Y6
 go_wp2_with fail
 refine k1.mono ?_
 rintro e w1 ⟨rfl,rfl⟩
 clear k1
 go_upto_region 3 with fail
 rw[HW2.out]
 clear HW2 z1 Y7 Y8
 go_wp2_with (first|(refine aA rfl 23 _ rfl _ _ rfl HL.out ?_)|(refine ah rfl 23 _ _ rfl _ _ rfl rfl HS.out ?_)|fail)
 refine bodyPost_ret (xI rfl rfl HE.out.1) rfl ?_
 exact⟨rfl,HE.out.2⟩
theorem Ki (w:World)(c:Cf):Calls Tryz.prog 64 #[.agg (aF c)] w λe w'=>e=.returned (.agg (aF (og c)))/\Below w.heap.size w w':=by
 obtain⟨a1,a2,a3⟩:=Hz w c
 have H0:AP w ((w.alloc (.cells (aF c) 23)).alloc (.cells (aF Cf.zero) 23)) w.heap.size c:=⟨a1,a2,Nat.le_refl _,a3⟩
 have hq:=zm (n:=c.s) (l:=300) (m:=10000) (by omega)
 obtain⟨q0,Bn⟩:∃ q,q=mQ c.s 300 10000:=⟨_,rfl⟩
 rw[<-Bn] at hq
 obtain⟨u,eu⟩:=ai (4*q0)
 have e1:IntKind.i64.wrap (4*q0)=u:=by rw[IntKind.wrap_i64];omega
 clear hq
 obtain⟨q1,Fs⟩:∃ q,q=mQ c.e 1 u:=⟨_,rfl⟩
 obtain⟨q2,Py⟩:∃ q,q=mQ c.v 100 u:=⟨_,rfl⟩
 have eb:og c={ c with s:=q0,e:=q1,v:=q2 }:=by rw[og,<-Bn,<-eu,<-Fs,<-Py]
 rw[eb]
 obtain⟨W0,hW0⟩:∃ W,W=(w.alloc (.cells (aF c) 23)).alloc (.cells (aF Cf.zero) 23):=⟨_,rfl⟩
 rw[<-hW0] at H0
 have k0:=eY W0 c.s 300 10000
 rw[<-Bn] at k0
 have H1:=H0.put (b:={ c with s:=q0 }) 2 (.int .i64 q0) rfl
 obtain⟨W1,hW1⟩:∃ W,W=W0.setCell ⟨w.heap.size,2,none⟩ (.int .i64 q0):=⟨_,rfl⟩
 rw[<-hW1] at H1
 have k1:=eY W1 c.e 1 u
 rw[<-Fs] at k1
 have H2:=H1.put (b:={ c with s:=q0,e:=q1 }) 5 (.int .i64 q1) rfl
 obtain⟨W2,hW2⟩:∃ W,W=W1.setCell ⟨w.heap.size,5,none⟩ (.int .i64 q1):=⟨_,rfl⟩
 rw[<-hW2] at H2
 have k2:=eY W2 c.v 100 u
 rw[<-Py] at k2
 have H3:=H2.put (b:={ c with s:=q0,e:=q1,v:=q2 }) 6 (.int .i64 q2) rfl
 obtain⟨W3,hW3⟩:∃ W,W=W2.setCell ⟨w.heap.size,6,none⟩ (.int .i64 q2):=⟨_,rfl⟩
 rw[<-hW3] at H3
 have HL:Hid ((Instr.loadAt 23 (.pointer (some ⟨w.heap.size,0,none⟩))).run Tryz.prog W3=.ok (.agg (aF { c with s:=q0,e:=q1,v:=q2 })) W3):=H3.own.loads
 have HS:Hid ((Instr.storeAt 23 (.pointer (some ⟨w.heap.size+1,0,none⟩)) (.agg (aF { c with s:=q0,e:=q1,v:=q2 }))).run Tryz.prog W3=.ok () (W3.setRow (w.heap.size+1) (aF { c with s:=q0,e:=q1,v:=q2 }))):=H3.room.stores _
 have HE:Hid (aS (W3.setRow (w.heap.size+1) (aF { c with s:=q0,e:=q1,v:=q2 })) (w.heap.size+1) { c with s:=q0,e:=q1,v:=q2 }/\Below w.heap.size w (W3.setRow (w.heap.size+1) (aF { c with s:=q0,e:=q1,v:=q2 }))):=H3.out
 have Y9:=H0.own.c2
 have z0:=H0.own.fz 2
 have Za:=H1.own.c5
 have Zb:=H1.own.c2
 have z1:=H1.own.fz 5
 have Zc:=H2.own.c6
 have Zd:=H2.own.c2
 have z2:=H2.own.fz 6
 have HW0:Hid ((w.alloc (.cells (aF c) 23)).alloc (.cells #[.int .i64 0,.int .i64 0,.int .i64 0,.int .i64 0,.int .i64 0,.int .i64 0,.int .i64 0,.int .i64 0,.int .i64 0,.int .i64 0] 23)=W0):=hW0.symm
 have HW1:Hid (W0.setCell ⟨w.heap.size,2,none⟩ (.int .i64 q0)=W1):=hW1.symm
 have HW2:Hid (W1.setCell ⟨w.heap.size,5,none⟩ (.int .i64 q1)=W2):=hW2.symm
 have HW3:Hid (W2.setCell ⟨w.heap.size,6,none⟩ (.int .i64 q2)=W3):=hW3.symm
 clear a1 a2 a3 eb eu H0 hW0 H1 hW1 H2 hW2 H3 hW3 Bn Fs Py
 go_enter Tryz.func64,Tryz.ntmps64
 go_upto_region 1 with fail
 rw[HW0.out]
 clear HW0
 go_wp2_with fail
 refine k0.mono ?_
 rintro e w1 ⟨rfl,rfl⟩
 clear k0
 go_upto_region 2 with fail
 rw[HW1.out]
 clear HW1 z0 Y9
 go_wp2_with fail
 refine k1.mono ?_
 rintro e w1 ⟨rfl,rfl⟩
 clear k1
 go_upto_region 3 with fail
 rw[HW2.out]
 clear HW2 z1 Za Zb
 go_wp2_with fail
 refine k2.mono ?_
 rintro e w1 ⟨rfl,rfl⟩
 clear k2
 go_upto_region 4 with fail
 rw[HW3.out]
 clear HW3 z2 Zc Zd
 go_wp2_with (first|(refine aA rfl 23 _ rfl _ _ rfl HL.out ?_)|(refine ah rfl 23 _ _ rfl _ _ rfl rfl HS.out ?_)|fail)
 refine bodyPost_ret (xI rfl rfl HE.out.1) rfl ?_
 exact⟨rfl,HE.out.2⟩
theorem Oo (w:World)(c:Cf):Calls Tryz.prog 65 #[.agg (aF c)] w λe w'=>e=.returned (.agg (aF (sW c)))/\Below w.heap.size w w':=by
 obtain⟨a1,a2,a3⟩:=Hz w c
 have H0:AP w ((w.alloc (.cells (aF c) 23)).alloc (.cells (aF Cf.zero) 23)) w.heap.size c:=⟨a1,a2,Nat.le_refl _,a3⟩
 have hq:=zm (n:=c.d) (l:=1) (m:=4) (by omega)
 obtain⟨q0,Bn⟩:∃ q,q=mQ c.d 1 4:=⟨_,rfl⟩
 rw[<-Bn] at hq
 obtain⟨u,eu⟩:=ai (q0+4)
 have e1:IntKind.i64.wrap (q0+4)=u:=by rw[IntKind.wrap_i64];omega
 clear hq
 obtain⟨q1,Fs⟩:∃ q,q=mQ c.k u 256:=⟨_,rfl⟩
 obtain⟨q2,Py⟩:∃ q,q=mQ c.p 1 64:=⟨_,rfl⟩
 have eb:sW c={ c with d:=q0,k:=q1,p:=q2 }:=by rw[sW,<-Bn,<-eu,<-Fs,<-Py]
 rw[eb]
 obtain⟨W0,hW0⟩:∃ W,W=(w.alloc (.cells (aF c) 23)).alloc (.cells (aF Cf.zero) 23):=⟨_,rfl⟩
 rw[<-hW0] at H0
 have k0:=eY W0 c.d 1 4
 rw[<-Bn] at k0
 have H1:=H0.put (b:={ c with d:=q0 }) 3 (.int .i64 q0) rfl
 obtain⟨W1,hW1⟩:∃ W,W=W0.setCell ⟨w.heap.size,3,none⟩ (.int .i64 q0):=⟨_,rfl⟩
 rw[<-hW1] at H1
 have k1:=eY W1 c.k u 256
 rw[<-Fs] at k1
 have H2:=H1.put (b:={ c with d:=q0,k:=q1 }) 4 (.int .i64 q1) rfl
 obtain⟨W2,hW2⟩:∃ W,W=W1.setCell ⟨w.heap.size,4,none⟩ (.int .i64 q1):=⟨_,rfl⟩
 rw[<-hW2] at H2
 have k2:=eY W2 c.p 1 64
 rw[<-Py] at k2
 have H3:=H2.put (b:={ c with d:=q0,k:=q1,p:=q2 }) 9 (.int .i64 q2) rfl
 obtain⟨W3,hW3⟩:∃ W,W=W2.setCell ⟨w.heap.size,9,none⟩ (.int .i64 q2):=⟨_,rfl⟩
 rw[<-hW3] at H3
 have HL:Hid ((Instr.loadAt 23 (.pointer (some ⟨w.heap.size,0,none⟩))).run Tryz.prog W3=.ok (.agg (aF { c with d:=q0,k:=q1,p:=q2 })) W3):=H3.own.loads
 have HS:Hid ((Instr.storeAt 23 (.pointer (some ⟨w.heap.size+1,0,none⟩)) (.agg (aF { c with d:=q0,k:=q1,p:=q2 }))).run Tryz.prog W3=.ok () (W3.setRow (w.heap.size+1) (aF { c with d:=q0,k:=q1,p:=q2 }))):=H3.room.stores _
 have HE:Hid (aS (W3.setRow (w.heap.size+1) (aF { c with d:=q0,k:=q1,p:=q2 })) (w.heap.size+1) { c with d:=q0,k:=q1,p:=q2 }/\Below w.heap.size w (W3.setRow (w.heap.size+1) (aF { c with d:=q0,k:=q1,p:=q2 }))):=H3.out
 have Ze:=H0.own.c3
 have z0:=H0.own.fz 3
 have Zf:=H1.own.c4
 have Zg:=H1.own.c3
 have z1:=H1.own.fz 4
 have Zh:=H2.own.c9
 have z2:=H2.own.fz 9
 have HW0:Hid ((w.alloc (.cells (aF c) 23)).alloc (.cells #[.int .i64 0,.int .i64 0,.int .i64 0,.int .i64 0,.int .i64 0,.int .i64 0,.int .i64 0,.int .i64 0,.int .i64 0,.int .i64 0] 23)=W0):=hW0.symm
 have HW1:Hid (W0.setCell ⟨w.heap.size,3,none⟩ (.int .i64 q0)=W1):=hW1.symm
 have HW2:Hid (W1.setCell ⟨w.heap.size,4,none⟩ (.int .i64 q1)=W2):=hW2.symm
 have HW3:Hid (W2.setCell ⟨w.heap.size,9,none⟩ (.int .i64 q2)=W3):=hW3.symm
 clear a1 a2 a3 eb eu H0 hW0 H1 hW1 H2 hW2 H3 hW3 Bn Fs Py
 go_enter Tryz.func65,Tryz.ntmps65
 go_upto_region 1 with fail
 rw[HW0.out]
 clear HW0
 go_wp2_with fail
 refine k0.mono ?_
 rintro e w1 ⟨rfl,rfl⟩
 clear k0
 go_upto_region 2 with fail
 rw[HW1.out]
 clear HW1 z0 Ze
 go_wp2_with fail
 refine k1.mono ?_
 rintro e w1 ⟨rfl,rfl⟩
 clear k1
 go_upto_region 3 with fail
 rw[HW2.out]
 clear HW2 z1 Zf Zg
 go_wp2_with fail
 refine k2.mono ?_
 rintro e w1 ⟨rfl,rfl⟩
 clear k2
 go_upto_region 4 with fail
 rw[HW3.out]
 clear HW3 z2 Zh
 go_wp2_with (first|(refine aA rfl 23 _ rfl _ _ rfl HL.out ?_)|(refine ah rfl 23 _ _ rfl _ _ rfl rfl HS.out ?_)|fail)
 refine bodyPost_ret (xI rfl rfl HE.out.1) rfl ?_
 exact⟨rfl,HE.out.2⟩
theorem Fu (w:World)(c:Cf):Calls Tryz.prog 66 #[.agg (aF c)] w λe w'=>e=.returned (.agg (aF (kg c)))/\Below w.heap.size w w':=by
 obtain⟨a1,a2,a3⟩:=Hz w c
 have H0:AP w ((w.alloc (.cells (aF c) 23)).alloc (.cells (aF Cf.zero) 23)) w.heap.size c:=⟨a1,a2,Nat.le_refl _,a3⟩
 obtain⟨q0,Bn⟩:∃ q,q=mQ c.r 0 5:=⟨_,rfl⟩
 obtain⟨q1,Fs⟩:∃ q,q=mQ c.l 0 5:=⟨_,rfl⟩
 have eb:kg c={ c with r:=q0,l:=q1 }:=by rw[kg,<-Bn,<-Fs]
 rw[eb]
 obtain⟨W0,hW0⟩:∃ W,W=(w.alloc (.cells (aF c) 23)).alloc (.cells (aF Cf.zero) 23):=⟨_,rfl⟩
 rw[<-hW0] at H0
 have k0:=eY W0 c.r 0 5
 rw[<-Bn] at k0
 have H1:=H0.put (b:={ c with r:=q0 }) 7 (.int .i64 q0) rfl
 obtain⟨W1,hW1⟩:∃ W,W=W0.setCell ⟨w.heap.size,7,none⟩ (.int .i64 q0):=⟨_,rfl⟩
 rw[<-hW1] at H1
 have k1:=eY W1 c.l 0 5
 rw[<-Fs] at k1
 have H2:=H1.put (b:={ c with r:=q0,l:=q1 }) 8 (.int .i64 q1) rfl
 obtain⟨W2,hW2⟩:∃ W,W=W1.setCell ⟨w.heap.size,8,none⟩ (.int .i64 q1):=⟨_,rfl⟩
 rw[<-hW2] at H2
 have HL:Hid ((Instr.loadAt 23 (.pointer (some ⟨w.heap.size,0,none⟩))).run Tryz.prog W2=.ok (.agg (aF { c with r:=q0,l:=q1 })) W2):=H2.own.loads
 have HS:Hid ((Instr.storeAt 23 (.pointer (some ⟨w.heap.size+1,0,none⟩)) (.agg (aF { c with r:=q0,l:=q1 }))).run Tryz.prog W2=.ok () (W2.setRow (w.heap.size+1) (aF { c with r:=q0,l:=q1 }))):=H2.room.stores _
 have HE:Hid (aS (W2.setRow (w.heap.size+1) (aF { c with r:=q0,l:=q1 })) (w.heap.size+1) { c with r:=q0,l:=q1 }/\Below w.heap.size w (W2.setRow (w.heap.size+1) (aF { c with r:=q0,l:=q1 }))):=H2.out
 have Zi:=H0.own.c7
 have z0:=H0.own.fz 7
 have Zj:=H1.own.c8
 have z1:=H1.own.fz 8
 have HW0:Hid ((w.alloc (.cells (aF c) 23)).alloc (.cells #[.int .i64 0,.int .i64 0,.int .i64 0,.int .i64 0,.int .i64 0,.int .i64 0,.int .i64 0,.int .i64 0,.int .i64 0,.int .i64 0] 23)=W0):=hW0.symm
 have HW1:Hid (W0.setCell ⟨w.heap.size,7,none⟩ (.int .i64 q0)=W1):=hW1.symm
 have HW2:Hid (W1.setCell ⟨w.heap.size,8,none⟩ (.int .i64 q1)=W2):=hW2.symm
 clear a1 a2 a3 eb H0 hW0 H1 hW1 H2 hW2 Bn Fs
 go_enter Tryz.func66,Tryz.ntmps66
 go_upto_region 1 with fail
 rw[HW0.out]
 clear HW0
 go_wp2_with fail
 refine k0.mono ?_
 rintro e w1 ⟨rfl,rfl⟩
 clear k0
 go_upto_region 2 with fail
 rw[HW1.out]
 clear HW1 z0 Zi
 go_wp2_with fail
 refine k1.mono ?_
 rintro e w1 ⟨rfl,rfl⟩
 clear k1
 go_upto_region 3 with fail
 rw[HW2.out]
 clear HW2 z1 Zj
 go_wp2_with (first|(refine aA rfl 23 _ rfl _ _ rfl HL.out ?_)|(refine ah rfl 23 _ _ rfl _ _ rfl rfl HS.out ?_)|fail)
 refine bodyPost_ret (xI rfl rfl HE.out.1) rfl ?_
 exact⟨rfl,HE.out.2⟩
end Go.Proofs.YtmffplhaclnehaaGreatDoor
