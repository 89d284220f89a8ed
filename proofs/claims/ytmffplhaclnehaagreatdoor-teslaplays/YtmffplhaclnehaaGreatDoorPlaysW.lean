/- A helper. -/
import Derived.Deep.SlicePairs
import Derived.Test.YtmffplhaclnehaaGreatDoorTesB
namespace Go.Proofs.YtmffplhaclnehaaGreatDoor
set_option maxRecDepth 20000
open Go.ChangeShapes Go.WideShapes Go.ChangeAt Go.RowKit
variable {a:Option Addr} {cap:Nat}
abbrev PD:=Int×Int×Int
def wf3 (k:PD):Prop:=(Lit.int .i64 k.1).wf=true/\(Lit.int .i64 k.2.1).wf=true/\(Lit.int .i64 k.2.2).wf=true
structure uV (w:World)(a:Option Addr)(cap:Nat)(L:List PD):Prop where
 fits:L.length<=cap
 room:cap<=maxLen
 wf:∀ k∈L,wf3 k
 at':L≠[]->∃ b off,a=some ⟨b,off,none⟩/\∀ (i:Nat) (k:PD),L[i]?=some k->w.cell? ⟨b,off+i*3,none⟩=some (.int .i64 k.1)/\w.cell? ⟨b,off+i*3+1,none⟩=some (.int .i64 k.2.1)/\w.cell? ⟨b,off+i*3+2,none⟩=some (.int .i64 k.2.2)
theorem uV.get {w:World}{L:List PD}(h:uV w a cap L){i:Nat}{k:PD}(hk:L[i]?=some k):
  ∃ b off,a=some ⟨b,off,none⟩/\w.cell? ⟨b,off+i*3,none⟩=some (.int .i64 k.1)/\w.cell? ⟨b,off+i*3+1,none⟩=some (.int .i64 k.2.1)/\w.cell? ⟨b,off+i*3+2,none⟩=some (.int .i64 k.2.2):=by
 obtain⟨b,off,ha,hc⟩:=h.at' (by rintro rfl;simp at hk)
 exact⟨b,off,ha,hc i k hk⟩
theorem uV.len {w:World}{L:List PD}(h:uV w a cap L):L.length<=9223372036854775807:=by
 have:=h.fits;have:=h.room;unfold maxLen at this;omega
theorem Bg {H:Type}{enc:TypeId×Value->H}{W:World}{fuel:Nat}{len:Nat}{d:DataW H}{p:List MemPlace}(hf:DataW.trod enc Tryz.prog W 0 (λ_=>true) true fuel 25 (Value.slice a len cap).cells.toList=some (d,p)):
  ∃ L:List PD,len=L.length/\uV W a cap L:=by
 have ce:Tryz.prog.cellsOf 36=3:=by kernel_rfl
 have c3:Tryz.prog.cellsOf 3=1:=by kernel_rfl
 rcases Go.Deep.open_slice Tryz.underlying25 hf with ⟨hcs,_⟩|⟨x,l,c,m,n,D,Pl,hcs,_,hl,hm,hmm,_,hx⟩
 ·simp[Value.cells] at hcs
  obtain⟨rfl,rfl,rfl⟩:=hcs
  exact⟨[],rfl,⟨by simp,by simp,by simp,λh=>absurd rfl h⟩⟩
 ·simp[Value.cells] at hcs
  obtain⟨rfl,rfl,rfl⟩:=hcs
  have hmc:m=cap:=by simpa using hmm
  subst hmc
  have hv:∀ i,i<m->∃ q:PD,W.cell? (x.add (i*3))=some (.int .i64 q.1)/\W.cell? (x.add (i*3+1))=some (.int .i64 q.2.1)/\W.cell? (x.add (i*3+2))=some (.int .i64 q.2.2)/\wf3 q:=by
   intro i hi
   obtain⟨cs',h1,h2⟩:=hx i hi
   rw[ce] at h1
   obtain⟨_,hlen,hcell⟩:=World.cells?_some h1
   obtain⟨xs,k,h3⟩:=DataW.trod_array Tryz.underlying36 h2
   obtain⟨_,_,_,h4,h5⟩:=h3
   match xs,h4,cs',hlen with
   | [y0, y1, y2], _, [v0, v1, v2], _ =>
     have g0 := h5 0 (by omega)
     have g1 := h5 1 (by omega)
     have g2 := h5 2 (by omega)
     simp [c3] at g0 g1 g2
     obtain ⟨z0, e0, _, w0⟩ := DataW.trod_int Tryz.underlying3 g0
     obtain ⟨z1, e1, _, w1⟩ := DataW.trod_int Tryz.underlying3 g1
     obtain ⟨z2, e2, _, w2⟩ := DataW.trod_int Tryz.underlying3 g2
     simp at e0 e1 e2
     have q0 := hcell 0 (by omega)
     have q1 := hcell 1 (by omega)
     have q2 := hcell 2 (by omega)
     rw [Go.Deep.add_add] at q0 q1 q2
     exact ⟨(z0, z1, z2), by simpa [e0] using q0, by simpa [e1] using q1, by simpa [e2] using q2, w0, w1, w2⟩
  obtain⟨q,hq⟩:=Go.Deep.choose_lt hv
  refine⟨(List.range len).map q,by simp,⟨by simp;exact hl,hm,λk hk=>?_,λhne=>?_⟩⟩
  ·obtain⟨i,hi,rfl⟩:=List.mem_map.1 hk
   rw[List.mem_range] at hi
   exact(hq i (by omega)).2.2.2
  have h0:0<len:=by
   rcases Nat.eq_zero_or_pos len with h|h
   ·subst h;simp at hne
   ·exact h
  obtain⟨b,off,spot⟩:=x
  have hs:=World.cell?_spot (hq 0 (by omega)).1
  have hspot:spot=none:=by simpa [Addr.add] using hs
  subst hspot
  refine⟨b,off,rfl,λi y hy=>?_⟩
  have hi:i<len:=by
   have:=(List.getElem?_eq_some_iff.1 hy).1
   simpa using this
  have e1:y=q i:=by
   simp[List.getElem?_map,List.getElem?_range hi] at hy
   exact hy.symm
  obtain⟨g0,g1,g2,_⟩:=hq i (by omega)
  rw[Addr.add_lit] at g0 g1 g2
  rw[e1]
  exact⟨g0,by rw[Nat.add_assoc];exact g1,by rw[Nat.add_assoc];exact g2⟩
end Go.Proofs.YtmffplhaclnehaaGreatDoor
namespace Go.Proofs.YtmffplhaclnehaaGreatDoor
set_option maxRecDepth 20000
set_option maxHeartbeats 16000000
open Go.ChangeShapes Go.WideShapes Go.ChangeAt Go.RowKit
theorem NQ {s:Rv}(h:s.ok)(e i:Int)(k:List UInt8):(jw s e i k).2.length<=900:=by
 unfold jw
 split
 ·simp
 ·rename_i h0
  obtain⟨_,_,h3,h4,_⟩:=zh (Decidable.not_not.1 h0)
  have h5:=gP h.cfg
  have h6:=λa b c d=>(kG a b c d (i-s.ix).toNat).2.2.2.2.2.2.2
  refine Nat.le_trans (h6 _ _ _ _) ?_
  rcases h.ep with g|⟨_,_,_,_,g,_⟩<;>omega
theorem E8 (c:Cf)(x:Int)(a1:Option Addr)(c1:Nat)(kl:List Int)(a2:Option Addr)(c2:Nat)(cl:List PD)(a3:Option Addr)(c3:Nat)(P:List (List UInt8))(a4:Option Addr)(c4:Nat)(Q:List (List UInt8))(a5:Option Addr)(c5:Nat)(ml:List Int)(w:World)(Q8:vP w/\fJ w/\bN w)(_w0:(Lit.int .i64 x).wf=true)(s1:wY .u8 w a1 c1 kl)(s2:uV w a2 c2 cl)(s3:qK w a3 c3 P)(b3:∀ l∈P,l.length<=140737488351232)(s4:qK w a4 c4 Q)(b4:∀ l∈Q,l.length<=140737488351232)(s5:wY .i64 w a5 c5 ml):
  Calls Tryz.prog 3 #[.agg (aF c),.int .i64 x,.slice a1 kl.length c1,.slice a2 cl.length c2,.slice a3 P.length c3,.slice a4 Q.length c4,.slice a5 ml.length c5] w λe w'=>e=.returned (.bool true)/\Below w.heap.size w w':=by
 have HT:Hid (iw w):=Q8
 have H1:Hid (wY .u8 w a1 c1 kl):=s1
 have H2:Hid (uV w a2 c2 cl):=s2
 have H3:Hid (qK w a3 c3 P/\∀ l∈P,l.length<=140737488351232):=⟨s3,b3⟩
 have H4:Hid (qK w a4 c4 Q/\∀ l∈Q,l.length<=140737488351232):=⟨s4,b4⟩
 have H5:Hid (wY .i64 w a5 c5 ml):=s5
 have l1:=s1.len
 have l2:=s2.len
 have l3:=s3.len
 have l4:=s4.len
 have l5:=s5.len
 clear s1 s2 s3 b3 s4 b4 s5 Q8
 have KA:Hid (∀ W,Below w.heap.size w W->Calls Tryz.prog 10 #[] W λe w'=>e=.returned (.bool true)/\Below w.heap.size w w'):=λW hW=>(JS W (HT.out.below hW)).mono λ_ _ ⟨h1,h2⟩=>⟨h1,hW.trans (h2.mono hW.size)⟩
 have HL:Hid ((Instr.loadAt 23 (.pointer (some ⟨w.heap.size,0,none⟩))).run Tryz.prog (w.alloc (.cells (aF c) 23))=.ok (.agg (aF c)) (w.alloc (.cells (aF c) 23))):=(aS.new w c).loads
 have H0:Hid (Below w.heap.size w (w.alloc (.cells (aF c) 23))):=(Below.refl _ _).alloc (Nat.le_refl _) _
 have C0:Hid (aS (w.alloc (.cells (aF c) 23)) w.heap.size c):=aS.new w c
 by_cases hm:okB c=true/\0<=x/\x<c.n
 rotate_left
 ·have kn:=Q9 (w.alloc (.cells (aF c) 23)) c x hm
  have KR:Hid (∀ W,Calls Tryz.prog 9 #[.agg (aF c),.int .i64 x] W λe w'=>e=.returned (.tuple #[.pointer none,.int .i64 1])/\Below W.heap.size W w'):=λW=>Ra W c x hm
  clear hm H1 H2 H3 H4 H5
  go_enter Tryz.func3,Tryz.ntmps3
  go_upto_region 1 with fail
  generalize hW:w.alloc (Obj.cells (aF c) 23)=W at *
  go_wp2_with (first|(refine af rfl 23 _ rfl _ _ rfl HL.out ?_)|fail)
  refine kn.mono ?_
  rintro e w1 ⟨rfl,hb1⟩
  have qN:Hid ((Instr.loadAt 23 (.pointer (some ⟨w.heap.size,0,none⟩))).run Tryz.prog w1=.ok (.agg (aF c)) w1):=(C0.out.below hb1).loads
  have H1:Hid (Below w.heap.size w w1):=H0.out.trans (hb1.mono H0.out.size)
  have kr:=KR.out w1
  clear kn HL hb1 KR
  go_wp2_with (first|(refine af rfl 23 _ rfl _ _ rfl qN.out ?_)|fail)
  refine kr.mono ?_
  rintro e w2 ⟨rfl,hb2⟩
  have ka:=KA.out w2 (H1.out.trans (hb2.mono H1.out.size))
  clear kr hb2
  go_wp2_with fail
  refine ka.mono ?_
  rintro e wd ⟨rfl,hb⟩
  have HB:Hid (Below w.heap.size w wd):=hb
  clear ka hb
  go_wp2
  go_ret
  exact⟨rfl,HB.out⟩
 have hz:3<=w.heap.size:=HT.out.2.2.two
 have kn:=GX (w.alloc (.cells (aF c) 23)) c x (Nat.le_trans hz H0.out.size) hm.1 hm.2.1 hm.2.2
 have KR:Hid (∀ V W g,Below w.heap.size w V->xw V g c x W->Calls Tryz.prog 9 #[.agg (aF c),.int .i64 x] W λe w'=>∃ r,e=.returned (.tuple #[.pointer (some ⟨r,0,none⟩),.int .i64 0])/\lu V w' g r (newR c x) (newR c x) 0):=λV W g hV hW=>(Rc W c x (Nat.le_trans hz (Nat.le_trans hV.size hW.solo.aM.size)) hm.1 hm.2.1 hm.2.2).mono λ_ _ ⟨r,h1,h2⟩=>⟨r,h1,hW.duo h2⟩
 clear hm hz
 go_enter Tryz.func3,Tryz.ntmps3
 go_upto_region 1 with fail
 generalize hW:w.alloc (Obj.cells (aF c) 23)=W0 at *
 clear hW
 go_wp2_with (first|(refine af rfl 23 _ rfl _ _ rfl HL.out ?_)|fail)
 refine kn.mono ?_
 rintro e wa ⟨g,rfl,ha⟩
 have qN:Hid ((Instr.loadAt 23 (.pointer (some ⟨w.heap.size,0,none⟩))).run Tryz.prog wa=.ok (.agg (aF c)) wa):=(C0.out.below ha.solo.aM).loads
 have kr:=KR.out W0 wa g H0.out ha
 clear kn ha KR HL
 go_wp2_with (first|(refine af rfl 23 _ rfl _ _ rfl qN.out ?_)|fail)
 refine kr.mono ?_
 rintro e wb ⟨r,rfl,hb⟩
 have HS:Hid (lu W0 wb g r (newR c x) (newR c x) 0):=hb
 clear kr hb qN C0
 go_wp2
 go_loopw [19] (λu wr=>∃ (i:Nat) (s:Rv) (n:Nat),i<=60/\n<=16448*i/\s.b.lost<=i/\u=.int .i64 (i:Int)/\lu W0 wr g r s s n) (λu _=>60-(intOf u).toNat)
 case atStart=>exact⟨0,_,0,by omega,by omega,Nat.le_refl _,rfl,HS.out⟩
 case round=>
  obtain⟨i,s,n,hi,hni,vR,rfl,hs⟩:=hrel
  clear HS
  have g0:(0:Int)<=(i:Int):=Int.natCast_nonneg _
  have hlow:Below w.heap.size w wr:=H0.out.trans (hs.aM.mono H0.out.size)
  by_cases hall:i<kl.length/\i<cl.length/\i<P.length/\i<Q.length/\i<ml.length/\i<60
  ·obtain⟨i1,i2,i3,i4,i5,i6⟩:=hall
   obtain⟨y,hy⟩:∃ y,kl[i]?=some y:=⟨kl[i],by simp[i1]⟩
   obtain⟨kb,kof,rfl,cy⟩:=H1.out.get hy
   obtain⟨zz,hz⟩:∃ z,cl[i]?=some z:=⟨cl[i],by simp[i2]⟩
   obtain⟨cb,VA,rfl,cz0,cz1,cz2⟩:=H2.out.get hz
   obtain⟨l,hl⟩:∃ l,P[i]?=some l:=⟨P[i],by simp[i3]⟩
   obtain⟨pb,po,rfl,xa,xc,cp,hsx⟩:=H3.out.1.at' i l hl
   obtain⟨v,hv⟩:∃ l,Q[i]?=some l:=⟨Q[i],by simp[i4]⟩
   obtain⟨qb,qo,rfl,ya,yc,cq,hsy⟩:=H4.out.1.at' i v hv
   obtain⟨z,hzz⟩:∃ z,ml[i]?=some z:=⟨ml[i],by simp[i5]⟩
   obtain⟨mb,mo,rfl,cm⟩:=H5.out.get hzz
   have by1:0<=y/\y<256:=by have:=H1.out.wf y (List.mem_of_getElem? hy);simp[Lit.wf,IntKind.min,IntKind.max,IntKind.signed,IntKind.bits] at this;omega
   obtain⟨k1,k2,k3⟩:=zz
   dsimp only at cz0 cz1 cz2
   obtain⟨W,hW⟩:=ai (wr.alloc (.cells #[.int .i64 k1,.int .i64 k2,.int .i64 k3] 36))
   have hbW:Below wr.heap.size wr W:=by rw[hW];exact(Below.refl _ _).alloc (Nat.le_refl _) _
   have hxb:iO W wr.heap.size (k1,k2,k3):=by rw[hW];exact heap_alloc_new _ _
   obtain⟨B,hB⟩:=ai wr.heap.size
   rw[<-hB] at hxb
   have hD:bZ W0 W g r s s n B (k1,k2,k3):=hs.with hbW (by omega) hxb
   have SX:Below w.heap.size w W:=H0.out.trans (hD.aM.mono H0.out.size)
   have q0:wr.cell? ⟨cb,VA+i*3,none⟩=some (.int .i64 k1):=by rw[hlow.cell (p:=⟨cb,VA+i*3,none⟩) (World.block_lt_of_cell? w _ cz0)];exact cz0
   have q1:wr.cell? ⟨cb,VA+i*3+1,none⟩=some (.int .i64 k2):=by rw[hlow.cell (p:=⟨cb,VA+i*3+1,none⟩) (World.block_lt_of_cell? w _ cz1)];exact cz1
   have q2:wr.cell? ⟨cb,VA+i*3+2,none⟩=some (.int .i64 k3):=by rw[hlow.cell (p:=⟨cb,VA+i*3+2,none⟩) (World.block_lt_of_cell? w _ cz2)];exact cz2
   have cyw:(wr.alloc (.cells #[.int .i64 k1,.int .i64 k2,.int .i64 k3] 36)).cell? ⟨kb,kof+i,none⟩=some (.int .u8 y):=by rw[<-hW,SX.cell (p:=⟨kb,kof+i,none⟩) (World.block_lt_of_cell? w _ cy)];exact cy
   obtain⟨xl,hxl⟩:=ai l.length
   obtain⟨yl,hyl⟩:=ai v.length
   have PE:Hid (∀ V,Below W0.heap.size W0 V->iO V B (k1,k2,k3)->(V.cell? ⟨B,0,none⟩=some (.int .i64 k1)/\V.cell? ⟨B,1,none⟩=some (.int .i64 k2)/\V.cell? ⟨B,2,none⟩=some (.int .i64 k3)/\V.cell? ⟨pb,po+i,none⟩=some (.slice xa xl xc))):=λV hb hx=>⟨hx.c0,hx.c1,hx.c2,by rw[(H0.out.trans (hb.mono H0.out.size)).cell (p:=⟨pb,po+i,none⟩) (World.block_lt_of_cell? w _ cp),hxl];exact cp⟩
   have Re:Hid (∀ V,Below W0.heap.size W0 V->(V.cell? ⟨qb,qo+i,none⟩=some (.slice ya yl yc)/\V.cell? ⟨mb,mo+i,none⟩=some (.int .i64 z))):=λV hb=>⟨by rw[(H0.out.trans (hb.mono H0.out.size)).cell (p:=⟨qb,qo+i,none⟩) (World.block_lt_of_cell? w _ cq),hyl];exact cq,by rw[(H0.out.trans (hb.mono H0.out.size)).cell (p:=⟨mb,mo+i,none⟩) (World.block_lt_of_cell? w _ cm)];exact cm⟩
   have t1:decide ((i:Int)<(kl.length:Int))=true:=by simp;omega
   have t2:decide ((i:Int)<(cl.length:Int))=true:=by simp;omega
   have t3:decide ((i:Int)<(P.length:Int))=true:=by simp;omega
   have t4:decide ((i:Int)<(Q.length:Int))=true:=by simp;omega
   have t5:decide ((i:Int)<(ml.length:Int))=true:=by simp;omega
   have t6:decide ((i:Int)<60)=true:=by simp;omega
   have j1:(i:Int)<(kl.length:Int):=by omega
   have j2:(i:Int)<(cl.length:Int):=by omega
   have j3:(i:Int)<(P.length:Int):=by omega
   have j4:(i:Int)<(Q.length:Int):=by omega
   have j5:(i:Int)<(ml.length:Int):=by omega
   have hcase:y%4=0\/y%4=1\/y%4=2\/y%4=3:=by omega
   have M1:Hid (y.tmod 4=y%4):=Int.tmod_eq_emod_of_nonneg by1.1
   have e4:IntKind.i64.wrap ((i:Int)+1)=((i+1:Nat):Int):=by rw[IntKind.wrap_i64];omega
   have HW:Hid (W=wr.alloc (.cells #[.int .i64 k1,.int .i64 k2,.int .i64 k3] 36)):=hW
   have Br:Hid (B=wr.heap.size):=hB
   have HD:Hid (bZ W0 W.drew g r s s n B (k1,k2,k3)):=hD.below (Below.refl _ _).drew
   have HX:Hid (ag W0 xa xc l/\xl=l.length/\l.length<=140737488351232):=⟨hsx.below H0.out,hxl,H3.out.2 l (List.mem_of_getElem? hl)⟩
   have HY:Hid (ag W0 ya yc v/\yl=v.length/\v.length<=140737488351232):=⟨hsy.below H0.out,hyl,H4.out.2 v (List.mem_of_getElem? hv)⟩
   have HT0:Hid (iw W0):=HT.out.below H0.out
   have HI:Hid (i<60):=i6
   clear hy cy hz cz0 cz1 cz2 hl cp hsx hv cq hsy hzz cm by1 hlow SX hW hbW hxb hB hs hD hxl hyl H1 H2 H3 H4 H5 HT KA
   rcases hcase with m2|m2|m2|m2
   ·have m1:=M1.out
    rw[m2] at m1
    have m3:IntKind.u8.wrap (y%4)=y%4:=by rw[IntKind.wrap_u8];omega
    rw[m2] at m3
    obtain⟨v3,hv3⟩:=ai (eO s k1 k2 k3 l)
    obtain⟨E,hE⟩:=ai (fO s k1 k2 k3 l)
    have ka:=HD.out.anchor HT0.out (by omega) k1 k2 k3 xa xc l (HX.out.1.below HD.out.aM) (by have:=HX.out.2.2;omega)
    have KB:Hid (∀ W,bZ W0 W g r v3 s (n+64) B (k1,k2,k3)->Calls Tryz.prog 12 #[.pointer (some ⟨r,0,none⟩),.int .i64 k1,.int .i64 k2,.int .i64 k3,.slice xa xl xc] W λe w'=>e=.returned (.int .i64 E)/\bZ W0 w' g r v3 v3 (n+64) B (k1,k2,k3)):=λW hW=>by
     have:=hW.Rf k1 k2 k3 xa xc l (HX.out.1.below hW.aM) HX.out.2.2
     rw[<-hv3,<-hE,<-HX.out.2.1] at this
     exact this
    rw[<-hv3,<-hE,<-HX.out.2.1] at ka
    have XE:Hid (v3.b.lost<=i+1):=by
     have:=JU s k1 k2 k3 l
     rw[<-hv3] at this
     exact(show v3.b.lost<=i+1 by omega)
    have zV:=PE.out W.drew HD.out.aM HD.out.box
    clear hv3 hE M1 HD
    go_upto_region 17 with fail
    rw[<-HW.out,<-Br.out]
    clear HW Br q0 q1 q2 cyw
    refine wp_region_noPanic ?_
    refine wp_region_held (S:=λV=>V.cell? ⟨B,0,none⟩=some (.int .i64 k1)/\V.cell? ⟨B,1,none⟩=some (.int .i64 k2)/\V.cell? ⟨B,2,none⟩=some (.int .i64 k3)/\V.cell? ⟨pb,po+i,none⟩=some (.slice xa xl xc)) (by kernel_rfl) ?_
    have hS:=zV
    refine tk 0 hS ?_
    refine tk 1 hS ?_
    refine tk 2 hS ?_
    refine tk 3 hS ?_
    refine tk 4 hS ?_
    refine tk 5 hS ?_
    refine tk 6 hS ?_
    refine tk 7 hS ?_
    refine tk 8 hS ?_
    refine tk 9 hS ?_
    refine tk 10 hS ?_
    refine tk 12 hS ?_
    refine tk 13 hS ?_
    refine tk 14 hS ?_
    refine tk 15 hS ?_
    refine tk 16 hS ?_
    refine tk 17 hS ?_
    refine tk 18 hS ?_
    refine tk 19 hS ?_
    refine tk 20 hS ?_
    refine tk 21 hS ?_
    refine tk 22 hS ?_
    refine aI 11 rfl (by kernel_rfl) (by rfl) (λK hK=>?_)
    clear hS
    go_simp
    refine ka.mono ?_
    rintro e wb ⟨rfl,hb⟩
    have kb:=KB.out wb hb
    refine hK.out _ _ (PE.out wb hb.aM hb.box) (λhS=>?_)
    clear hK
    (try simp only[Act.put,sT])
    refine aI 23 rfl (by kernel_rfl) (by rfl) (λK hK=>?_)
    clear hS
    go_simp
    refine kb.mono ?_
    rintro e wd ⟨rfl,hd⟩
    refine hK.out _ _ (PE.out wd hd.aM hd.box) (λhS=>?_)
    clear hK
    (try simp only[Act.put,sT])
    refine tk 24 hS ?_
    refine wpAnyH_done (by kernel_rfl) (NoPanic.normal ?_) _
    clear hS ka kb KB zV hb
    have NR:Hid (lu W0 wd g r v3 v3 (n+64)):=hd.base
    clear hd
    obtain⟨SY,S9,Ta,Tc,XF,XG,XH,rr,kt8,ta,tc,XI⟩:=NR.out.told
    have Td:Hid (∀ j,Calls Tryz.prog 18 #[.pointer (some ⟨g,0,none⟩)] (wd.drewN j) λe w'=>e=.returned (.int .i64 v3.ep)/\w'=wd.drewN j):=SY
    have Te:Hid (∀ j,Calls Tryz.prog 19 #[.pointer (some ⟨g,0,none⟩)] (wd.drewN j) λe w'=>e=.returned (.int .i64 v3.ix)/\w'=wd.drewN j):=S9
    have Tf:Hid (∀ j,Calls Tryz.prog 20 #[.pointer (some ⟨g,0,none⟩)] (wd.drewN j) λe w'=>e=.returned (.int .i64 (v3.b.L.length:Int))/\w'=wd.drewN j):=Ta
    have Tg:Hid (∀ j,Calls Tryz.prog 21 #[.pointer (some ⟨g,0,none⟩)] (wd.drewN j) λe w'=>e=.returned (.int .i64 v3.last)/\w'=wd.drewN j):=Tc
    have HE:Hid (∀ j,lu W0 (wd.drewN j) g r v3 v3 (n+64)):=λj=>NR.out.below (below_drewN (Below.refl _ _) j)
    clear NR SY S9 Ta Tc PE Re HX HY
    obtain⟨T1,hT1⟩:∃ T,T=v3.ep:=⟨_,rfl⟩
    obtain⟨T2,vz⟩:∃ T,T=v3.ix:=⟨_,rfl⟩
    obtain⟨T3,pJ⟩:∃ T,T=v3.b.L.length:=⟨_,rfl⟩
    obtain⟨T4,Ti⟩:∃ T,T=v3.last:=⟨_,rfl⟩
    rw[<-hT1] at Td XF
    rw[<-vz] at Te XG
    rw[<-pJ] at Tf XI
    rw[<-Ti] at Tg XH
    clear hT1 vz pJ Ti
    go_upto_region 23 with fail
    go_quiet (first|(go_at_call 18;exact Calls.quiet_of_same (Td.out _))|(go_at_call 19;exact Calls.quiet_of_same (Te.out _))|(go_at_call 20;exact Calls.quiet_of_same (Tf.out _))|(go_at_call 21;exact Calls.quiet_of_same (Tg.out _)))
    go_wp2
    go_roundw
    case rel=>exact⟨i+1,v3,(n+64),by have:=HI.out;omega,by omega,by have:=XE.out;omega,by first|rfl|(congr 1;omega),HE.out _⟩
    case measure=>have:=HI.out;simp[intOf];omega
   rotate_right
   ·have m1:=M1.out
    rw[m2] at m1
    have m3:IntKind.u8.wrap (y%4)=y%4:=by rw[IntKind.wrap_u8];omega
    rw[m2] at m3
    obtain⟨v3,hv3⟩:=ai ((jw s k1 k3 l).1)
    obtain⟨E,hE⟩:=ai (gz s k1 k3 l)
    obtain⟨L3,hL3⟩:=ai ((jw s k1 k3 l).2)
    have ka:=HD.out.tells HT0.out (by omega) k1 k3 xa xc l HX.out.1 HX.out.2.2
    rw[<-hv3,<-hE,<-hL3,<-HX.out.2.1] at ka
    have XE:Hid (v3.b.lost<=i+1):=by
     have:=JV s k1 k3 l
     rw[<-hv3] at this
     exact(show v3.b.lost<=i+1 by omega)
    have HLE:Hid (L3.length<=900):=by rw[hL3];exact NQ HD.out.base.oks.1 k1 k3 l
    have zV:=PE.out W.drew HD.out.aM HD.out.box
    clear hv3 hE hL3 M1 HD
    go_upto_region 12 with fail
    rw[<-HW.out,<-Br.out]
    clear HW Br q0 q1 q2 cyw
    refine wp_region_noPanic ?_
    refine wp_region_held (S:=λV=>V.cell? ⟨B,0,none⟩=some (.int .i64 k1)/\V.cell? ⟨B,1,none⟩=some (.int .i64 k2)/\V.cell? ⟨B,2,none⟩=some (.int .i64 k3)/\V.cell? ⟨pb,po+i,none⟩=some (.slice xa xl xc)) (by kernel_rfl) ?_
    have hS:=zV
    refine tk 0 hS ?_
    refine tk 1 hS ?_
    refine tk 2 hS ?_
    refine tk 3 hS ?_
    refine tk 4 hS ?_
    refine tk 5 hS ?_
    refine tk 6 hS ?_
    refine tk 7 hS ?_
    refine tk 8 hS ?_
    refine aI 9 rfl (by kernel_rfl) (by rfl) (λK hK=>?_)
    clear hS
    go_simp
    refine ka.mono ?_
    rintro e w1 ⟨va,vn,vc,rfl,hb1,hx1,kb0⟩
    have KB:Hid (∀ w1',Below w1.heap.size w1 w1'->Calls Tryz.prog 16 #[.pointer (some ⟨r,0,none⟩),.int .i64 k1,.int .i64 k3,.slice xa xl xc] w1' λev w2=>∃ ua un uc,ev=.returned (.tuple #[.slice ua un uc,.int .i64 E])/\bZ W0 w2 g r v3 v3 (n+16448) B (k1,k2,k3)/\iP w2 (.slice va vn vc) L3/\iP w2 (.slice ua un uc) L3):=kb0
    have SC:Hid (Below W0.heap.size W0 w1/\iO w1 B (k1,k2,k3)):=⟨hb1,hx1⟩
    clear kb0 hb1 hx1
    refine hK.out _ _ (PE.out w1 SC.out.1 SC.out.2) (λhS=>?_)
    clear hK
    (try simp only[Act.put,sT])
    refine tk 10 hS ?_
    refine tk 11 hS ?_
    refine tk 12 hS ?_
    refine tk 13 hS ?_
    refine tk 14 hS ?_
    refine wpAnyH_done (by kernel_rfl) (NoPanic.normal ?_) _
    clear hS ka zV
    have hbd:Below w1.heap.size w1 w1.drew:=(Below.refl _ _).drew
    have kb:=KB.out w1.drew hbd
    have zV:=PE.out w1.drew (SC.out.1.trans (hbd.mono SC.out.1.size)) (SC.out.2.below hbd)
    clear KB SC hbd
    go_upto_region 13 with fail
    refine wp_region_noPanic ?_
    refine wp_region_held (S:=λV=>V.cell? ⟨B,0,none⟩=some (.int .i64 k1)/\V.cell? ⟨B,1,none⟩=some (.int .i64 k2)/\V.cell? ⟨B,2,none⟩=some (.int .i64 k3)/\V.cell? ⟨pb,po+i,none⟩=some (.slice xa xl xc)) (by kernel_rfl) ?_
    have hS:=zV
    refine tk 0 hS ?_
    refine tk 1 hS ?_
    refine tk 2 hS ?_
    refine tk 3 hS ?_
    refine tk 4 hS ?_
    refine tk 5 hS ?_
    refine tk 6 hS ?_
    refine tk 7 hS ?_
    refine tk 8 hS ?_
    refine aI 9 rfl (by kernel_rfl) (by rfl) (λK hK=>?_)
    clear hS
    go_simp
    refine kb.mono ?_
    rintro e w2 ⟨ua,un,uc,rfl,hd,hL1,hL2⟩
    refine hK.out _ _ (PE.out w2 hd.aM hd.box) (λhS=>?_)
    clear hK
    (try simp only[Act.put,sT])
    refine tk 10 hS ?_
    refine tk 11 hS ?_
    refine tk 12 hS ?_
    refine tk 13 hS ?_
    refine tk 14 hS ?_
    refine wpAnyH_done (by kernel_rfl) (NoPanic.normal ?_) _
    clear hS kb zV
    have kc:=JW w2 _ _ _ _ _ _ L3 hL1 hL2 HLE.out
    have HD2:Hid (lu W0 w2 g r v3 v3 (n+16448)):=hd.base
    clear hd hL1 hL2
    go_wp2_with fail
    refine kc.mono ?_
    rintro e wd ⟨rfl,hbd⟩
    have NR:Hid (lu W0 wd g r v3 v3 (n+16448)):=HD2.out.below hbd
    clear kc HD2 hbd
    obtain⟨SY,S9,Ta,Tc,XF,XG,XH,rr,kt8,ta,tc,XI⟩:=NR.out.told
    have Td:Hid (∀ j,Calls Tryz.prog 18 #[.pointer (some ⟨g,0,none⟩)] (wd.drewN j) λe w'=>e=.returned (.int .i64 v3.ep)/\w'=wd.drewN j):=SY
    have Te:Hid (∀ j,Calls Tryz.prog 19 #[.pointer (some ⟨g,0,none⟩)] (wd.drewN j) λe w'=>e=.returned (.int .i64 v3.ix)/\w'=wd.drewN j):=S9
    have Tf:Hid (∀ j,Calls Tryz.prog 20 #[.pointer (some ⟨g,0,none⟩)] (wd.drewN j) λe w'=>e=.returned (.int .i64 (v3.b.L.length:Int))/\w'=wd.drewN j):=Ta
    have Tg:Hid (∀ j,Calls Tryz.prog 21 #[.pointer (some ⟨g,0,none⟩)] (wd.drewN j) λe w'=>e=.returned (.int .i64 v3.last)/\w'=wd.drewN j):=Tc
    have HE:Hid (∀ j,lu W0 (wd.drewN j) g r v3 v3 (n+16448)):=λj=>NR.out.below (below_drewN (Below.refl _ _) j)
    clear NR SY S9 Ta Tc PE Re HX HY
    obtain⟨T1,hT1⟩:∃ T,T=v3.ep:=⟨_,rfl⟩
    obtain⟨T2,vz⟩:∃ T,T=v3.ix:=⟨_,rfl⟩
    obtain⟨T3,pJ⟩:∃ T,T=v3.b.L.length:=⟨_,rfl⟩
    obtain⟨T4,Ti⟩:∃ T,T=v3.last:=⟨_,rfl⟩
    rw[<-hT1] at Td XF
    rw[<-vz] at Te XG
    rw[<-pJ] at Tf XI
    rw[<-Ti] at Tg XH
    clear hT1 vz pJ Ti
    go_upto_region 23 with fail
    go_quiet (first|(go_at_call 18;exact Calls.quiet_of_same (Td.out _))|(go_at_call 19;exact Calls.quiet_of_same (Te.out _))|(go_at_call 20;exact Calls.quiet_of_same (Tf.out _))|(go_at_call 21;exact Calls.quiet_of_same (Tg.out _)))
    go_wp2
    go_roundw
    case rel=>exact⟨i+1,v3,(n+16448),by have:=HI.out;omega,by omega,by have:=XE.out;omega,by first|rfl|(congr 1;omega),HE.out _⟩
    case measure=>have:=HI.out;simp[intOf];omega
   all_goals
    have m1:=M1.out
    rw[m2] at m1
    have m3:IntKind.u8.wrap (y%4)=y%4:=by rw[IntKind.wrap_u8];omega
    rw[m2] at m3
    obtain⟨v3,hv3⟩:=ai (iC s v z)
    obtain⟨E,hE⟩:=ai (jy s v z)
    have ka:=HD.out.offer HT0.out (by omega) (by omega) ya yc v (HY.out.1.below HD.out.aM) HY.out.2.2 z
    have KB:Hid (∀ W,bZ W0 W g r v3 s (n+65) B (k1,k2,k3)->Calls Tryz.prog 14 #[.pointer (some ⟨r,0,none⟩),.slice ya yl yc,.int .i64 z] W λe w'=>e=.returned (.int .i64 E)/\bZ W0 w' g r v3 v3 (n+65) B (k1,k2,k3)):=λW hW=>by
     have:=hW.UO (by omega) ya yc v (HY.out.1.below hW.aM) HY.out.2.2 z
     rw[<-hv3,<-hE,<-HY.out.2.1] at this
     exact this
    rw[<-hv3,<-hE,<-HY.out.2.1] at ka
    have XE:Hid (v3.b.lost<=i+1):=by
     have:=JX s v z
     rw[<-hv3] at this
     exact(show v3.b.lost<=i+1 by omega)
    have zV:=Re.out W.drew HD.out.aM
    clear hv3 hE M1 HD
    go_upto_region 21 with fail
    rw[<-HW.out]
    clear HW Br q0 q1 q2 cyw
    refine wp_region_noPanic ?_
    refine wp_region_held (S:=λV=>V.cell? ⟨qb,qo+i,none⟩=some (.slice ya yl yc)/\V.cell? ⟨mb,mo+i,none⟩=some (.int .i64 z)) (by kernel_rfl) ?_
    have hS:=zV
    refine tk 0 hS ?_
    refine tk 1 hS ?_
    refine tk 2 hS ?_
    refine tk 3 hS ?_
    refine tk 4 hS ?_
    refine tk 5 hS ?_
    refine tk 6 hS ?_
    refine tk 7 hS ?_
    refine tk 8 hS ?_
    refine tk 10 hS ?_
    refine tk 11 hS ?_
    refine tk 12 hS ?_
    refine tk 13 hS ?_
    refine tk 14 hS ?_
    refine tk 15 hS ?_
    refine tk 16 hS ?_
    refine tk 17 hS ?_
    refine tk 18 hS ?_
    refine aI 9 rfl (by kernel_rfl) (by rfl) (λK hK=>?_)
    clear hS
    go_simp
    refine ka.mono ?_
    rintro e wb ⟨rfl,hb⟩
    have kb:=KB.out wb hb
    refine hK.out _ _ (Re.out wb hb.aM) (λhS=>?_)
    clear hK
    (try simp only[Act.put,sT])
    refine aI 19 rfl (by kernel_rfl) (by rfl) (λK hK=>?_)
    clear hS
    go_simp
    refine kb.mono ?_
    rintro e wd ⟨rfl,hd⟩
    refine hK.out _ _ (Re.out wd hd.aM) (λhS=>?_)
    clear hK
    (try simp only[Act.put,sT])
    refine tk 20 hS ?_
    refine wpAnyH_done (by kernel_rfl) (NoPanic.normal ?_) _
    clear hS ka kb KB zV hb
    have NR:Hid (lu W0 wd g r v3 v3 (n+65)):=hd.base
    clear hd
    obtain⟨SY,S9,Ta,Tc,XF,XG,XH,rr,kt8,ta,tc,XI⟩:=NR.out.told
    have Td:Hid (∀ j,Calls Tryz.prog 18 #[.pointer (some ⟨g,0,none⟩)] (wd.drewN j) λe w'=>e=.returned (.int .i64 v3.ep)/\w'=wd.drewN j):=SY
    have Te:Hid (∀ j,Calls Tryz.prog 19 #[.pointer (some ⟨g,0,none⟩)] (wd.drewN j) λe w'=>e=.returned (.int .i64 v3.ix)/\w'=wd.drewN j):=S9
    have Tf:Hid (∀ j,Calls Tryz.prog 20 #[.pointer (some ⟨g,0,none⟩)] (wd.drewN j) λe w'=>e=.returned (.int .i64 (v3.b.L.length:Int))/\w'=wd.drewN j):=Ta
    have Tg:Hid (∀ j,Calls Tryz.prog 21 #[.pointer (some ⟨g,0,none⟩)] (wd.drewN j) λe w'=>e=.returned (.int .i64 v3.last)/\w'=wd.drewN j):=Tc
    have HE:Hid (∀ j,lu W0 (wd.drewN j) g r v3 v3 (n+65)):=λj=>NR.out.below (below_drewN (Below.refl _ _) j)
    clear NR SY S9 Ta Tc PE Re HX HY
    obtain⟨T1,hT1⟩:∃ T,T=v3.ep:=⟨_,rfl⟩
    obtain⟨T2,vz⟩:∃ T,T=v3.ix:=⟨_,rfl⟩
    obtain⟨T3,pJ⟩:∃ T,T=v3.b.L.length:=⟨_,rfl⟩
    obtain⟨T4,Ti⟩:∃ T,T=v3.last:=⟨_,rfl⟩
    rw[<-hT1] at Td XF
    rw[<-vz] at Te XG
    rw[<-pJ] at Tf XI
    rw[<-Ti] at Tg XH
    clear hT1 vz pJ Ti
    go_upto_region 23 with fail
    go_quiet (first|(go_at_call 18;exact Calls.quiet_of_same (Td.out _))|(go_at_call 19;exact Calls.quiet_of_same (Te.out _))|(go_at_call 20;exact Calls.quiet_of_same (Tf.out _))|(go_at_call 21;exact Calls.quiet_of_same (Tg.out _)))
    go_wp2
    go_roundw
    case rel=>exact⟨i+1,v3,(n+65),by have:=HI.out;omega,by omega,by have:=XE.out;omega,by first|rfl|(congr 1;omega),HE.out _⟩
    case measure=>have:=HI.out;simp[intOf];omega
  ·by_cases b0:¬ (i<kl.length)
   ·have f0:decide ((i:Int)<(kl.length:Int))=false:=by simp;omega
    have ka:=KA.out wr hlow
    clear hall hs H1 H2 H3 H4 H5 KA
    go_wp2_with fail
    refine ka.mono ?_
    rintro e wc ⟨rfl,hc⟩
    have HC:Hid (Below w.heap.size w wc):=hc
    clear hc ka
    go_wp2
    go_ret
    exact⟨rfl,HC.out⟩
   ·have f0:decide ((i:Int)<(kl.length:Int))=true:=by simp;omega
    by_cases b1:¬ (i<cl.length)
    ·have f1:decide ((i:Int)<(cl.length:Int))=false:=by simp;omega
     have ka:=KA.out wr hlow
     clear hall hs H1 H2 H3 H4 H5 KA
     go_wp2_with fail
     refine ka.mono ?_
     rintro e wc ⟨rfl,hc⟩
     have HC:Hid (Below w.heap.size w wc):=hc
     clear hc ka
     go_wp2
     go_ret
     exact⟨rfl,HC.out⟩
    ·have f1:decide ((i:Int)<(cl.length:Int))=true:=by simp;omega
     by_cases b2:¬ (i<P.length)
     ·have f2:decide ((i:Int)<(P.length:Int))=false:=by simp;omega
      have ka:=KA.out wr hlow
      clear hall hs H1 H2 H3 H4 H5 KA
      go_wp2_with fail
      refine ka.mono ?_
      rintro e wc ⟨rfl,hc⟩
      have HC:Hid (Below w.heap.size w wc):=hc
      clear hc ka
      go_wp2
      go_ret
      exact⟨rfl,HC.out⟩
     ·have f2:decide ((i:Int)<(P.length:Int))=true:=by simp;omega
      by_cases b3:¬ (i<Q.length)
      ·have f3:decide ((i:Int)<(Q.length:Int))=false:=by simp;omega
       have ka:=KA.out wr hlow
       clear hall hs H1 H2 H3 H4 H5 KA
       go_wp2_with fail
       refine ka.mono ?_
       rintro e wc ⟨rfl,hc⟩
       have HC:Hid (Below w.heap.size w wc):=hc
       clear hc ka
       go_wp2
       go_ret
       exact⟨rfl,HC.out⟩
      ·have f3:decide ((i:Int)<(Q.length:Int))=true:=by simp;omega
       by_cases b4:¬ (i<ml.length)
       ·have f4:decide ((i:Int)<(ml.length:Int))=false:=by simp;omega
        have ka:=KA.out wr hlow
        clear hall hs H1 H2 H3 H4 H5 KA
        go_wp2_with fail
        refine ka.mono ?_
        rintro e wc ⟨rfl,hc⟩
        have HC:Hid (Below w.heap.size w wc):=hc
        clear hc ka
        go_wp2
        go_ret
        exact⟨rfl,HC.out⟩
       ·have f4:decide ((i:Int)<(ml.length:Int))=true:=by simp;omega
        have f5:decide ((i:Int)<60)=false:=by simp;omega
        have ka:=KA.out wr hlow
        clear hall hs H1 H2 H3 H4 H5 KA
        go_wp2_with fail
        refine ka.mono ?_
        rintro e wc ⟨rfl,hc⟩
        have HC:Hid (Below w.heap.size w wc):=hc
        clear hc ka
        go_wp2
        go_ret
        exact⟨rfl,HC.out⟩
end Go.Proofs.YtmffplhaclnehaaGreatDoor
