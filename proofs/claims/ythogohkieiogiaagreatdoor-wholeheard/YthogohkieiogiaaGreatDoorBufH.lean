/-
  The contracts of holds and of fullest.
  The contract of fullest.
  A buffer is made; Len, Lost, Count, Take, Drop.
-/
import Derived.Test.YthogohkieiogiaaGreatDoorBufP
namespace Go.Proofs.YthogohkieiogiaaGreatDoor
set_option maxRecDepth 20000
set_option maxHeartbeats 1600000
open Go.ChangeShapes Go.WideShapes Go.ChangeAt Go.RowKit
theorem bsame_ok (W:World)(a b:Option Addr)(ca cb:Nat)(l x:List UInt8)(e i:Int)(B:Nat)(ha:Sees W a ca l)(hx:Sees W b cb x)(hB:W.heap[B]?=some (.cells #[.slice b x.length cb] 22 (0,0))):
  Calls Tryz.prog 158 #[.agg #[.int .i64 e,.int .i64 i,.slice a l.length ca],.pointer (some ⟨B,0,none⟩)] W λe w'=>e=.returned (.bool (l==x))/\Below W.heap.size W w':=by
 obtain⟨V,hV⟩:∃ V,V=W.alloc (.cells #[.int .i64 e,.int .i64 i,.slice a l.length ca] 201):=⟨_,rfl⟩
 have hb:Below W.heap.size W V:=by rw[hV];exact(Below.refl _ _).alloc (Nat.le_refl _) _
 have K:Hid (Calls Tryz.prog 50 #[.slice a l.length ca,.slice b x.length cb] V λe w'=>e=.returned (.bool (l==x))/\w'=V):=bequal_ok V a b ca cb l x (ha.below hb) (hx.below hb)
 have c0:=cell_of_row _ _ 0 _ _ _ ((hb.block B (Array.getElem?_eq_some_iff.1 hB).1).trans hB)
 rw[hV] at c0
 have HV:Hid (V=W.alloc (.cells #[.int .i64 e,.int .i64 i,.slice a l.length ca] 201)):=hV
 have HB:Hid (Below W.heap.size W V):=hb
 clear ha hx hB hV hb
 go_enter Tryz.func158,Tryz.ntmps158
 go_wp2_with fail
 rw[<-HV.out]
 refine K.out.mono ?_
 rintro e w' ⟨rfl,rfl⟩
 go_wp2
 go_ret
 exact⟨rfl,HB.out⟩
def findL (ss:List BSl)(x:List UInt8):Bool:=ss.any λy=>y.1.b==x
theorem found {ss:List BSl}{x:List UInt8}{j:Nat}{y:BSl}(hy:ss[j]?=some y)(h:(y.1.b==x)=true):findL ss x=true:=List.any_eq_true.2 ⟨y,List.mem_of_getElem? hy,h⟩
theorem find_none {ss:List BSl}{x:List UInt8}(h:∀ t y,t<ss.length->ss[t]?=some y->(y.1.b==x)=false):findL ss x=false:=by
 rw[findL,List.any_eq_false]
 intro y hy
 obtain⟨t,ht⟩:=List.mem_iff_getElem?.1 hy
 rw[h t y (List.getElem?_eq_some_iff.1 ht).1 ht]
 simp
theorem bindex_ok (w:World)(v:Value)(ss:List BSl)(h:Row E57 w v ss)(hs:BSeen w ss)(hl:ss.length<=1000)(b:Option Addr)(cb:Nat)(x:List UInt8)(B:Nat)(hx:Sees w b cb x)(hB:w.heap[B]?=some (.cells #[.slice b x.length cb] 22 (0,0))):
  Calls Tryz.prog 183 #[v,.func (.func 158) #[] #[.pointer (some ⟨B,0,none⟩)]] w λe w'=>∃ z:Int,e=.returned (.int .i64 z)/\decide (0<=z)=findL ss x/\Below w.heap.size w w':=by
 obtain⟨a,cap,rfl,hcap,hmax,hnil,haq,_⟩:=h.shape
 have HH:Hid (∀ W,Below w.heap.size w W->Row E57 W (.slice a ss.length cap) ss/\BSeen W ss/\Sees W b cb x/\W.heap[B]?=some (.cells #[.slice b x.length cb] 22 (0,0))):=λW hb=>⟨h.below hb,hs.below hb,hx.below hb,(hb.block B (Array.getElem?_eq_some_iff.1 hB).1).trans hB⟩
 have hcm:cap<=9223372036854775807:=by unfold maxLen at hmax;omega
 obtain⟨N,hN⟩:∃ N,N=ss.length:=⟨_,rfl⟩
 rw[<-hN] at hl hcap HH ⊢
 have HN:Hid (N=ss.length):=hN
 clear h hs hx hB hnil haq hmax hN
 go_enter Tryz.func183,Tryz.ntmps183
 go_wp2
 go_loopw [8] (λs8 wr=>∃ j:Nat,s8=.int .i64 (j:Int)/\j<=N/\(∀ t y,t<j->ss[t]?=some y->(y.1.b==x)=false)/\Below w.heap.size w wr) (λs8 _=>N-(intOf s8).toNat)
 case atStart=>exact⟨0,rfl,Nat.zero_le _,λt y ht=>by omega,Below.refl _ _⟩
 case round=>
  obtain⟨j,rfl,hj,hno,hbel⟩:=hrel
  have HNO:Hid (∀ t y,t<j->ss[t]?=some y->(y.1.b==x)=false):=hno
  clear hno
  by_cases hlt:j<N
  ·obtain⟨y,hy⟩:∃ y,ss[j]?=some y:=⟨ss[j]'(by have:=HN.out;omega),by rw[List.getElem?_eq_getElem]⟩
   obtain⟨h1,h2,h3,h4⟩:=HH.out wr hbel
   obtain⟨-,q,rfl,hcell⟩:=h1.get hy
   have x0:=hcell 0 _ rfl
   have x1:=hcell 1 _ rfl
   have x2:=hcell 2 _ rfl
   rw[show E57.n=3 from rfl] at x0 x1 x2
   rw[Nat.add_zero] at x0
   have K:Hid (Calls Tryz.prog 158 #[.agg #[.int .i64 y.1.e,.int .i64 y.1.i,.slice y.2.1 y.1.b.length y.2.2],.pointer (some ⟨B,0,none⟩)] wr λe w'=>e=.returned (.bool (y.1.b==x))/\Below w.heap.size w w'):=by
    refine(bsame_ok wr y.2.1 b y.2.2 cb y.1.b x y.1.e y.1.i B (h2 y (List.mem_of_getElem? hy)) h3 h4).mono ?_
    rintro e w' ⟨rfl,hb⟩
    exact⟨rfl,hbel.trans (hb.mono hbel.size)⟩
   have g1:(j:Int)<(N:Int):=by omega
   have g2:(0:Int)<=(j:Int):=Int.natCast_nonneg _
   have HJ:Hid (j<N/\ss[j]?=some y):=⟨hlt,hy⟩
   have e1:IntKind.i64.wrap ((j:Int)+1)=((j+1:Nat):Int):=by rw[IntKind.wrap_i64];omega
   clear h1 h2 h3 h4 hcell hy hlt hj hbel
   generalize y.1.e=ye at *
   generalize y.1.i=yi at *
   generalize y.2.1=ya at *
   generalize y.2.2=yc at *
   go_wp2_with fail
   refine K.out.mono ?_
   rintro e w2 ⟨rfl,hb2⟩
   have HB2:Hid (Below w.heap.size w w2):=hb2
   clear K x0 x1 x2 hb2
   cases hq:(y.1.b==x)
   ·go_wp2
    go_roundw
    case rel=>
     refine⟨j+1,by first|rfl|(congr 1;omega),by have:=HJ.out.1;omega,λt z ht hz=>?_,HB2.out⟩
     by_cases e:t=j
     ·subst e
      have:=HJ.out.2
      rw[this] at hz
      cases hz
      exact hq
     ·exact HNO.out t z (by omega) hz
    case measure=>have:=HJ.out.1;simp[intOf];omega
   ·have HF:Hid (decide ((0:Int)<=(j:Int))=findL ss x):=by
     show decide ((0:Int)<=(j:Int))=_
     rw[found HJ.out.2 hq];simp
    clear hq
    go_wp2
    go_ret
    exact⟨_,rfl,HF.out,HB2.out⟩
  ·have HF:Hid (decide ((0:Int)<=(-1:Int))=findL ss x):=by
    show decide ((0:Int)<=(-1:Int))=_
    rw[find_none λt y ht hy=>HNO.out t y (by have:=HN.out;omega) hy];rfl
   have HB2:Hid (Below w.heap.size w wr):=hbel
   clear hbel HH
   go_wp2
   go_ret
   exact⟨_,rfl,HF.out,HB2.out⟩
theorem contains_ok (w:World)(v:Value)(ss:List BSl)(h:Row E57 w v ss)(hs:BSeen w ss)(hl:ss.length<=1000)(b:Option Addr)(cb:Nat)(x:List UInt8)(B:Nat)(hx:Sees w b cb x)(hB:w.heap[B]?=some (.cells #[.slice b x.length cb] 22 (0,0))):
  Calls Tryz.prog 157 #[v,.func (.func 158) #[] #[.pointer (some ⟨B,0,none⟩)]] w λe w'=>e=.returned (.bool (findL ss x))/\Below w.heap.size w w':=by
 have K:=bindex_ok w v ss h hs hl b cb x B hx hB
 clear h hs hx hB
 go_enter Tryz.func157,Tryz.ntmps157
 go_wp2_with fail
 refine K.mono ?_
 rintro e w' ⟨z,rfl,hz,hb⟩
 have HZ:Hid (decide (0<=z)=findL ss x):=hz
 clear hz
 go_wp2
 go_ret
 exact⟨by rw[<-HZ.out];rfl,hb⟩
theorem holds_ok (w:World)(g m:Nat)(v:Value)(s:Bs)(ss:List BSl)(n:Nat)(h:Pb w g m v s ss n)(b:Option Addr)(cb:Nat)(x:List UInt8)(hx:Sees w b cb x):
  Calls Tryz.prog 128 #[.pointer (some ⟨g,0,none⟩),.slice b x.length cb] w λe w'=>e=.returned (.bool (heldB s.L x))/\Below w.heap.size w w':=by
 obtain⟨W,hW⟩:∃ W,W=w.alloc (.cells #[.slice b x.length cb] 22):=⟨_,rfl⟩
 have hb:Below w.heap.size w W:=by rw[hW];exact(Below.refl _ _).alloc (Nat.le_refl _) _
 have r1:W.heap[w.heap.size]?=some (.cells #[.slice b x.length cb] 22 (0,0)):=by rw[hW];exact heap_alloc_new _ _
 have hlen:ss.length<=1000:=by have:=h.ok.len;have:=h.ok.hi;have:=congrArg List.length h.its;simp at this;omega
 have e:findL ss x=heldB s.L x:=by rw[heldB,<-h.its,List.any_map];rfl
 have K:Hid (Calls Tryz.prog 157 #[v,.func (.func 158) #[] #[.pointer (some ⟨w.heap.size,0,none⟩)]] W λe w'=>e=.returned (.bool (heldB s.L x))/\Below w.heap.size w w'):=by
  refine(contains_ok W v ss (h.row.below hb) (h.seen.below hb) hlen b cb x _ (hx.below hb) r1).mono ?_
  rintro e' w' ⟨rfl,hb'⟩
  rw[<-e]
  exact⟨rfl,hb.trans (hb'.mono hb.size)⟩
 have c2:=(h.below hb).at'.c2
 have HW:Hid (W=w.alloc (.cells #[.slice b x.length cb] 22)):=hW
 obtain⟨av,ac,rfl,_⟩:=h.row.shape
 rw[hW] at c2
 have hmf:∀ (fn:Fn) (first cap:Array Value) (w:World),(Instr.makeFunc fn first cap).run Tryz.prog w=.ok (.func fn first cap) w:=λ_ _ _ _=>rfl
 clear h hb hW r1 hx e
 go_enter Tryz.func128,Tryz.ntmps128
 go_wp2_with fail
 rw[<-HW.out]
 refine K.out.mono ?_
 rintro e w' ⟨rfl,hb'⟩
 go_wp2
 go_ret
 exact⟨rfl,hb'⟩
def KBox (w:World)(B:Nat)(k:Key):Prop:=w.heap[B]?=some (.cells #[.int .i64 k.1,.int .i64 k.2] 196 (0,0))
theorem KBox.lt {w:World}{B:Nat}{k:Key}(h:KBox w B k):B<w.heap.size:=(Array.getElem?_eq_some_iff.1 h).1
theorem KBox.c0 {w:World}{B:Nat}{k:Key}(h:KBox w B k):w.cell? ⟨B,0,none⟩=some (.int .i64 k.1):=cell_of_row _ _ 0 _ _ _ h
theorem KBox.c1 {w:World}{B:Nat}{k:Key}(h:KBox w B k):w.cell? ⟨B,1,none⟩=some (.int .i64 k.2):=cell_of_row _ _ 1 _ _ _ h
theorem KBox.fz {w:World}{B:Nat}{k:Key}(h:KBox w B k)(i:Nat):w.frozen? ⟨B,i,none⟩=false:=frozen_of_row _ _ i _ _ h
theorem KBox.put {w:World}{B:Nat}{k:Key}(h:KBox w B k)(e i:Int):KBox ((w.setCell ⟨B,0,none⟩ (.int .i64 e)).setCell ⟨B,1,none⟩ (.int .i64 i)) B (e,i):=by
 unfold KBox
 rw[heap_setCell_same _ _ _ _ _ _ (heap_setCell_same _ _ _ _ _ _ h)];rfl
theorem KBox.below {w w':World}{B:Nat}{k:Key}(h:KBox w B k)(hb:Below w.heap.size w w'):KBox w' B k:=(hb.block B h.lt).trans h
theorem KBox.other {w:World}{B C:Nat}{k:Key}(h:KBox w B k)(hC:B≠C)(u v:Value):KBox ((w.setCell ⟨C,0,none⟩ u).setCell ⟨C,1,none⟩ v) B k:=by
 unfold KBox
 rw[heap_setCell_other _ _ _ _ hC,heap_setCell_other _ _ _ _ hC];exact h
theorem below_two {W w:World}{B g:Nat}(h:Below B W w)(hg:B<=g)(x y:Value):Below B W ((w.setCell ⟨g,0,none⟩ x).setCell ⟨g,1,none⟩ y):=(h.setCell (p:=⟨g,0,none⟩) hg x).setCell (p:=⟨g,1,none⟩) hg y
theorem res_key {fn:Func}{p:Tmp}(h:fn.results=#[.cell p 196]){tmps:Array Value}{w:World}{g:Nat}{k:Key}(hp:tmps.getD p undef=.pointer (some ⟨g,0,none⟩))(hg:KBox w g k):
  (results fn tmps).run Tryz.prog w=.ok (keyV k) w:=results_cell_row h _ _ g 196 _ (0,0) _ hp hg Tryz.underlying196 rfl (by kernel_rfl)
structure Seek (w:World)(s:Bs)(f0:Key)(B:Nat)(j:Nat)(f:Key)(W:World):Prop where
 eq:f=fullF s.L f0 (s.L.take j)
 wf:wfK f
 box:KBox W (B+1) f
 res:KBox W B (0,0)
 bel:Below B w W
theorem fullest_ok (w:World)(g m:Nat)(v:Value)(s:Bs)(ss:List BSl)(n:Nat)(h:Pb w g m v s ss n)(hne:s.L≠[]):
  Calls Tryz.prog 129 #[.pointer (some ⟨g,0,none⟩)] w λe w'=>e=.returned (keyV (full s.L))/\wfK (full s.L)/\Below w.heap.size w w':=by
 obtain⟨a,cap,rfl,hcap,hmax,hnil,haq,_⟩:=h.row.shape
 have hlen:ss.length=s.L.length:=by have:=congrArg List.length h.its;simpa using this
 have hle:s.L.length<=64:=by have:=h.ok.len;have:=h.ok.hi;omega
 obtain⟨x,hx⟩:∃ x,ss[0]?=some x:=⟨ss[0]'(by rw[hlen];exact List.length_pos_iff.2 hne),by rw[List.getElem?_eq_getElem]⟩
 have hx':s.L[0]?=some x.1:=by rw[<-h.its,List.getElem?_map,hx];rfl
 have hfull:full s.L=fullF s.L x.1.k s.L:=by
  cases hL:s.L with
  | nil=>exact absurd hL hne
  | cons y r=>rw[hL] at hx';simp at hx';rw[<-hx'];rfl
 obtain⟨-,q,rfl,hcell⟩:=h.row.get hx
 have x0:=hcell 0 _ rfl
 have x1:=hcell 1 _ rfl
 rw[show E57.n=3 from rfl,Nat.zero_mul] at x0 x1
 have HP:Hid (∀ W,Below w.heap.size w W->Pb W g m (.slice (some ⟨q,0,none⟩) ss.length cap) s ss n):=λW hb=>h.below hb
 have hwf:∀ y∈ss,wfK y.1.k:=λy hy=>wfK_of (h.ok.arg y.1 (by rw[<-h.its];exact List.mem_map.2 ⟨y,hy,rfl⟩))
 have HWF:Hid (∀ y∈ss,wfK y.1.k):=hwf
 have hcm:cap<=9223372036854775807:=by unfold maxLen at hmax;omega
 obtain⟨W,hW⟩:∃ W,W=(w.alloc (.cells #[.int .i64 0,.int .i64 0] 196)).alloc (.cells #[.int .i64 x.1.e,.int .i64 x.1.i] 196):=⟨_,rfl⟩
 have hb:Below w.heap.size w W:=by rw[hW];exact((Below.refl _ _).alloc (Nat.le_refl _) _).alloc (by simp) _
 have k2:KBox W w.heap.size (0,0):=by rw[hW];exact(Below.heap_alloc _ _ _ (by simp)).trans (heap_alloc_new _ _)
 have k3:KBox W (w.heap.size+1) x.1.k:=by
  have:=heap_alloc_new (w.alloc (.cells #[.int .i64 0,.int .i64 0] 196)) (.cells #[.int .i64 x.1.e,.int .i64 x.1.i] 196)
  rw[World.size_alloc] at this
  rw[hW];exact this
 have HS:Hid (Seek w s x.1.k w.heap.size 0 x.1.k W):=⟨rfl,hwf x (List.mem_of_getElem? hx),k3,k2,hb⟩
 have HF:Hid (full s.L=fullF s.L x.1.k s.L):=hfull
 have c2:=(h.below hb).at'.c2
 have c2w:=h.at'.c2
 have c2a:(w.alloc (.cells #[.int .i64 0,.int .i64 0] 196)).cell? ⟨g,2,none⟩=some (.slice (some ⟨q,0,none⟩) ss.length cap):=(h.below ((Below.refl _ _).alloc (Nat.le_refl _) _)).at'.c2
 have x0a:(w.alloc (.cells #[.int .i64 0,.int .i64 0] 196)).cell? ⟨q,0,none⟩=some (.int .i64 x.1.e):=Lib.cell?_alloc_some _ x0
 have x1a:(w.alloc (.cells #[.int .i64 0,.int .i64 0] 196)).cell? ⟨q,1,none⟩=some (.int .i64 x.1.i):=Lib.cell?_alloc_some _ x1
 have HW:Hid (W=(w.alloc (.cells #[.int .i64 0,.int .i64 0] 196)).alloc (.cells #[.int .i64 x.1.e,.int .i64 x.1.i] 196)):=hW
 obtain⟨N,hN⟩:∃ N,N=ss.length:=⟨_,rfl⟩
 have g1:(0:Int)<(N:Int):=by have:=(List.getElem?_eq_some_iff.1 hx).1;omega
 have HN:Hid (N=ss.length/\N=s.L.length/\ss.map Prod.fst=s.L):=⟨hN,by rw[hN,hlen],h.its⟩
 have hN64:N<=64:=by omega
 rw[<-hN] at hcap HP c2 c2w c2a
 rw[hW] at c2
 clear h hnil haq hmax hN hlen hle hx' hfull hwf hb k2 k3 hW x0 x1 hcell hx c2w
 obtain⟨f0,hf0⟩:∃ f0,f0=x.1.k:=⟨_,rfl⟩
 rw[<-hf0] at HS HF
 clear hf0
 generalize x.1.e=xe at *
 generalize x.1.i=xi at *
 go_enter Tryz.func129,Tryz.ntmps129
 go_wp2_with fail
 rw[<-HW.out]
 clear HW c2 c2a x0a x1a
 obtain⟨B,hB⟩:∃ B,B=w.heap.size:=⟨_,rfl⟩
 rw[<-hB] at HS HP ⊢
 have HB:Hid (B=w.heap.size):=hB
 clear hB
 go_loopw [18] (λs18 wr=>∃ (j:Nat) (f:Key),s18=.int .i64 (j:Int)/\j<=N/\Seek w s f0 B j f wr) (λs18 _=>N-(intOf s18).toNat)
 case atStart=>exact⟨0,f0,rfl,Nat.zero_le _,HS.out⟩
 case round=>
  obtain⟨j,f,rfl,hj,hS⟩:=hrel
  clear HS
  by_cases hlt:j<N
  ·obtain⟨y,hy⟩:∃ y,ss[j]?=some y:=⟨ss[j]'(by have:=HN.out.1;omega),by rw[List.getElem?_eq_getElem]⟩
   have hy':s.L[j]?=some y.1:=by rw[<-HN.out.2.2,List.getElem?_map,hy];rfl
   have hP:=HP.out wr hS.bel
   obtain⟨-,q',e,hcell⟩:=hP.row.get hy
   cases e
   have x0:=hcell 0 _ rfl
   have x1:=hcell 1 _ rfl
   have x2:=hcell 2 _ rfl
   rw[show E57.n=3 from rfl] at x0 x1 x2
   rw[Nat.add_zero] at x0
   obtain⟨V,hV⟩:∃ V,V=wr.alloc (.cells #[.int .i64 y.1.e,.int .i64 y.1.i,.slice y.2.1 y.1.b.length y.2.2] 201):=⟨_,rfl⟩
   have hbV:Below wr.heap.size wr V:=by rw[hV];exact(Below.refl _ _).alloc (Nat.le_refl _) _
   have r1:V.heap[wr.heap.size]?=some (.cells #[.int .i64 y.1.e,.int .i64 y.1.i,.slice y.2.1 y.1.b.length y.2.2] 201 (0,0)):=by rw[hV];exact heap_alloc_new _ _
   have hPV:=(hP.below hbV)
   have c3:=hPV.at'.c3
   have kb:=hS.box.below hbV
   have kr:=hS.res.below hbV
   have b0:=cell_of_row _ _ 0 _ _ _ r1
   have b1:=cell_of_row _ _ 1 _ _ _ r1
   have hwy:=HWF.out y (List.mem_of_getElem? hy)
   have l1:=hPV.drew.map.look hwy
   have l2:=hPV.drew.map.look hS.wf
   have f0':=kb.c0
   have f1':=kb.c1
   have z0:=kb.fz 0
   have z1:=kb.fz 1
   have hbw:Below B w V.drew:=(hS.bel.trans (hbV.mono (by rw[HB.out];exact hS.bel.size))).drew
   obtain⟨A,hA⟩:∃ A,A=wr.heap.size:=⟨_,rfl⟩
   have hsnoc:s.L.take (j+1)=s.L.take j++[y.1]:=take_snoc _ _ _ hy'
   have hstep:fullF s.L f0 (s.L.take (j+1))=if cnt s.L f<cnt s.L y.1.k then y.1.k else f:=by rw[hsnoc,fullF_snoc,<-hS.eq]
   have HN2:Hid (¬ cnt s.L f<cnt s.L y.1.k->Seek w s f0 B (j+1) f V.drew):=λhc=>⟨by rw[hstep,if_neg hc],hS.wf,kb,kr,hbw⟩
   have HN1:Hid (cnt s.L f<cnt s.L y.1.k->Seek w s f0 B (j+1) y.1.k ((V.drew.setCell ⟨B+1,0,none⟩ (.int .i64 y.1.e)).setCell ⟨B+1,1,none⟩ (.int .i64 y.1.i))):=λhc=>by
    have k1:KBox ((V.drew.setCell ⟨B+1,0,none⟩ (.int .i64 y.1.e)).setCell ⟨B+1,1,none⟩ (.int .i64 y.1.i)) (B+1) y.1.k:=KBox.put (w:=V.drew) kb _ _
    have k2:KBox ((V.drew.setCell ⟨B+1,0,none⟩ (.int .i64 y.1.e)).setCell ⟨B+1,1,none⟩ (.int .i64 y.1.i)) B (0,0):=KBox.other (w:=V.drew) kr (by omega) _ _
    exact⟨by rw[hstep,if_pos hc],hwy,k1,k2,below_two hbw (by omega) _ _⟩
   have HV:Hid (V=wr.alloc (.cells #[.int .i64 y.1.e,.int .i64 y.1.i,.slice y.2.1 y.1.b.length y.2.2] 201)):=hV
   have HA:Hid (A=wr.heap.size):=hA
   have HJ:Hid (j<N):=hlt
   have g2:(j:Int)<(N:Int):=by omega
   have g3:(0:Int)<=(j:Int):=Int.natCast_nonneg _
   have e1:IntKind.i64.wrap ((j:Int)+1)=((j+1:Nat):Int):=by rw[IntKind.wrap_i64];omega
   rw[<-hA] at b0 b1
   clear hS hP hPV hbV r1 kb kr hV hy hy' hcell hbw hstep hsnoc hwy hA hlt hj
   simp only[keyV,It.k] at l1 l2
   obtain⟨c,hc⟩:∃ c,c=cnt s.L (y.1.e,y.1.i):=⟨_,rfl⟩
   obtain⟨d,hd⟩:∃ d,d=cnt s.L f:=⟨_,rfl⟩
   have hck:cnt s.L y.1.k=c:=hc.symm
   rw[<-hc] at l1
   rw[<-hd] at l2 HN1 HN2
   rw[hck] at HN1 HN2
   clear hc hd hck
   generalize y.2.1=ya at *
   generalize y.2.2=yc at *
   generalize y.1.b.length=yl at *
   obtain⟨ye,hye⟩:∃ ye,ye=y.1.e:=⟨_,rfl⟩
   obtain⟨yi,hyi⟩:∃ yi,yi=y.1.i:=⟨_,rfl⟩
   rw[<-hye] at x0 b0 l1 HN1 HV
   rw[<-hyi] at x1 b1 l1 HN1 HV
   clear hye hyi
   go_wp2_with fail
   rw[<-HV.out,<-HA.out]
   clear HV x0 x1 x2
   by_cases hcd:d<c
   ·have g4:(d:Int)<(c:Int):=by omega
    go_region
    go_wp2
    go_roundw
    case rel=>exact⟨j+1,y.1.k,by first|rfl|(congr 1;omega),by have:=HJ.out;omega,HN1.out hcd⟩
    case measure=>have:=HJ.out;simp[intOf];omega
   ·have g4:¬ (d:Int)<(c:Int):=by omega
    go_region
    go_wp2
    go_roundw
    case rel=>exact⟨j+1,f,by first|rfl|(congr 1;omega),by have:=HJ.out;omega,HN2.out hcd⟩
    case measure=>have:=HJ.out;simp[intOf];omega
  ·have hjN:j=N:=by omega
   have hf:f=full s.L:=by rw[HF.out,hS.eq,List.take_of_length_le (by have:=HN.out.2.1;omega)]
   have HR:Hid (KBox ((wr.setCell ⟨B,0,none⟩ (.int .i64 f.1)).setCell ⟨B,1,none⟩ (.int .i64 f.2)) B (full s.L)):=by rw[<-hf];exact hS.res.put _ _
   have HE:Hid (wfK (full s.L)/\Below w.heap.size w ((wr.setCell ⟨B,0,none⟩ (.int .i64 f.1)).setCell ⟨B,1,none⟩ (.int .i64 f.2))):=⟨by rw[<-hf];exact hS.wf,by rw[<-HB.out];exact below_two hS.bel (Nat.le_refl _) _ _⟩
   have f0':=hS.box.c0
   have f1':=hS.box.c1
   have r0:=hS.res.c0
   have r1:=hS.res.c1
   have z0:=hS.res.fz 0
   have z1:=hS.res.fz 1
   clear hS hf hj
   generalize f.1=fa at *
   generalize f.2=fb at *
   go_wp2
   refine bodyPost_ret (res_key rfl rfl (show _ from HR.out)) rfl ?_
   exact⟨rfl,HE.out⟩
def Born (w:World)(g:Nat)(s:Bs)(w':World):Prop:=∃ m v ss,Pb w' g m v s ss 0/\Below w.heap.size w w'/\∀ k,Own g m v k->w.heap.size<=k
theorem new_ok (w:World)(x:Nat)(h1:1<=x)(h2:x<=64):Calls Tryz.prog 24 #[.int .i64 (x:Int)] w λe w'=>∃ g,e=.returned (.tuple #[.pointer (some ⟨g,0,none⟩),.int .i64 0])/\Born w g ⟨x,0,[]⟩ w':=by
 have g1:¬ ((x:Int)<1):=by omega
 have g2:¬ (64<(x:Int)):=by omega
 obtain⟨W,hW⟩:∃ W,W=(w.alloc (.map #[] 0)).alloc (.cells #[.int .i64 (x:Int),.int .i64 0,.slice none 0 0,.map (some w.heap.size)] 122):=⟨_,rfl⟩
 have hb:Below w.heap.size w W:=by rw[hW];exact((Below.refl _ _).alloc (Nat.le_refl _) _).alloc (by simp) _
 have r1:PA W (w.heap.size+1) x 0 (.slice none 0 0) w.heap.size:=by
  have:=heap_alloc_new (w.alloc (.map #[] 0)) (.cells #[.int .i64 (x:Int),.int .i64 0,.slice none 0 0,.map (some w.heap.size)] 122)
  rw[World.size_alloc] at this
  rw[hW];exact this
 have r2:MapAt W w.heap.size 0 (cnt []):=by
  rw[hW]
  exact((MapAt.new w).keep (Below.heap_alloc _ _ _ (by simp))).congr λk=>rfl
 have HE:Hid (Born w (w.heap.size+1) ⟨x,0,[]⟩ W):=by
  refine⟨w.heap.size,.slice none 0 0,[],⟨r1,r2,Row.nil _ _,rfl,(λy hy=>by cases hy),⟨h1,h2,by simp,λy hy=>by cases hy⟩⟩,hb,λk hk=>?_⟩
  rcases hk with rfl|rfl|hk
  ·omega
  ·omega
  ·cases hk
 have HW:Hid (W=(w.alloc (.map #[] 0)).alloc (.cells #[.int .i64 (x:Int),.int .i64 0,.slice none 0 0,.map (some w.heap.size)] 122)):=hW
 have hmm:=@run_makeMap Tryz.prog
 clear hb r1 r2 hW h1 h2
 go_enter Tryz.func24,Tryz.ntmps24
 go_wp2
 rw[<-HW.out]
 go_ret2
 exact⟨_,rfl,HE.out⟩
def PLeft (w:World)(g m:Nat)(v:Value)(s:Bs)(n:Nat)(w':World):Prop:=∃ v' ss',Pb w' g m v' s ss' n/\Apart (Own g m v) w w'/\∀ k,v'.ownBlock=some k->v.ownBlock=some k\/w.heap.size<=k
def BTold (w:World)(B:Nat)(vo:Value)(L:List (List UInt8)):Prop:=∃ os,Row E22 w vo os/\SeenB w os/\os.map Prod.fst=L/\∀ k,vo.ownBlock=some k->B<=k
theorem Taken.left {w:World}{g m:Nat}{v:Value}{s:Bs}{n:Nat}{p:It->Bool}{M:Nat}{vo:Value}{w':World}(h:Taken w g m v s n p M vo w'):PLeft w g m v { s with L:=(split p M s.L).2 } (n+64) w'/\BTold w' w.heap.size vo ((split p M s.L).1.map It.b):=by
 obtain⟨v',ss',os,h1,h2,h3,h4,h5,h6,h7⟩:=h
 exact⟨⟨v',ss',h1,h6,λk hk=>.inl (by rw[<-h2];exact hk)⟩,os,h3,h4,h5,h7⟩
theorem call25 (args:Array Value)(W:World):(callFunc 131 args).run Tryz.prog W=.ok (.enter 131 args) W:=by simp[callFunc,Tryz.func131,Tryz.f131]
theorem call28 (args:Array Value)(W:World):(callFunc 144 args).run Tryz.prog W=.ok (.enter 144 args) W:=by simp[callFunc,Tryz.func144,Tryz.f144]
theorem take_ok (w:World)(g m:Nat)(v:Value)(s:Bs)(ss:List BSl)(n:Nat)(h:Pb w g m v s ss n)(hn:n<=90000000)(k:Key)(hk:wfK k):
  Calls Tryz.prog 164 #[.pointer (some ⟨g,0,none⟩),.int .i64 k.1,.int .i64 k.2] w λe w'=>∃ vo,e=.returned vo/\PLeft w g m v (takeV s k) (n+64) w'/\BTold w' w.heap.size vo (btakeL s k):=by
 have hs:=made_ok w g m h.at'.c3
 have c0:=h.at'.c0
 have hm64:=h.ok.hi
 have K:Hid (Calls Tryz.prog 130 #[.pointer (some ⟨g,0,none⟩),.int .i64 (s.most:Int),.func (.func 131) #[.agg #[.int .i64 k.1,.int .i64 k.2]] #[]] w λe w'=>∃ vo,e=.returned vo/\PLeft w g m v (takeV s k) (n+64) w'/\BTold w' w.heap.size vo (btakeL s k)):=by
  refine(takeOut_ok w g m v s ss n h hn s.most (by omega) (isK k) (λj=>decide (j=k)) (λ_=>rfl) 131 (keyV k) call25 (λW j hj=>is_ok W k j hk hj)).mono ?_
  rintro e w' ⟨vo,rfl,hT⟩
  have:=hT.left
  rw[split_all (isK k) s.most s.L h.ok.len] at this
  exact⟨vo,rfl,this⟩
 have hmf:∀ (fn:Fn) (first cap:Array Value) (w:World),(Instr.makeFunc fn first cap).run Tryz.prog w=.ok (.func fn first cap) w:=λ_ _ _ _=>rfl
 clear h hk
 go_enter Tryz.func164,Tryz.ntmps164
 go_wp2_with fail
 refine hs.mono ?_
 rintro e w ⟨rfl,rfl⟩
 go_wp2_with fail
 refine K.out.mono ?_
 rintro e w' ⟨vo,rfl,h1,h2⟩
 have HE:Hid (PLeft w g m v (takeV s k) (n+64) w'/\BTold w' w.heap.size vo (btakeL s k)):=⟨h1,h2⟩
 obtain⟨os,hr,_⟩:=h2
 obtain⟨va,vc,rfl,_⟩:=hr.shape
 clear h1 hr K
 go_wp2
 go_ret
 exact⟨_,rfl,HE.out⟩
theorem drop_ok (w:World)(g m:Nat)(v:Value)(s:Bs)(ss:List BSl)(n:Nat)(h:Pb w g m v s ss n)(hn:n<=90000000)(k:Key):
  Calls Tryz.prog 100 #[.pointer (some ⟨g,0,none⟩),.int .i64 k.1,.int .i64 k.2] w λe w'=>e=.returned (.int .i64 (dropN s k:Int))/\PLeft w g m v (dropV s k) (n+64) w':=by
 have hs:=made_ok w g m h.at'.c3
 have c0:=h.at'.c0
 have hm64:=h.ok.hi
 have K:Hid (Calls Tryz.prog 130 #[.pointer (some ⟨g,0,none⟩),.int .i64 (s.most:Int),.func (.func 144) #[.agg #[.int .i64 k.1,.int .i64 k.2]] #[]] w λe w'=>∃ a c,e=.returned (.slice a (dropN s k) c)/\PLeft w g m v (dropV s k) (n+64) w'):=by
  refine(takeOut_ok w g m v s ss n h hn s.most (by omega) (lowK k) (λj=>decide (j.1<k.1)||(decide (j.1=k.1)&&decide (j.2<=k.2))) (λ_=>rfl) 144 (keyV k) call28 (λW j _=>low_ok W k j)).mono ?_
  rintro e w' ⟨vo,rfl,hT⟩
  have h2:=hT.left
  rw[split_all (lowK k) s.most s.L h.ok.len] at h2
  obtain⟨os,h3,_,h4,_⟩:=h2.2
  obtain⟨va,vc,rfl,_⟩:=h3.shape
  have e:os.length=dropN s k:=by have:=congrArg List.length h4;simpa [dropN] using this
  rw[e]
  exact⟨va,vc,rfl,h2.1⟩
 have hmf:∀ (fn:Fn) (first cap:Array Value) (w:World),(Instr.makeFunc fn first cap).run Tryz.prog w=.ok (.func fn first cap) w:=λ_ _ _ _=>rfl
 clear h
 go_enter Tryz.func100,Tryz.ntmps100
 go_wp2_with fail
 refine hs.mono ?_
 rintro e w ⟨rfl,rfl⟩
 go_wp2_with fail
 refine K.out.mono ?_
 rintro e w' ⟨a,c,rfl,h1⟩
 have HE:Hid (PLeft w g m v (dropV s k) (n+64) w'):=h1
 clear h1 K
 go_wp2
 go_ret
 exact⟨rfl,HE.out⟩
end Go.Proofs.YthogohkieiogiaaGreatDoor
