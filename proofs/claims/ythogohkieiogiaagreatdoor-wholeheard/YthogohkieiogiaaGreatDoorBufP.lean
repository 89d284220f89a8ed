/-
  A buffer of the program in memory.
  The contract of takeOut.
-/
import Derived.Test.YthogohkieiogiaaGreatDoorBufD
import Derived.WalkMore
namespace Go.Proofs.YthogohkieiogiaaGreatDoor
set_option maxRecDepth 20000
set_option maxHeartbeats 80000000
open Go.ChangeShapes Go.WideShapes Go.ChangeAt Go.RowKit
def PA (w:World)(g most lost:Nat)(v:Value)(m:Nat):Prop:=w.heap[g]?=some (.cells #[.int .i64 (most:Int),.int .i64 (lost:Int),v,.map (some m)] 122 (0,0))
theorem PA.lt {w:World}{g most lost:Nat}{v:Value}{m:Nat}(h:PA w g most lost v m):g<w.heap.size:=(Array.getElem?_eq_some_iff.1 h).1
theorem PA.keep {w w':World}{g most lost:Nat}{v:Value}{m:Nat}(h:PA w g most lost v m)(hb:w'.heap[g]?=w.heap[g]?):PA w' g most lost v m:=hb.trans h
theorem PA.c0 {w:World}{g most lost:Nat}{v:Value}{m:Nat}(h:PA w g most lost v m):w.cell? ⟨g,0,none⟩=some (.int .i64 (most:Int)):=cell_of_row w _ 0 _ _ _ h
theorem PA.c1 {w:World}{g most lost:Nat}{v:Value}{m:Nat}(h:PA w g most lost v m):w.cell? ⟨g,1,none⟩=some (.int .i64 (lost:Int)):=cell_of_row w _ 1 _ _ _ h
theorem PA.c2 {w:World}{g most lost:Nat}{v:Value}{m:Nat}(h:PA w g most lost v m):w.cell? ⟨g,2,none⟩=some v:=cell_of_row w _ 2 _ _ _ h
theorem PA.c3 {w:World}{g most lost:Nat}{v:Value}{m:Nat}(h:PA w g most lost v m):w.cell? ⟨g,3,none⟩=some (.map (some m)):=cell_of_row w _ 3 _ _ _ h
theorem PA.fz {w:World}{g most lost:Nat}{v:Value}{m:Nat}(h:PA w g most lost v m)(i:Nat):w.frozen? ⟨g,i,none⟩=false:=frozen_of_row _ _ i _ _ h
theorem PA.put1 {w:World}{g most lost:Nat}{v:Value}{m:Nat}(h:PA w g most lost v m)(x:Nat):PA (w.setCell ⟨g,1,none⟩ (.int .i64 (x:Int))) g most x v m:=by
 show (w.setCell ⟨g,1,none⟩ _).heap[g]?=_
 rw[heap_setCell_same _ _ _ _ _ _ h];rfl
theorem PA.put2 {w:World}{g most lost:Nat}{v:Value}{m:Nat}(h:PA w g most lost v m)(x:Value):PA (w.setCell ⟨g,2,none⟩ x) g most lost x m:=by
 show (w.setCell ⟨g,2,none⟩ _).heap[g]?=_
 rw[heap_setCell_same _ _ _ _ _ _ h];rfl
theorem PA.plain {w:World}{g most lost:Nat}{v:Value}{m:Nat}(h:PA w g most lost v m)(hv:∀ k y,v=Value.int k y->(k==IntKind.u8)=false):Plain w g:=by
 refine NoByte.plain (cur:=#[.int .i64 (most:Int),.int .i64 (lost:Int),v,.map (some m)]) (λu hu k y=>?_) h
 simp only[List.mem_cons,List.not_mem_nil,or_false] at hu
 rcases hu with rfl|rfl|rfl|rfl
 ·intro e;cases e;rfl
 ·intro e;cases e;rfl
 ·exact hv k y
 ·intro e;cases e
def Own (g m:Nat)(v:Value):Nat->Prop:=λk=>k=g\/k=m\/v.ownBlock=some k
def BSeen (w:World)(ss:List BSl):Prop:=∀ x∈ss,Sees w x.2.1 x.2.2 x.1.b
structure Pb (w:World)(g m:Nat)(v:Value)(s:Bs)(ss:List BSl)(n:Nat):Prop where
 at':PA w g s.most s.lost v m
 map:MapAt w m n (cnt s.L)
 row:Row E57 w v ss
 its:ss.map Prod.fst=s.L
 seen:BSeen w ss
 ok:s.ok
theorem Row.notint {α:Type}{E:Enc α}{w:World}{v:Value}{xs:List α}(h:Row E w v xs):∀ k y,v=Value.int k y->(k==IntKind.u8)=false:=by
 obtain⟨a,cap,rfl,_⟩:=h.shape
 intro k y e;cases e
theorem own_gm {w:World}{g most lost m n:Nat}{v:Value}{f:Key->Nat}(h:PA w g most lost v m)(h2:MapAt w m n f):g≠m:=by
 rintro rfl
 obtain⟨es,clock,h1⟩:=h2.isMap
 unfold PA at h
 rw[h1] at h;cases h
theorem own_vg {w:World}{g most lost m:Nat}{v u:Value}{ss:List BSl}(h:PA w g most lost u m)(h2:Row E57 w v ss):v.ownBlock≠some g:=by
 intro e
 obtain⟨cur,h1,_⟩:=h2.isRow e
 unfold PA at h
 rw[h1] at h;cases h
theorem own_vm {w:World}{m n:Nat}{v:Value}{ss:List BSl}{f:Key->Nat}(h:MapAt w m n f)(h2:Row E57 w v ss):v.ownBlock≠some m:=by
 intro e
 obtain⟨cur,h1,_⟩:=h2.isRow e
 obtain⟨es,clock,h3⟩:=h.isMap
 rw[h1] at h3;cases h3
theorem Pb.lt {w:World}{g m:Nat}{v:Value}{s:Bs}{ss:List BSl}{n:Nat}(h:Pb w g m v s ss n){k:Nat}(hk:Own g m v k):k<w.heap.size:=by
 rcases hk with rfl|rfl|hk
 ·exact h.at'.lt
 ·exact h.map.lt
 ·exact h.row.lt hk
theorem own_plain {w:World}{g most lost m n:Nat}{v:Value}{ss:List BSl}{f:Key->Nat}(h:PA w g most lost v m)(h2:MapAt w m n f)(h3:Row E57 w v ss){k:Nat}(hk:Own g m v k):Plain w k:=by
 rcases hk with rfl|rfl|hk
 ·exact h.plain h3.notint
 ·exact h2.plain
 ·exact h3.plain hk
theorem Pb.plain {w:World}{g m:Nat}{v:Value}{s:Bs}{ss:List BSl}{n:Nat}(h:Pb w g m v s ss n){k:Nat}(hk:Own g m v k):Plain w k:=own_plain h.at' h.map h.row hk
theorem BSeen.apart {w w':World}{F:Nat->Prop}{ss:List BSl}(h:BSeen w ss)(ha:Apart F w w')(hp:∀ k,F k->Plain w k):BSeen w' ss:=λx hx=>(h x hx).apart ha hp
theorem BSeen.below {w w':World}{ss:List BSl}(h:BSeen w ss)(hb:Below w.heap.size w w'):BSeen w' ss:=λx hx=>(h x hx).below hb
theorem Pb.apart {w w':World}{F:Nat->Prop}{g m:Nat}{v:Value}{s:Bs}{ss:List BSl}{n:Nat}(h:Pb w g m v s ss n)(ha:Apart F w w')(hF:∀ k,F k->¬ Own g m v k)(hp:∀ k,F k->Plain w k):Pb w' g m v s ss n:=
 have hb:∀ k,Own g m v k->w'.heap[k]?=w.heap[k]?:=λk hk=>ha.block k (h.lt hk) (λhf=>hF k hf hk)
 ⟨h.at'.keep (hb g (.inl rfl)),h.map.keep (hb m (.inr (.inl rfl))),h.row.keep λk hk=>hb k (.inr (.inr hk)),h.its,h.seen.apart ha hp,h.ok⟩
theorem Pb.below {w w':World}{g m:Nat}{v:Value}{s:Bs}{ss:List BSl}{n:Nat}(h:Pb w g m v s ss n)(hb:Below w.heap.size w w'):Pb w' g m v s ss n:=
 h.apart (F:=λ_=>False) (Apart.of_below hb) (λ_ h=>h.elim) (λ_ h=>h.elim)
theorem Pb.drew {w:World}{g m:Nat}{v:Value}{s:Bs}{ss:List BSl}{n:Nat}(h:Pb w g m v s ss n):Pb w.drew g m v s ss n:=h.below ((Below.refl _ _).drew)
theorem Pb.mono {w:World}{g m:Nat}{v:Value}{s:Bs}{ss:List BSl}{n n':Nat}(h:Pb w g m v s ss n)(hn:n<=n'):Pb w g m v s ss n':=⟨h.at',h.map.mono hn,h.row,h.its,h.seen,h.ok⟩
theorem wfK_of {x:It}(h:argB x.e x.i x.b=true):wfK x.k:=by
 obtain⟨h1,h2,h3,h4,_⟩:=argB_iff.1 h
 exact⟨inI_wf (x:=x.e) (by omega) (by omega),inI_wf (x:=x.i) (by omega) (by omega)⟩
def blOf (x:BSl):Bl:=(x.1.b,x.2)
def SeenB (w:World)(os:List Bl):Prop:=∀ x∈os,Sees w x.2.1 x.2.2 x.1
theorem own_same (a:Option Addr)(n c n' c':Nat):(Value.slice a n c).ownBlock=(Value.slice a n' c').ownBlock:=by cases a<;>rfl
theorem Own.same {g m:Nat}{a:Option Addr}{n c:Nat}(n' c':Nat){k:Nat}(h:Own g m (.slice a n c) k):Own g m (.slice a n' c') k:=by
 rcases h with h|h|h
 ·exact .inl h
 ·exact .inr (.inl h)
 ·exact .inr (.inr ((own_same _ _ _ _ _).trans h))
structure BMid (w:World)(g m:Nat)(a:Option Addr)(cap:Nat)(s:Bs)(ss:List BSl)(n len:Nat)(cur:List BSl)(f:Key->Nat)(vo:Value)(outs:List Bl)(W:World):Prop where
 at':PA W g s.most s.lost (.slice a len cap) m
 map:MapAt W m n f
 row:Row E57 W (.slice a cur.length cap) cur
 out:Row E22 W vo outs
 seen:BSeen W ss
 apart:Apart (Own g m (.slice a 0 cap)) w W
 old:∀ k,Own g m (.slice a 0 cap) k->k<w.heap.size
 new:∀ k,vo.ownBlock=some k->w.heap.size<=k
theorem BMid.plain {w:World}{g m:Nat}{a:Option Addr}{cap:Nat}{s:Bs}{ss:List BSl}{n len:Nat}{cur:List BSl}{f:Key->Nat}{vo:Value}{outs:List Bl}{W:World}(h:BMid w g m a cap s ss n len cur f vo outs W){k:Nat}(hk:Own g m (.slice a 0 cap) k):Plain W k:=by
 rcases hk with rfl|rfl|hk
 ·exact h.at'.plain (λk y e=>by cases e)
 ·exact h.map.plain
 ·exact h.row.plain ((own_same _ _ _ _ _).trans hk)
theorem BMid.below {w:World}{g m:Nat}{a:Option Addr}{cap:Nat}{s:Bs}{ss:List BSl}{n len:Nat}{cur:List BSl}{f:Key->Nat}{vo:Value}{outs:List Bl}{W W':World}(h:BMid w g m a cap s ss n len cur f vo outs W)(hb:Below W.heap.size W W'):BMid w g m a cap s ss n len cur f vo outs W':=
 ⟨h.at'.keep (hb.block g h.at'.lt),h.map.keep (hb.block m h.map.lt),h.row.below hb,h.out.below hb,h.seen.below hb,h.apart.trans (Apart.of_below (F:=λ_=>False) hb) (λ_ h=>h.elim),h.old,h.new⟩
theorem BMid.outs {w:World}{g m:Nat}{a:Option Addr}{cap:Nat}{s:Bs}{ss:List BSl}{n len:Nat}{cur:List BSl}{f:Key->Nat}{vo vo':Value}{outs outs':List Bl}{W W':World}(h:BMid w g m a cap s ss n len cur f vo outs W)(hr:Row E22 W' vo' outs')(ha:Apart (λk=>vo.ownBlock=some k) W W')(hn:∀ k,vo'.ownBlock=some k->vo.ownBlock=some k\/W.heap.size<=k):BMid w g m a cap s ss n len cur f vo' outs' W':=by
 have hne:∀ k,Own g m (.slice a 0 cap) k->W'.heap[k]?=W.heap[k]?:=λk hk=>ha.block k (Nat.lt_of_lt_of_le (h.old k hk) h.apart.size) λe=>by
  have:=h.new k e;have:=h.old k hk;omega
 refine⟨h.at'.keep (hne g (.inl rfl)),h.map.keep (hne m (.inr (.inl rfl))),h.row.keep λk hk=>hne k (.inr (.inr ((own_same _ _ _ _ _).trans hk))),hr,h.seen.apart ha λk hk=>h.out.plain hk,?_,h.old,λk hk=>?_⟩
 ·exact h.apart.trans ha λi hi=>.inr (h.new i hi)
 ·rcases hn k hk with e|e
  ·exact h.new k e
  ·exact Nat.le_trans h.apart.size e
theorem BMid.rows {w:World}{g m:Nat}{a:Option Addr}{cap:Nat}{s:Bs}{ss:List BSl}{n len:Nat}{cur cur':List BSl}{f:Key->Nat}{vo:Value}{outs:List Bl}{W W':World}(h:BMid w g m a cap s ss n len cur f vo outs W)(hr:Row E57 W' (.slice a cur'.length cap) cur')(ha:Apart (λk=>(Value.slice a 0 cap).ownBlock=some k) W W'):BMid w g m a cap s ss n len cur' f vo outs W':=by
 have h1:∀ k,(Value.slice a 0 cap).ownBlock=some k->Own g m (.slice a 0 cap) k:=λk hk=>.inr (.inr hk)
 have hg:(Value.slice a 0 cap).ownBlock≠some g:=by rw[own_same a 0 cap cur.length cap];exact own_vg h.at' h.row
 have hm:(Value.slice a 0 cap).ownBlock≠some m:=by rw[own_same a 0 cap cur.length cap];exact own_vm h.map h.row
 refine⟨h.at'.keep (ha.block g h.at'.lt hg),h.map.keep (ha.block m h.map.lt hm),hr,h.out.apart ha λk hk e=>?_,h.seen.apart ha λk hk=>h.plain (h1 k hk),h.apart.trans ha λi hi=>.inl (h1 i hi),h.old,h.new⟩
 have:=h.new k hk;have:=h.old k (h1 k e);omega
theorem BMid.lens {w:World}{g m:Nat}{a:Option Addr}{cap:Nat}{s:Bs}{ss:List BSl}{n len:Nat}{cur:List BSl}{f:Key->Nat}{vo:Value}{outs:List Bl}{W:World}(h:BMid w g m a cap s ss n len cur f vo outs W)(len':Nat):BMid w g m a cap s ss n len' cur f vo outs (W.setCell ⟨g,2,none⟩ (.slice a len' cap)):=by
 have ha:Apart (λk=>k=g) W (W.setCell ⟨g,2,none⟩ (.slice a len' cap)):=(Apart.refl (λk=>k=g) W).setCell (b:=g) (.inl rfl) 2 _
 have hg:(Value.slice a cur.length cap).ownBlock≠some g:=own_vg h.at' h.row
 refine⟨h.at'.put2 _,h.map.keep (ha.block m h.map.lt λe=>own_gm h.at' h.map e.symm),h.row.apart ha λk hk e=>hg (e▸hk),h.out.apart ha λk hk e=>?_,h.seen.apart ha λk hk=>h.plain (.inl hk),h.apart.trans ha λi hi=>.inl (.inl hi),h.old,h.new⟩
 have:=h.new k hk;have:=h.old k (.inl e);omega
theorem BMid.maps {w:World}{g m:Nat}{a:Option Addr}{cap:Nat}{s:Bs}{ss:List BSl}{n n' len:Nat}{cur:List BSl}{f f':Key->Nat}{vo:Value}{outs:List Bl}{W W':World}(h:BMid w g m a cap s ss n len cur f vo outs W)(hm:MapAt W' m n' f')(ha:Apart (λk=>k=m) W W'):BMid w g m a cap s ss n' len cur f' vo outs W':=by
 have hv:(Value.slice a cur.length cap).ownBlock≠some m:=own_vm h.map h.row
 refine⟨h.at'.keep (ha.block g h.at'.lt (own_gm h.at' h.map)),hm,h.row.apart ha λk hk e=>hv (e▸hk),h.out.apart ha λk hk e=>?_,h.seen.apart ha λk hk=>h.plain (.inr (.inl hk)),h.apart.trans ha λi hi=>.inl (.inr (.inl hi)),h.old,h.new⟩
 have:=h.new k hk;have:=h.old k (.inr (.inl e));omega
def leftL (p:BSl->Bool)(M:Nat)(ss:List BSl)(j:Nat):List BSl:=ss.take j++(split p M (ss.drop j)).2
def outL (p:BSl->Bool)(M:Nat)(ss:List BSl)(j:Nat):List Bl:=((split p M (ss.drop j)).1.map blOf).reverse
def Going (w:World)(g m:Nat)(a:Option Addr)(cap:Nat)(s:Bs)(ss:List BSl)(n:Nat)(p:BSl->Bool)(M j:Nat)(vo:Value)(W:World):Prop:=
 BMid w g m a cap s ss (n+(ss.length-j)) (leftL p M ss j).length (leftL p M ss j) (cnt ((leftL p M ss j).map Prod.fst)) vo (outL p M ss j) W
def Taken (w:World)(g m:Nat)(v:Value)(s:Bs)(n:Nat)(p:It->Bool)(M:Nat)(vo:Value)(w':World):Prop:=
 ∃ v' ss' os,Pb w' g m v' { s with L:=(split p M s.L).2 } ss' (n+64)/\v'.ownBlock=v.ownBlock/\Row E22 w' vo os/\SeenB w' os/\os.map Prod.fst=(split p M s.L).1.map It.b/\Apart (Own g m v) w w'/\∀ k,vo.ownBlock=some k->w.heap.size<=k
theorem Going.start {w:World}{g m:Nat}{a:Option Addr}{cap:Nat}{s:Bs}{ss:List BSl}{n:Nat}(h:Pb w g m (.slice a ss.length cap) s ss n)(p:BSl->Bool)(M:Nat):Going w g m a cap s ss n p M ss.length (.slice none 0 0) w:=by
 have e:leftL p M ss ss.length=ss:=by simp[leftL,split]
 have e1:outL p M ss ss.length=[]:=by simp[outL,split]
 unfold Going
 rw[e,e1,h.its]
 exact⟨h.at',h.map.mono (by omega),h.row,Row.nil _ _,h.seen,Apart.refl _ _,λk hk=>h.lt (hk.same _ _),λk hk=>by cases hk⟩
theorem drop_at {α:Type}{l:List α}{j:Nat}{x:α}(h:l[j]?=some x):l.drop j=x::l.drop (j+1):=by
 have hlt:=(List.getElem?_eq_some_iff.1 h).1
 rw[List.drop_eq_getElem_cons hlt]
 congr 1
 rw[List.getElem?_eq_getElem hlt] at h
 exact Option.some.inj h
theorem left_at {p:BSl->Bool}{M:Nat}{ss:List BSl}{j:Nat}{x:BSl}(hx:ss[j]?=some x):(leftL p M ss (j+1))[j]?=some x:=by
 have hlt:=(List.getElem?_eq_some_iff.1 hx).1
 rw[leftL,List.getElem?_append_left (by simp;omega),List.getElem?_take,if_pos (by omega)]
 exact hx
theorem left_stays {p:BSl->Bool}{M:Nat}{ss:List BSl}{j:Nat}{x:BSl}(hx:ss[j]?=some x)(hp:p x=false):leftL p M ss j=leftL p M ss (j+1)/\outL p M ss j=outL p M ss (j+1):=by
 have hs:=split_no p M x (ss.drop (j+1)) hp
 constructor
 ·rw[leftL,leftL,drop_at hx,hs,take_snoc ss j x hx,List.append_assoc];rfl
 ·rw[outL,outL,drop_at hx,hs]
theorem left_goes {p:BSl->Bool}{M:Nat}{ss:List BSl}{j:Nat}{x:BSl}(hx:ss[j]?=some x)(hp:p x=true)(hM:(outL p M ss (j+1)).length≠M):leftL p M ss j=(leftL p M ss (j+1)).eraseIdx j/\outL p M ss j=outL p M ss (j+1)++[blOf x]:=by
 have hlt:=(List.getElem?_eq_some_iff.1 hx).1
 have hs:=split_yes p M x (ss.drop (j+1)) (by simpa [outL] using hM) hp
 constructor
 ·rw[leftL,leftL,drop_at hx,hs,List.eraseIdx_append_of_lt_length (by simp;omega),take_snoc ss j x hx,List.eraseIdx_append_of_length_le (by simp;omega)]
  congr 1
  simp[Nat.min_eq_left (Nat.le_of_lt hlt)]
 ·rw[outL,outL,drop_at hx,hs];simp
theorem Going.stays {w:World}{g m:Nat}{a:Option Addr}{cap:Nat}{s:Bs}{ss:List BSl}{n:Nat}{p:BSl->Bool}{M j:Nat}{vo:Value}{W:World}{x:BSl}(h:Going w g m a cap s ss n p M (j+1) vo W)(hx:ss[j]?=some x)(hp:p x=false):Going w g m a cap s ss n p M j vo W:=by
 obtain⟨e1,e2⟩:=left_stays (p:=p) (M:=M) hx hp
 unfold Going
 rw[e1,e2]
 exact⟨h.at',h.map.mono (by have:=(List.getElem?_eq_some_iff.1 hx).1;omega),h.row,h.out,h.seen,h.apart,h.old,h.new⟩
theorem cnt_erase {L:List BSl}{j:Nat}{x:BSl}(h:L[j]?=some x)(k:Key):(if k=x.1.k then cnt (L.map Prod.fst) x.1.k-1 else cnt (L.map Prod.fst) k)=cnt ((L.eraseIdx j).map Prod.fst) k:=by
 have hlt:=(List.getElem?_eq_some_iff.1 h).1
 have e:L=L.take j++[x]++L.drop (j+1):=by rw[List.append_assoc,List.singleton_append,<-drop_at h,List.take_append_drop]
 have e2:L.eraseIdx j=L.take j++L.drop (j+1):=List.eraseIdx_eq_take_drop_succ L j
 have e3:∀ k,cnt (L.map Prod.fst) k=cnt ((L.eraseIdx j).map Prod.fst) k+(if x.1.k=k then 1 else 0):=by
  intro k
  rw[e2]
  conv=>lhs;rw[e]
  simp only[List.map_append,List.map_cons,List.map_nil,cnt_append,cnt_one]
  omega
 by_cases hk:k=x.1.k
 ·subst hk;rw[if_pos rfl,e3,if_pos rfl];omega
 ·rw[if_neg hk,e3,if_neg (λe=>hk e.symm)];omega
theorem Going.done {w:World}{g m:Nat}{a:Option Addr}{cap:Nat}{s:Bs}{ss:List BSl}{n:Nat}{q:It->Bool}{M j:Nat}{vo:Value}{W:World}(h:Going w g m a cap s ss n (λx=>q x.1) M j vo W)(hP:Pb w g m (.slice a ss.length cap) s ss n)(hj:j=0\/(outL (λx=>q x.1) M ss j).length=M){W':World}(hr:Row E22 W' vo (outL (λx=>q x.1) M ss j).reverse)(ha:Apart (λk=>vo.ownBlock=some k) W W'):Taken w g m (.slice a ss.length cap) s n q M vo W':=by
 have h2:BMid w g m a cap s ss (n+(ss.length-j)) (leftL (λx=>q x.1) M ss j).length (leftL (λx=>q x.1) M ss j) (cnt ((leftL (λx=>q x.1) M ss j).map Prod.fst)) vo (outL (λx=>q x.1) M ss j).reverse W':=BMid.outs h hr ha (λk hk=>.inl hk)
 have hsp:split (λx:BSl=>q x.1) M ss=((split (λx:BSl=>q x.1) M (ss.drop j)).1,leftL (λx=>q x.1) M ss j):=by
  rcases hj with rfl|hj
  ·simp[leftL]
  ·have:=split_full (λx:BSl=>q x.1) M (ss.drop j) (by simpa [outL] using hj) (ss.take j)
   rw[List.take_append_drop] at this
   exact this
 have hmap:=split_map Prod.fst q M ss
 rw[hP.its,hsp] at hmap
 have hlen:ss.length<=64:=by have:=hP.ok.len;have:=hP.ok.hi;have:=congrArg List.length hP.its;simp at this;omega
 have e2:(leftL (λx=>q x.1) M ss j).map Prod.fst=(split q M s.L).2:=by rw[hmap]
 have hmem:∀ y∈leftL (λx=>q x.1) M ss j,y∈ss:=λy hy=>(split_mem (λx:BSl=>q x.1) M ss y).2 (by rw[hsp];exact hy)
 have hmem1:∀ y∈(split (λx:BSl=>q x.1) M (ss.drop j)).1,y∈ss:=λy hy=>((split_mem (λx:BSl=>q x.1) M ss y).1 (by rw[hsp];exact hy)).1
 refine⟨.slice a (leftL (λx=>q x.1) M ss j).length cap,leftL (λx=>q x.1) M ss j,(outL (λx=>q x.1) M ss j).reverse,⟨h2.at',?_,h2.row,e2,λx hx=>h2.seen x (hmem x hx),?_⟩,own_same _ _ _ _ _,h2.out,?_,?_,h2.apart.mono λk hk=>hk.same _ _,h2.new⟩
 ·show MapAt W' m (n+64) (cnt (split q M s.L).2)
  rw[<-e2];exact h2.map.mono (by omega)
 ·refine⟨hP.ok.lo,hP.ok.hi,?_,λx hx=>hP.ok.arg x ((split_mem q M s.L x).2 hx)⟩
  have:=split_len q M s.L
  have:=hP.ok.len
  show (split q M s.L).2.length<=s.most
  omega
 ·intro y hy
  rw[outL,List.reverse_reverse] at hy
  obtain⟨z,hz,rfl⟩:=List.mem_map.1 hy
  exact h2.seen z (hmem1 z hz)
 ·rw[outL,List.reverse_reverse,List.map_map,hmap]
  simp only[List.map_map]
  rfl
theorem takeOut_ok (w:World)(g m:Nat)(v:Value)(s:Bs)(ss:List BSl)(n:Nat)(h:Pb w g m v s ss n)(hn:n<=90000000)(M:Nat)(hM:M<=1000)(q:It->Bool)(p:Key->Bool)(hqp:∀ x,q x=p x.k)(i:Nat)(c:Value)(hcall:∀ args W,(callFunc i args).run Tryz.prog W=.ok (.enter i args) W)(hch:∀ W k,wfK k->Calls Tryz.prog i #[c,keyV k] W λe w'=>e=.returned (.bool (p k))/\Below W.heap.size W w'):
  Calls Tryz.prog 130 #[.pointer (some ⟨g,0,none⟩),.int .i64 (M:Int),.func (.func i) #[c] #[]] w λe w'=>∃ vo,e=.returned vo/\Taken w g m v s n q M vo w':=by
 obtain⟨a,cap,rfl,hcap,hmax,hnil,haq,_⟩:=h.row.shape
 have hlen:ss.length<=64:=by have:=h.ok.len;have:=h.ok.hi;have:=congrArg List.length h.its;simp at this;omega
 have HP:Hid (Pb w g m (.slice a ss.length cap) s ss n):=h
 have HS:Hid (Going w g m a cap s ss n (λx=>q x.1) M ss.length (.slice none 0 0) w):=Going.start h _ M
 have c2:=h.at'.c2
 have HQ:Hid (∀ b,a=some b->∃ q,b=⟨q,0,none⟩):=haq
 have HCH:Hid (∀ W k,wfK k->Calls Tryz.prog i #[c,keyV k] W λe w'=>e=.returned (.bool (p k))/\Below W.heap.size W w'):=hch
 have HQP:Hid (∀ x,q x=p x.k):=hqp
 have hcm:cap<=9223372036854775807:=by unfold maxLen at hmax;omega
 obtain⟨N,hN⟩:∃ N,N=ss.length:=⟨_,rfl⟩
 rw[<-hN] at hlen hcap c2
 have HN:Hid (N=ss.length):=hN
 have e0:IntKind.i64.wrap ((N:Int)-1)=(N:Int)-1:=by rw[IntKind.wrap_i64];omega
 clear h hnil haq hch hqp hmax hN
 go_enter Tryz.func130,Tryz.ntmps130
 go_wp2_with fail
 go_step3
 go_wp2_with fail
 go_step3
 go_wp2_with fail
 clear c2 e0
 go_loopw [7,8] (λs7 s8 wr=>∃ (j:Nat) (z:Int),s8=.int .i64 z/\z=(j:Int)-1/\j<=N/\Going w g m a cap s ss n (λx=>q x.1) M j s7 wr) (λ_ s8 _=>(intOf s8+1).toNat)
 case atStart=>exact⟨N,_,rfl,rfl,Nat.le_refl _,by rw[HN.out];exact HS.out⟩
 case round=>
  obtain⟨j,z,rfl,hz,hj,hG⟩:=hrel
  clear HS
  obtain⟨ao,co,rfl,_⟩:=hG.out.shape
  have hol:(outL (λx=>q x.1) M ss j).length<=M:=by simpa [outL] using (split_len (λx:BSl=>q x.1) M (ss.drop j)).2
  obtain⟨O,hO⟩:∃ O,O=(outL (λx=>q x.1) M ss j).length:=⟨_,rfl⟩
  rw[<-hO] at hol hG ⊢
  rcases j with _|j
  ·obtain rfl:z = -1:=by omega
   have KR:Hid (Calls Tryz.prog 161 #[.slice ao O co] wr λe w'=>e=.returned (.tuple #[])/\Taken w g m (.slice a ss.length cap) s n q M (.slice ao O co) w'):=by
    refine(reverse_ok wr _ _ hG.out (by rw[<-hO];omega)).mono ?_
    rintro e w' ⟨rfl,h1,h2⟩
    exact⟨rfl,hG.done HP.out (.inl rfl) h1 h2⟩
   clear hG hO hz hj hol
   go_wp2_with fail
   refine KR.out.mono ?_
   rintro e w' ⟨rfl,hT⟩
   have HT:Hid (Taken w g m (.slice a ss.length cap) s n q M (.slice ao O co) w'):=hT
   clear hT KR
   go_wp2
   simp only[Exit.noGoto_ret]
   go_ret
   exact⟨_,rfl,HT.out⟩
  ·obtain rfl:z=(j:Int):=by omega
   obtain⟨x,hx⟩:∃ x,ss[j]?=some x:=⟨ss[j]'(by have:=HN.out;omega),by rw[List.getElem?_eq_getElem]⟩
   have hwf:wfK x.1.k:=wfK_of (HP.out.ok.arg x.1 (by rw[<-HP.out.its];exact List.mem_map.2 ⟨x,List.mem_of_getElem? hx,rfl⟩))
   have hlx:=left_at (p:=λx=>q x.1) (M:=M) hx
   obtain⟨_,b,hab,hcell⟩:=Row.get hG.row hlx
   subst hab
   have c2:=hG.at'.c2
   obtain⟨L,hL⟩:∃ L,L=(leftL (λx=>q x.1) M ss (j+1)).length:=⟨_,rfl⟩
   have hjL:j<L:=by rw[hL];exact(List.getElem?_eq_some_iff.1 hlx).1
   have hLl:L<=64:=by
    have h1:=split_len (λx:BSl=>q x.1) M (ss.drop (j+1))
    have h2:=HN.out
    rw[List.length_drop] at h1
    rw[hL,leftL,List.length_append,List.length_take]
    omega
   rw[<-hL] at c2
   have x0:=hcell 0 _ rfl
   have x1:=hcell 1 _ rfl
   have x2:=hcell 2 _ rfl
   rw[show E57.n=3 from rfl] at x0 x1 x2
   rw[Nat.add_zero] at x0
   obtain⟨W,hW⟩:∃ W,W=wr.alloc (.cells #[.int .i64 x.1.e,.int .i64 x.1.i,.slice x.2.1 x.1.b.length x.2.2] 201):=⟨_,rfl⟩
   have hbW:Below wr.heap.size wr W:=by rw[hW];exact(Below.refl _ _).alloc (Nat.le_refl _) _
   have r1:W.heap[wr.heap.size]?=some (.cells #[.int .i64 x.1.e,.int .i64 x.1.i,.slice x.2.1 x.1.b.length x.2.2] 201 (0,0)):=by rw[hW];exact heap_alloc_new _ _
   have hGW:Going w g m (some ⟨b,0,none⟩) cap s ss n (λx=>q x.1) M (j+1) (.slice ao O co) W:=BMid.below hG hbW
   have g1:(j:Int)<(L:Int):=by omega
   have g2:(0:Int)<=(j:Int):=Int.natCast_nonneg _
   have HW:Hid (W=wr.alloc (.cells #[.int .i64 x.1.e,.int .i64 x.1.i,.slice x.2.1 x.1.b.length x.2.2] 201)):=hW
   have HG:Hid (Going w g m (some ⟨b,0,none⟩) cap s ss n (λx=>q x.1) M (j+1) (.slice ao O co) W):=hGW
   have HX:Hid (ss[j]?=some x/\wfK x.1.k):=⟨hx,hwf⟩
   have HO:Hid (O=(outL (λx=>q x.1) M ss (j+1)).length/\O<=M):=⟨hO,hol⟩
   have HL:Hid (L=(leftL (λx=>q x.1) M ss (j+1)).length):=hL
   have HJ:Hid (j+1<=N):=hj
   have HB:Hid (wr.heap.size<W.heap.size):=(Array.getElem?_eq_some_iff.1 r1).1
   have b0:=cell_of_row _ _ 0 _ _ _ r1
   have b1:=cell_of_row _ _ 1 _ _ _ r1
   have HR1:Hid (W.heap[wr.heap.size]?=some (.cells #[.int .i64 x.1.e,.int .i64 x.1.i,.slice x.2.1 x.1.b.length x.2.2] 201 (0,0))):=r1
   have hjc:(j:Int)<(cap:Int):=by
    obtain⟨_,_,e,h1,_⟩:=hG.row.shape
    cases e
    omega
   obtain⟨B,hB⟩:∃ B,B=wr.heap.size:=⟨_,rfl⟩
   rw[<-hB] at b0 b1 HR1 HB
   have HBB:Hid (B=wr.heap.size):=hB
   have HBw:Hid (w.heap.size<=B):=by rw[hB];exact hG.apart.size
   obtain⟨xe,hxe⟩:∃ xe,xe=x.1.e:=⟨_,rfl⟩
   obtain⟨xi,hxi⟩:∃ xi,xi=x.1.i:=⟨_,rfl⟩
   obtain⟨xl,hxl⟩:∃ xl,xl=x.1.b.length:=⟨_,rfl⟩
   obtain⟨xa,hxa⟩:∃ xa,xa=x.2.1:=⟨_,rfl⟩
   obtain⟨xc,hxc⟩:∃ xc,xc=x.2.2:=⟨_,rfl⟩
   rw[<-hxe] at x0 b0 HW HR1
   rw[<-hxi] at x1 b1 HW HR1
   rw[<-hxl,<-hxa,<-hxc] at x2 HW HR1
   have HK:Hid (keyV x.1.k=.agg #[.int .i64 xe,.int .i64 xi]):=by show keyV x.1.k=_;rw[hxe,hxi];rfl
   have HZ:Hid (blC (blOf x)=[.slice xa xl xc]):=by show blC (blOf x)=_;rw[hxa,hxl,hxc];rfl
   clear hG hGW hx hwf hlx hcell hL hLl hjL hW hbW r1 hz hj hol hO hB hxe hxi hxl hxa hxc
   by_cases hOM:O=M
   ·have KR:Hid (Calls Tryz.prog 161 #[.slice ao O co] W λe w'=>e=.returned (.tuple #[])/\Taken w g m (.slice (some ⟨b,0,none⟩) ss.length cap) s n q M (.slice ao O co) w'):=by
     refine(reverse_ok W _ _ HG.out.out (by rw[<-HO.out.1];omega)).mono ?_
     rintro e w' ⟨rfl,h1,h2⟩
     exact⟨rfl,HG.out.done HP.out (.inr (by rw[<-HO.out.1];exact hOM)) h1 h2⟩
    have g3:(O:Int)=(M:Int):=by omega
    clear hOM
    go_wp2_with fail
    rw[<-HW.out]
    refine KR.out.mono ?_
    rintro e w' ⟨rfl,hT⟩
    have HT:Hid (Taken w g m (.slice (some ⟨b,0,none⟩) ss.length cap) s n q M (.slice ao O co) w'):=hT
    clear hT KR
    go_wp2
    simp only[Exit.noGoto_ret]
    go_ret
    exact⟨_,rfl,HT.out⟩
   ·have g3:¬ ((O:Int)=(M:Int)):=by omega
    have HOM:Hid (O≠M):=hOM
    have KC:Hid (Calls Tryz.prog i #[c,.agg #[.int .i64 xe,.int .i64 xi]] W λe w'=>e=.returned (.bool (p x.1.k))/\Below W.heap.size W w'):=by
     show Calls Tryz.prog i _ W _
     rw[<-HK.out];exact HCH.out W x.1.k HX.out.2
    have e1:IntKind.i64.wrap ((j:Int)-1)=(j:Int)-1:=by have:=HJ.out;rw[IntKind.wrap_i64];omega
    clear hOM
    go_wp2_with fail
    rw[<-HW.out,<-HBB.out]
    refine KC.out.mono ?_
    rintro e w2 ⟨rfl,hb2⟩
    have hG2:Going w g m (some ⟨b,0,none⟩) cap s ss n (λx=>q x.1) M (j+1) (.slice ao O co) w2:=BMid.below HG.out hb2
    have R2:w2.heap[B]?=some (.cells #[.int .i64 xe,.int .i64 xi,.slice xa xl xc] 201 (0,0)):=(hb2.block B HB.out).trans HR1.out
    clear KC hb2 b0 b1 x0 x1 x2 c2 HW HBB
    cases hp:p x.1.k
    ·have HE:Hid (Going w g m (some ⟨b,0,none⟩) cap s ss n (λx=>q x.1) M j (.slice ao O co) w2):=Going.stays hG2 HX.out.1 (by rw[HQP.out];exact hp)
     clear hG2 R2
     go_wp2
     go_roundw
     case rel=>exact⟨j,_,rfl,rfl,by have:=HJ.out;omega,HE.out⟩
     case measure=>simp[intOf]
    ·obtain⟨W8,hW8⟩:∃ W8,W8=w2.alloc (.cells #[.slice xa xl xc] 22):=⟨_,rfl⟩
     have hb8:Below w2.heap.size w2 W8:=by rw[hW8];exact(Below.refl _ _).alloc (Nat.le_refl _) _
     have r8:W8.heap[w2.heap.size]?=some (.cells #[.slice xa xl xc] 22 (0,0)):=by rw[hW8];exact heap_alloc_new _ _
     have hG8:Going w g m (some ⟨b,0,none⟩) cap s ss n (λx=>q x.1) M (j+1) (.slice ao O co) W8:=BMid.below hG2 hb8
     have R8:W8.heap[B]?=some (.cells #[.int .i64 xe,.int .i64 xi,.slice xa xl xc] 201 (0,0)):=(hb8.block B (Array.getElem?_eq_some_iff.1 R2).1).trans R2
     obtain⟨vo',w3,hrun,hrow3,hap3,hnew3⟩:=hG8.out.append [blOf x] (by rw[<-HO.out.1];have:=HO.out.2;simp;omega) (some ⟨w2.heap.size,0,none⟩) 1 (λ_=>⟨w2.heap.size,0,rfl,λt u hu=>by
      rw[show E22.cs [blOf x]=[.slice xa xl xc] from by rw[<-HZ.out];rfl] at hu
      rw[cell_of_row _ _ (0+t) _ _ _ r8,Nat.zero_add,<-Array.getElem?_toList];exact hu⟩)
     have hM3:=BMid.outs hG8 hrow3 hap3 hnew3
     obtain⟨a3,c3,e3,_⟩:=hrow3.shape
     have el3:(outL (λx=>q x.1) M ss (j+1)++[blOf x]).length=O+1:=by rw[List.length_append,<-HO.out.1];rfl
     rw[el3] at e3
     subst e3
     have R3:w3.heap[B]?=some (.cells #[.int .i64 xe,.int .i64 xi,.slice xa xl xc] 201 (0,0)):=(hap3.block B (Array.getElem?_eq_some_iff.1 R8).1 (λe=>by
      obtain⟨cur,h1,_⟩:=hG8.out.isRow e
      rw[h1] at R8;cases R8)).trans R8
     have HR:Hid ((Builtin.append_ #[30,30] 30 #[.slice ao O co,.slice (some ⟨w2.heap.size,0,none⟩) 1 1]).run Tryz.prog W8=.ok (.slice a3 (O+1) c3) w3):=hrun
     have HW8:Hid (W8=w2.alloc (.cells #[.slice xa xl xc] 22)):=hW8
     have hjl:j<(leftL (λx=>q x.1) M ss (j+1)).length:=(List.getElem?_eq_some_iff.1 (left_at (p:=λx=>q x.1) (M:=M) HX.out.1)).1
     have hll:(leftL (λx=>q x.1) M ss (j+1)).length<=64:=by
      have h1:=split_len (λx:BSl=>q x.1) M (ss.drop (j+1))
      have h2:=HN.out
      rw[List.length_drop] at h1
      rw[leftL,List.length_append,List.length_take]
      omega
     have hel:((leftL (λx=>q x.1) M ss (j+1)).eraseIdx j).length=L-1:=by rw[List.length_eraseIdx,if_pos hjl,<-HL.out]
     obtain⟨J,hJ⟩:∃ J,J=j+1:=⟨_,rfl⟩
     obtain⟨L1,hL1⟩:∃ L1,L1=L-1:=⟨_,rfl⟩
     have hLL:=HL.out
     have hB3:B<w3.heap.size:=(Array.getElem?_eq_some_iff.1 R3).1
     have hbB:b≠B:=by
      rintro rfl
      have h1:=hM3.old b (.inr (.inr rfl))
      have h2:=HBw.out
      omega
     have KD:Hid (Calls Tryz.prog 159 #[.slice (some ⟨b,0,none⟩) L cap,.int .i64 (j:Int),.int .i64 (J:Int)] w3 λe w'=>e=.returned (.slice (some ⟨b,0,none⟩) L1 cap) /\
       w'.cell? ⟨g,2,none⟩=some (.slice (some ⟨b,0,none⟩) L cap)/\w'.frozen? ⟨g,2,none⟩=false /\
       (w'.setCell ⟨g,2,none⟩ (.slice (some ⟨b,0,none⟩) L1 cap)).cell? ⟨B,0,none⟩=some (.int .i64 xe)/\(w'.setCell ⟨g,2,none⟩ (.slice (some ⟨b,0,none⟩) L1 cap)).cell? ⟨B,1,none⟩=some (.int .i64 xi) /\
       Calls Tryz.prog 160 #[.pointer (some ⟨g,0,none⟩),.agg #[.int .i64 xe,.int .i64 xi]] (w'.setCell ⟨g,2,none⟩ (.slice (some ⟨b,0,none⟩) L1 cap)) λe w''=>e=.returned (.tuple #[])/\Going w g m (some ⟨b,0,none⟩) cap s ss n (λx=>q x.1) M j (.slice a3 (O+1) c3) w''):=by
      have h0:=delete_ok w3 b cap j _ hM3.row hjl (by omega)
      rw[<-hLL,show ((j+1:Nat):Int)=(J:Int) from by rw[hJ],<-hL1] at h0
      refine Calls.mono h0 ?_
      rintro e w' ⟨rfl,h1,h2⟩
      have h3:=hM3.rows (cur':=(leftL (λx=>q x.1) M ss (j+1)).eraseIdx j) (by rw[hel,<-hL1];exact h1) (h2.mono λk hk=>by subst hk;rfl)
      have h4:=h3.lens L1
      have hgB:g≠B:=by
       rintro rfl
       have:=h3.at'
       unfold PA at this
       rw[h2.block g hB3 (λe=>hbB e.symm),R3] at this
       cases this
      have R5:(w'.setCell ⟨g,2,none⟩ (.slice (some ⟨b,0,none⟩) L1 cap)).heap[B]?=some (.cells #[.int .i64 xe,.int .i64 xi,.slice xa xl xc] 201 (0,0)):=by
       rw[heap_setCell_other _ _ _ _ (λe=>hgB e.symm),h2.block B hB3 (λe=>hbB e.symm),R3]
      have hc2:=h3.at'.c2
      rw[<-hLL] at hc2
      refine⟨rfl,hc2,h3.at'.fz 2,cell_of_row _ _ 0 _ _ _ R5,cell_of_row _ _ 1 _ _ _ R5,?_⟩
      have hpos:=cnt_pos (L:=(leftL (λx=>q x.1) M ss (j+1)).map Prod.fst) (x:=x.1) (List.mem_map.2 ⟨x,List.mem_of_getElem? (left_at (p:=λx=>q x.1) (M:=M) HX.out.1),rfl⟩)
      have hle:=cnt_le ((leftL (λx=>q x.1) M ss (j+1)).map Prod.fst) x.1.k
      rw[List.length_map] at hle
      have h5:=uncount_ok _ g m _ _ x.1.k h4.at'.c3 h4.map (by have:=HN.out;omega) HX.out.2 hpos (by omega)
      rw[HK.out] at h5
      refine Calls.mono h5 ?_
      rintro e w'' ⟨rfl,h6,h7⟩
      refine⟨rfl,?_⟩
      obtain⟨q1,q2⟩:=left_goes (p:=λx=>q x.1) (M:=M) HX.out.1 (by show q x.1=true;rw[HQP.out];exact hp) (by rw[<-HO.out.1];exact HOM.out)
      unfold Going
      rw[q1,q2,hel,<-hL1]
      refine h4.maps ((h6.mono ?_).congr λk=>cnt_erase (left_at (p:=λx=>q x.1) (M:=M) HX.out.1) k) h7
      have:=HN.out;have:=HJ.out;omega
     have e4:IntKind.i64.wrap ((j:Int)+1)=(J:Int):=by have:=HJ.out;rw[IntKind.wrap_i64];omega
     have c23:=hM3.at'.c2
     rw[<-hLL] at c23
     have bx2:=cell_of_row _ _ 2 _ _ _ R2
     clear hM3 hG2 hG8 hrow3 hap3 hnew3 hrun hW8 hb8 r8 R8 R3 R2 hjl hll hel hJ hL1 hLL hB3 hbB el3
     go_wp2_with (at_builtin;rw[<-HW8.out];refine wpList_append_run rfl (.tmp 38) (.tmp 41) 30 rfl _ _ _ rfl rfl HR.out ?_)
     refine KD.out.mono ?_
     rintro e w4 ⟨rfl,y0,y1,y2,y3,y4⟩
     have KU:Hid (Calls Tryz.prog 160 #[.pointer (some ⟨g,0,none⟩),.agg #[.int .i64 xe,.int .i64 xi]] (w4.setCell ⟨g,2,none⟩ (.slice (some ⟨b,0,none⟩) L1 cap)) λe w''=>e=.returned (.tuple #[])/\Going w g m (some ⟨b,0,none⟩) cap s ss n (λx=>q x.1) M j (.slice a3 (O+1) c3) w''):=y4
     clear KD y4 c23 bx2
     go_wp2_with fail
     refine KU.out.mono ?_
     rintro e w5 ⟨rfl,hE⟩
     have HE:Hid (Going w g m (some ⟨b,0,none⟩) cap s ss n (λx=>q x.1) M j (.slice a3 (O+1) c3) w5):=hE
     clear hE KU
     go_wp2
     go_roundw
     case rel=>exact⟨j,_,rfl,rfl,by have:=HJ.out;omega,HE.out⟩
     case measure=>simp[intOf]
end Go.Proofs.YthogohkieiogiaaGreatDoor
