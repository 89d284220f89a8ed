/-
  Slices of elements of a fixed number of cells, none of them a byte, at the head of their block. No contract here.
  What a buffer answers that no call made; what it is to be made.
  What waits as it lies in memory; a map that counts cells; a buffer of the program.
  The contracts of what package buffer calls of the library, but for Reverse; of is and isNotBelow; of uncount.
-/
import Derived.Test.YthogohkieiogiaaGreatDoorRows
import Derived.Test.YthogohkieiogiaaGreatDoorPureB
import Derived.Laws.AppendOwn
import Derived.Deep.AppendSrc
import Derived.Deep.Upon
import Derived.Maps.OwnSet
import Derived.WideKeyPair
import Derived.WideKeyEntry
import Derived.DeepKeys4
import Derived.Laws.StructEq
import Derived.Lib.SmallJoins
import Derived.Lib.SliceRun
import Derived.Deep.Fields
import Derived.Deep.Cut
import Derived.Deep.RegionLaw
namespace Go.Proofs.YthogohkieiogiaaGreatDoor
set_option maxRecDepth 20000
open Go.ChangeShapes Go.WideShapes Go.ChangeAt Go.RowKit
def Plain (w:World)(k:Nat):Prop:=∀ (i:Nat) (x:Int),w.cell? ⟨k,i,none⟩≠some (.int .u8 x)
theorem Sees.apart {w w':World}{F:Nat->Prop}{a:Option Addr}{c:Nat}{l:List UInt8}(h:Sees w a c l)(ha:Apart F w w')(hp:∀ k,F k->Plain w k):Sees w' a c l:=
 ha.sees h λb off e hne hF=>by
  obtain⟨b2,off2,ha2,hc⟩:=h.at' hne
  rw[e] at ha2
  cases ha2
  match l,hne with
  | y::r,_=>exact hp b hF (off+0) y.toNat (hc 0 y rfl)
def NoByte (cur:Array Value):Prop:=∀ u∈cur.toList,∀ k y,u=Value.int k y->(k==IntKind.u8)=false
theorem NoByte.plain {w:World}{q:Nat}{cur:Array Value}{t:TypeId}{fr:Nat×Nat}(h:NoByte cur)(hq:w.heap[q]?=some (.cells cur t fr)):Plain w q:=by
 intro i x e
 rw[cell_of_row w q i _ _ _ hq,<-Array.getElem?_toList] at e
 exact absurd (h _ (List.mem_of_getElem? e) _ _ rfl) (by decide)
structure Enc (α:Type)where
 T:TypeId
 ST:TypeId
 n:Nat
 z:Value
 bys:Nat
 c:α->List Value
 len:∀ x,(c x).length=n
 one:∀ x,∀ u∈c x,u.oneCell'=true
 nob:∀ x,∀ u∈c x,∀ k y,u=Value.int k y->(k==IntKind.u8)=false
 hu:Tryz.prog.underlying ST=some (.slice T)
 hi:(Tryz.prog.info? T).map (λi=>(i.zero,i.size,i.bytes))=some (some z,n,bys)
 hz:z.cells.size=n
 hby:bys<=1000
 znob:∀ u∈z.cells.toList,∀ k y,u=Value.int k y->(k==IntKind.u8)=false
def Enc.cs {α:Type}(E:Enc α)(xs:List α):List Value:=xs.flatMap E.c
theorem Enc.cs_len {α:Type}(E:Enc α):∀ xs:List α,(E.cs xs).length=xs.length*E.n
 | []=>by simp[Enc.cs]
 | x :: r => by
   have ih := E.cs_len r
   simp only [Enc.cs, List.flatMap_cons, List.length_append, E.len] at ih ⊢
   rw [ih, List.length_cons, Nat.succ_mul]; omega
theorem Enc.cs_append {α:Type}(E:Enc α)(xs ys:List α):E.cs (xs++ys)=E.cs xs++E.cs ys:=by simp[Enc.cs]
theorem Enc.cs_cons {α:Type}(E:Enc α)(x:α)(ys:List α):E.cs (x::ys)=E.c x++E.cs ys:=rfl
theorem Enc.cs_one {α:Type}(E:Enc α)(xs:List α):∀ u∈E.cs xs,u.oneCell'=true:=by
 intro u hu
 obtain⟨x,_,hx⟩:=List.mem_flatMap.1 hu
 exact E.one x u hx
theorem Enc.cs_nob {α:Type}(E:Enc α)(xs:List α):∀ u∈E.cs xs,∀ k y,u=Value.int k y->(k==IntKind.u8)=false:=by
 intro u hu
 obtain⟨x,_,hx⟩:=List.mem_flatMap.1 hu
 exact E.nob x u hx
theorem Enc.cs_take {α:Type}(E:Enc α)(xs:List α)(k:Nat)(hk:k<=xs.length):(E.cs xs).take (k*E.n)=E.cs (xs.take k):=by
 have e:E.cs xs=E.cs (xs.take k)++E.cs (xs.drop k):=by rw[<-E.cs_append,List.take_append_drop]
 have hl:(E.cs (xs.take k)).length=k*E.n:=by rw[E.cs_len,List.length_take,Nat.min_eq_left hk]
 rw[e,<-hl,List.take_left]
theorem Enc.cs_drop {α:Type}(E:Enc α)(xs:List α)(k:Nat)(hk:k<=xs.length):(E.cs xs).drop (k*E.n)=E.cs (xs.drop k):=by
 have e:E.cs xs=E.cs (xs.take k)++E.cs (xs.drop k):=by rw[<-E.cs_append,List.take_append_drop]
 have hl:(E.cs (xs.take k)).length=k*E.n:=by rw[E.cs_len,List.length_take,Nat.min_eq_left hk]
 rw[e,<-hl,List.drop_left]
theorem Enc.cs_get {α:Type}(E:Enc α){xs:List α}{j:Nat}{x:α}(hj:xs[j]?=some x){t:Nat}{u:Value}(hu:(E.c x)[t]?=some u):(E.cs xs)[j*E.n+t]?=some u:=by
 have hlt:=(List.getElem?_eq_some_iff.1 hj).1
 have e:xs.drop j=x::xs.drop (j+1):=by
  rw[List.drop_eq_getElem_cons hlt]
  congr 1
  rw[List.getElem?_eq_getElem hlt] at hj
  exact Option.some.inj hj
 have h1:=E.cs_drop xs j (Nat.le_of_lt hlt)
 rw[<-List.getElem?_drop,h1,e,E.cs_cons,List.getElem?_append_left (List.getElem?_eq_some_iff.1 hu).1]
 exact hu
theorem nob_zeros (z:Array Value)(hz:∀ u∈z.toList,∀ k y,u=Value.int k y->(k==IntKind.u8)=false)(m:Nat):∀ u∈(Builtin.zeroCells z m).toList,∀ k y,u=Value.int k y->(k==IntKind.u8)=false:=by
 intro u hu k y e
 subst e
 simp only[Builtin.zeroCells] at hu
 simp at hu
 obtain⟨a,ha,h⟩:=hu
 have h0 : a % z.size < z.size := Nat.mod_lt _ (by rcases Nat.eq_zero_or_pos z.size with h0 | h0; · rw [h0] at ha; omega
                                                   · exact h0)
 rw[getElem!_pos z _ h0] at h
 exact hz _ (Array.mem_toList_iff.2 (Array.getElem_mem h0)) k y h
def Row {α:Type}(E:Enc α)(w:World)(v:Value)(xs:List α):Prop:=
 (v=.slice none 0 0/\xs=[])\/∃ q cap cur,v=.slice (some ⟨q,0,none⟩) xs.length cap/\w.heap[q]?=some (.cells cur E.T (0,0))/\xs.length<=cap/\cap<=maxLen/\cap*E.n<=cur.size/\cur.toList.take (xs.length*E.n)=E.cs xs/\NoByte cur
theorem Row.nil {α:Type}(E:Enc α)(w:World):Row E w (.slice none 0 0) []:=.inl ⟨rfl,rfl⟩
theorem Row.lt {α:Type}{E:Enc α}{w:World}{v:Value}{xs:List α}(h:Row E w v xs){k:Nat}(hk:v.ownBlock=some k):k<w.heap.size:=by
 rcases h with ⟨rfl,_⟩|⟨q,cap,cur,rfl,h1,_⟩
 ·cases hk
 ·cases hk;exact(Array.getElem?_eq_some_iff.1 h1).1
theorem Row.isRow {α:Type}{E:Enc α}{w:World}{v:Value}{xs:List α}(h:Row E w v xs){k:Nat}(hk:v.ownBlock=some k):∃ cur,w.heap[k]?=some (.cells cur E.T (0,0))/\NoByte cur:=by
 rcases h with ⟨rfl,_⟩|⟨q,cap,cur,rfl,h1,_,_,_,_,h2⟩
 ·cases hk
 ·cases hk;exact⟨cur,h1,h2⟩
theorem Row.plain {α:Type}{E:Enc α}{w:World}{v:Value}{xs:List α}(h:Row E w v xs){k:Nat}(hk:v.ownBlock=some k):Plain w k:=by
 obtain⟨cur,h1,h2⟩:=h.isRow hk
 exact h2.plain h1
theorem Row.keep {α:Type}{E:Enc α}{w w':World}{v:Value}{xs:List α}(h:Row E w v xs)(hb:∀ k,v.ownBlock=some k->w'.heap[k]?=w.heap[k]?):Row E w' v xs:=by
 rcases h with h|⟨q,cap,cur,rfl,h1,h2⟩
 ·exact .inl h
 ·exact .inr ⟨q,cap,cur,rfl,(hb q rfl).trans h1,h2⟩
theorem Row.apart {α:Type}{E:Enc α}{F:Nat->Prop}{w w':World}{v:Value}{xs:List α}(h:Row E w v xs)(ha:Apart F w w')(hn:∀ k,v.ownBlock=some k->¬ F k):Row E w' v xs:=
 h.keep λk hk=>ha.block k (h.lt hk) (hn k hk)
theorem Row.below {α:Type}{E:Enc α}{w w':World}{v:Value}{xs:List α}(h:Row E w v xs)(hb:Below w.heap.size w w'):Row E w' v xs:=
 h.keep λk hk=>hb.block k (h.lt hk)
theorem Row.shape {α:Type}{E:Enc α}{w:World}{v:Value}{xs:List α}(h:Row E w v xs):∃ a cap,v=.slice a xs.length cap/\xs.length<=cap/\cap<=maxLen/\(a=none->xs=[]/\cap=0) /\
  (∀ b,a=some b->∃ q,b=⟨q,0,none⟩)/\∀ (j:Nat) (u:Value),(E.cs xs)[j]?=some u->∃ q,a=some ⟨q,0,none⟩/\w.cell? ⟨q,j,none⟩=some u:=by
 rcases h with ⟨rfl,rfl⟩|⟨q,cap,cur,rfl,h1,h2,h3,h4,h5,_⟩
 ·exact⟨none,0,rfl,Nat.le_refl _,Nat.zero_le _,λ_=>⟨rfl,rfl⟩,(λb e=>by cases e),λj u hu=>by simp[Enc.cs] at hu⟩
 ·refine⟨_,cap,rfl,h2,h3,(λe=>by cases e),(λb e=>⟨q,by cases e;rfl⟩),λj u hu=>⟨q,rfl,?_⟩⟩
  rw[cell_of_row w q j _ _ _ h1,<-Array.getElem?_toList]
  rw[<-h5,List.getElem?_take] at hu
  split at hu
  ·exact hu
  ·cases hu
theorem Row.get {α:Type}{E:Enc α}{w:World}{a:Option Addr}{len cap:Nat}{xs:List α}(h:Row E w (.slice a len cap) xs){j:Nat}{x:α}(hj:xs[j]?=some x):
  len=xs.length/\∃ q,a=some ⟨q,0,none⟩/\∀ (t:Nat) (u:Value),(E.c x)[t]?=some u->w.cell? ⟨q,j*E.n+t,none⟩=some u:=by
 rcases h with ⟨e,rfl⟩|⟨q,cap',cur,e,h1,h2,h3,h4,h5,h6⟩
 ·simp at hj
 ·cases e
  refine⟨rfl,q,rfl,λt u hu=>?_⟩
  obtain⟨a',c',e',_,_,_,_,hc⟩:=Row.shape (E:=E) (w:=w) (v:=.slice (some ⟨q,0,none⟩) xs.length cap) (xs:=xs) (.inr ⟨q,cap,cur,rfl,h1,h2,h3,h4,h5,h6⟩)
  cases e'
  obtain⟨q',e2,h⟩:=hc _ u (E.cs_get hj hu)
  cases e2
  exact h
theorem Row.append {α:Type}{E:Enc α}{w:World}{v:Value}{xs:List α}(h:Row E w v xs)(ts:List α)(hl:xs.length+ts.length<=1000)(sa:Option Addr)(sc:Nat)(hs:ts≠[]->∃ c off,sa=some ⟨c,off,none⟩/\∀ j u,(E.cs ts)[j]?=some u->w.cell? ⟨c,off+j,none⟩=some u):
  ∃ v' w',(Builtin.append_ #[E.ST,E.ST] E.ST #[v,.slice sa ts.length sc]).run Tryz.prog w=.ok v' w'/\Row E w' v' (xs++ts)/\Apart (λk=>v.ownBlock=some k) w w'/\(∀ k,v'.ownBlock=some k->v.ownBlock=some k\/w.heap.size<=k):=by
 obtain⟨i,hi,hz0,hz1,hz2⟩:=info_parts E.hi
 have hm:(1000:Nat)<maxLen:=by decide
 have hby:=E.hby
 by_cases hne:ts=[]
 ·subst hne
  obtain⟨a,cap,rfl,hc1,_⟩:=h.shape
  have hsrc:Src Tryz.prog i.size E.ST (.slice sa 0 sc) 0 [] w:=by
   cases sa with
   | none=>exact Src.ofNil w E.hu sc
   | some b=>exact Src.ofSlice w E.hu b 0 sc [] (by simp) (by simp) (by simp)
  refine⟨_,w,run_append_nothing w E.ST E.ST E.ST E.T i E.hu hi a xs.length cap hc1 _ hsrc,by simpa using h,Apart.refl _ _,λk hk=>.inl hk⟩
 ·obtain⟨c,off,rfl,hcell⟩:=hs hne
  have hpos:0<ts.length:=List.length_pos_iff.2 hne
  have hnews:∀ j u,(E.cs ts)[j]?=some u->w.cell? ((⟨c,off,none⟩:Addr).add j)=some u:=λj u hj=>by rw[Addr.add_lit];exact hcell j u hj
  have hnl:(E.cs ts).length=ts.length*i.size:=by rw[hz1,E.cs_len]
  have hmul:∀ a b:Nat,a<=1000->b<=1000->a*b<=1000000:=λa b h1 h2=>Nat.mul_le_mul h1 h2
  rcases h with ⟨rfl,rfl⟩|⟨q,cap,cur,rfl,h1,h2,h3,h4,h5,h6⟩
  ·have hrun:=run_append_nil (P:=Tryz.prog) w E.ST E.ST E.T i _ E.hu hi hz0 ⟨c,off,none⟩ ts.length sc (E.cs ts) hnl hnews hpos (by simp at hl;omega) (by rw[hz2];have:=hmul ts.length E.bys (by simpa using hl) hby;omega)
   have hge:=grownCap_ge w ts.length 0 E.T
   have hcm:grownCap w ts.length 0 E.T<=maxLen:=grownCap_le_maxLen w _ _ E.T (by simp at hl;omega)
   refine⟨_,_,hrun,.inr ⟨w.heap.size,_,_,rfl,heap_alloc_new w.drew _,by simpa using hge,hcm,?_,?_,?_⟩,⟨rfl,rfl,rfl,by simp,λk hk _=>Below.heap_alloc w.drew _ k hk⟩,λk hk=>.inr (by cases hk;exact Nat.le_refl _)⟩
   ·simp only[Array.size_append,List.size_toArray,size_zeroCells,E.cs_len,E.hz]
    rw[<-Nat.add_mul]
    exact Nat.mul_le_mul_right _ (by omega)
   ·simp only[Array.toList_append,List.nil_append]
    rw[<-E.cs_len ts,List.take_left]
   ·intro u hu
    simp only[Array.toList_append,List.mem_append] at hu
    rcases hu with hu|hu
    ·exact E.cs_nob ts u hu
    ·exact nob_zeros _ E.znob _ u hu
  ·by_cases hroom:xs.length+ts.length<=cap
   ·have hfit:xs.length*E.n+(E.cs ts).length<=cur.size:=by
     rw[E.cs_len,<-Nat.add_mul]
     exact Nat.le_trans (Nat.mul_le_mul_right _ hroom) h4
    have hrun:=run_append_room (P:=Tryz.prog) w E.ST E.ST E.T i E.hu hi q xs.length cap cur h1 ⟨c,off,none⟩ ts.length sc (E.cs ts) hnl hnews (E.cs_one ts) hroom (by rw[hz1];exact hfit)
    rw[hz1] at hrun
    refine⟨_,_,hrun,.inr ⟨q,cap,_,by simp,setRow_heap w q cur _ E.T _ h1,by simpa using hroom,h3,?_,?_,?_⟩,⟨rfl,rfl,rfl,by simp,λk _ hk=>setRow_other w q k _ (λe=>hk (by subst e;rfl))⟩,λk hk=>.inl hk⟩
    ·simp only[List.size_toArray,List.length_append,List.length_take,List.length_drop,Array.length_toList]
     omega
    ·rw[h5,<-E.cs_append,List.length_append,<-List.length_append,<-E.cs_len (xs++ts),List.take_left]
    ·intro u hu
     simp only[List.mem_append] at hu
     rcases hu with (hu|hu)|hu
     ·exact h6 u (List.mem_of_mem_take hu)
     ·exact E.cs_nob ts u hu
     ·exact h6 u (List.mem_of_mem_drop hu)
   ·have holds:∀ j u,(E.cs xs)[j]?=some u->w.cell? ((⟨q,0,none⟩:Addr).add j)=some u:=by
     intro j u hj
     rw[Addr.add_lit,Nat.zero_add,cell_of_row w q j _ _ _ h1,<-Array.getElem?_toList]
     rw[<-h5,List.getElem?_take] at hj
     split at hj
     ·exact hj
     ·cases hj
    have hnc:Builtin.nextslicecap (xs.length+ts.length) cap*i.bytes<=281474976710656:=by
     rw[hz2]
     refine growslice_fits (by omega) ?_
     have:=hmul (xs.length+ts.length) E.bys hl hby
     omega
    have hrun:=run_append_grow (P:=Tryz.prog) w E.ST E.ST E.T i _ E.hu hi hz0 ⟨q,0,none⟩ xs.length cap (E.cs xs) (by rw[hz1,E.cs_len]) holds ⟨c,off,none⟩ ts.length sc (E.cs ts) hnl hnews (by omega) (by omega) hnc
    have hge:=grownCap_ge w (xs.length+ts.length) cap E.T
    have hcm:grownCap w (xs.length+ts.length) cap E.T<=maxLen:=grownCap_le_maxLen w _ _ E.T (by omega)
    refine⟨_,_,hrun,.inr ⟨w.heap.size,_,_,by simp,heap_alloc_new w.drew _,by simpa using hge,hcm,?_,?_,?_⟩,⟨rfl,rfl,rfl,by simp,λk hk _=>Below.heap_alloc w.drew _ k hk⟩,λk hk=>.inr (by cases hk;exact Nat.le_refl _)⟩
    ·simp only[Array.size_append,List.size_toArray,size_zeroCells,E.cs_len,E.hz]
     rw[<-Nat.add_mul,<-Nat.add_mul]
     exact Nat.mul_le_mul_right _ (by omega)
    ·simp only[Array.toList_append]
     rw[<-E.cs_append,<-E.cs_len (xs++ts),List.take_left]
    ·intro u hu
     simp only[Array.toList_append,List.mem_append] at hu
     rcases hu with (hu|hu)|hu
     ·exact E.cs_nob xs u hu
     ·exact E.cs_nob ts u hu
     ·exact nob_zeros _ E.znob _ u hu
theorem neq_some (m:Nat)(w:World):(binOp .neq 119 (.map (some m)) (.map none)).run Tryz.prog w=.ok (.bool true) w:=by kernel_rfl
theorem made_ok (w:World)(g m:Nat)(h:w.cell? ⟨g,3,none⟩=some (.map (some m))):Calls Tryz.prog 127 #[.pointer (some ⟨g,0,none⟩)] w λe w'=>e=.returned (.bool true)/\w'=w:=by
 have hn:=neq_some m
 go_enter Tryz.func127,Tryz.ntmps127
 go_wp2
 go_ret
 exact⟨rfl,rfl⟩
open Go.ChangeMaps (setBlock)
abbrev BLoc:=Option Addr×Nat
abbrev BSl:=It×BLoc
def slC (s:BSl):List Value:=[.int .i64 s.1.e,.int .i64 s.1.i,.slice s.2.1 s.1.b.length s.2.2]
theorem slC_one (x:BSl):∀ u∈slC x,u.oneCell'=true:=by
 intro v hv
 simp only[slC,List.mem_cons,List.not_mem_nil,or_false] at hv
 rcases hv with rfl|rfl|rfl<;>rfl
theorem slC_nob (x:BSl):∀ u∈slC x,∀ k y,u=Value.int k y->(k==IntKind.u8)=false:=by
 intro v hv k y
 simp only[slC,List.mem_cons,List.not_mem_nil,or_false] at hv
 rcases hv with rfl|rfl|rfl<;>intro e<;>cases e<;>rfl
def zSl:Value:=.agg #[.int .i64 0,.int .i64 0,.slice none 0 0]
theorem zSl_nob:∀ u∈zSl.cells.toList,∀ k y,u=Value.int k y->(k==IntKind.u8)=false:=by
 intro v hv k y
 simp only[zSl,Value.cells,List.mem_cons,List.not_mem_nil,or_false] at hv
 rcases hv with rfl|rfl|rfl<;>intro e<;>cases e<;>rfl
def E57:Enc BSl:=⟨201,120,3,zSl,40,slC,λ_=>rfl,slC_one,slC_nob,by kernel_rfl,by kernel_rfl,rfl,by decide,zSl_nob⟩
abbrev Bl:=List UInt8×BLoc
def blC (s:Bl):List Value:=[.slice s.2.1 s.1.length s.2.2]
theorem blC_one (x:Bl):∀ u∈blC x,u.oneCell'=true:=by
 intro v hv
 simp only[blC,List.mem_cons,List.not_mem_nil,or_false] at hv
 subst hv;rfl
theorem blC_nob (x:Bl):∀ u∈blC x,∀ k y,u=Value.int k y->(k==IntKind.u8)=false:=by
 intro v hv k y
 simp only[blC,List.mem_cons,List.not_mem_nil,or_false] at hv
 subst hv;intro e;cases e
theorem zBl_nob:∀ u∈(Value.slice none 0 0).cells.toList,∀ k y,u=Value.int k y->(k==IntKind.u8)=false:=by
 intro v hv k y
 simp only[Value.cells,List.mem_cons,List.not_mem_nil,or_false] at hv
 subst hv;intro e;cases e
def E22:Enc Bl:=⟨22,30,1,.slice none 0 0,24,blC,λ_=>rfl,blC_one,blC_nob,by kernel_rfl,by kernel_rfl,rfl,by decide,zBl_nob⟩
def keyV (k:Key):Value:=.agg #[.int .i64 k.1,.int .i64 k.2]
def bkeyL (k:Key):Lit:=.string (keyBytes [.int .i64 k.1,.int .i64 k.2])
def wfK (k:Key):Prop:=(Lit.int .i64 k.1).wf=true/\(Lit.int .i64 k.2).wf=true
theorem laidOut:laidOutB Tryz.prog=true:=by kernel_rfl
theorem row51:(196:TypeId)<Tryz.prog.types.size:=of_decide_eq_true (by kernel_rfl)
theorem arr51:WideMaps.ArrKey Tryz.prog 196 3 2:=⟨Tryz.underlying196,by kernel_rfl,by kernel_rfl,by kernel_rfl⟩
theorem wide51:(match Tryz.prog.underlying 196 with|some (.array _ _)|some (.struct _)=>true|_=>false)=true:=by rw[Tryz.underlying196]
theorem law51:WideMaps.KeyLaw Tryz.prog 196:=deep_law_laid laidOut (m:=2) (by omega) row51 (by kernel_rfl) wide51
theorem keyed51:Maps.Keyed Tryz.prog 196:=Maps.Keyed.of_law law51
theorem types_pos:∃ m,Tryz.prog.types.size=m+1:=Nat.exists_eq_add_one.2 (Nat.lt_of_le_of_lt (Nat.zero_le _) row51)
theorem key_pair {k:Key}(h:wfK k):keyOf Tryz.prog 196 (keyV k)=some (bkeyL k):=WideMaps.keyOf_pair arr51 Tryz.underlying3 types_pos h.1 h.2
theorem keyL_ne {j k:Key}(hj:wfK j)(hk:wfK k)(h:j≠k):bkeyL j≠bkeyL k:=λe=>h (by
 have h1:=key_pair hj
 rw[e] at h1
 have h2:=law51.inj h1 (key_pair hk)
 simp only[keyV,Value.agg.injEq] at h2
 have h3:=congrArg Array.toList h2
 simp at h3
 exact Prod.ext h3.1 h3.2)
theorem zero3 (w:World):(zeroValue 3).run Tryz.prog w=.ok (.int .i64 0) w:=by kernel_rfl
theorem u47:Tryz.prog.underlying 119=some (.map 196 3):=by kernel_rfl
theorem inI_wf {x:Int}(h0 : -9223372036854775808<=x)(h1:x<=9223372036854775807):(Lit.int .i64 x).wf=true:=WalkArith.wf_i64 (by omega)
def MapAt (w:World)(m n:Nat)(f:Key->Nat):Prop:=
 ∃ D:DataW Unit,w.ownsMap Tryz.prog 196 (plainElem Tryz.prog 3) m n D/\∀ k:Key,wfK k->D.atKey (bkeyL k) (.lit (.int .i64 0))=.lit (.int .i64 (f k:Int))
theorem MapAt.lt {w:World}{m n:Nat}{f:Key->Nat}(h:MapAt w m n f):m<w.heap.size:=by
 obtain⟨D,h1,_⟩:=h;exact h1.lt
theorem MapAt.keep {w w':World}{m n:Nat}{f:Key->Nat}(h:MapAt w m n f)(hb:w'.heap[m]?=w.heap[m]?):MapAt w' m n f:=by
 obtain⟨D,⟨es,clock,h1,h2⟩,h3⟩:=h
 exact⟨D,⟨es,clock,hb.trans h1,h2⟩,h3⟩
theorem MapAt.mono {w:World}{m n n':Nat}{f:Key->Nat}(h:MapAt w m n f)(hn:n<=n'):MapAt w m n' f:=by
 obtain⟨D,h1,h2⟩:=h;exact⟨D,h1.mono hn,h2⟩
theorem MapAt.congr {w:World}{m n:Nat}{f g:Key->Nat}(h:MapAt w m n f)(e:∀ k,f k=g k):MapAt w m n g:=by
 have:f=g:=funext e
 subst this;exact h
theorem MapAt.isMap {w:World}{m n:Nat}{f:Key->Nat}(h:MapAt w m n f):∃ es clock,w.heap[m]?=some (.map es clock):=by
 obtain⟨D,⟨es,clock,h1,_⟩,_⟩:=h;exact⟨es,clock,h1⟩
theorem MapAt.plain {w:World}{m n:Nat}{f:Key->Nat}(h:MapAt w m n f):Plain w m:=by
 obtain⟨es,clock,h1⟩:=h.isMap
 intro i x e
 simp[World.cell?,h1] at e
theorem MapAt.new (w:World):MapAt (w.alloc (.map #[] 0)) w.heap.size 0 λ_=>0:=
 ⟨.map [],World.ownsMap_made w _ _ _,λx _=>by simp[DataW.atKey]⟩
theorem MapAt.look {w:World}{m n:Nat}{f:Key->Nat}(h:MapAt w m n f){k:Key}(hk:wfK k):
  (Instr.lookup 119 (.map (some m)) (keyV k) false).run Tryz.prog w=.ok (.int .i64 (f k:Int)) w:=by
 obtain⟨D,h1,h2⟩:=h
 obtain⟨c,hrun,hat,_⟩:=h1.lookup_int keyed51 u47 Tryz.underlying3 (zero3 w) (key_pair hk)
 rw[h2 k hk] at hat
 cases hat
 exact hrun
theorem MapAt.del {w:World}{m n:Nat}{f:Key->Nat}(h:MapAt w m n f){k:Key}(hk:wfK k)(ty:TypeId):
  ∃ w',(Builtin.delete_ #[119,196] ty #[.map (some m),keyV k]).run Tryz.prog w=.ok (.tuple #[]) w'/\MapAt w' m n (λj=>if j=k then 0 else f j)/\Apart (λj=>j=m) w w'/\w'.heap.size=w.heap.size:=by
 obtain⟨D,h1,h2⟩:=h
 obtain⟨w',hrun,hown,hturn⟩:=h1.drop keyed51 u47 (key_pair hk) ty
 refine⟨w',hrun,⟨_,hown,λx hx=>?_⟩,(Apart.refl _ w).grown hturn.grown (λk e=>.inl (by cases e;rfl)),?_⟩
 ·dsimp only
  by_cases e:x=k
  ·subst e;rw[if_pos rfl,Maps.atKey_del_same];rfl
  ·rw[if_neg e,Maps.atKey_del_other (keyL_ne hx hk e),h2 x hx]
 ·obtain⟨es,clock,es',clock',_,rfl⟩:=hturn
  simp[ChangeMaps.setBlock]
theorem MapAt.entry {w:World}{m n:Nat}{f:Key->Nat}(h:MapAt w m n f)(hn:n<maxLen){k:Key}(hk:wfK k):
  ∃ v0 st w1, (Instr.mapEntry 119 (.map (some m)) (keyV k)).run Tryz.prog w = .ok (.tuple #[v0, .int .i64 st]) w1 ∧ MapAt w1 m (n + 1) f ∧ Apart (fun j => j = m) w w1 ∧ w1.heap.size = w.heap.size ∧
    ∀ (w2 : World) (c : Nat), (Lit.int .i64 (c : Int)).wf = true → w2.heap[m]? = w1.heap[m]? → ∃ w3, (Instr.entryStore 119 (.map (some m)) (.int .i64 st) (.int .i64 (c : Int))).run Tryz.prog w2 = .ok () w3 ∧
      MapAt w3 m (n + 1) (fun j => if j = k then c else f j) ∧ Apart (fun j => j = m) w2 w3 ∧ w3.heap.size = w2.heap.size := by
 obtain⟨D,h1,h2⟩:=h
 have h1':=h1
 obtain⟨es,clock,hb,F,hs,hD⟩:=h1
 obtain⟨v0,st,es1,clock1,hE,_,hS⟩:=WideElems.entry_then_store law51 u47 zero3 hb F (key_pair hk)
 have hset:∀ (W:World) (o:Obj),W.heap[m]?.isSome=true->(setBlock W m o).heap[m]?=some o:=λW o hW=>by
  have:m<W.heap.size:=by
   rcases Nat.lt_or_ge m W.heap.size with h|h
   ·exact h
   ·rw[Array.getElem?_eq_none h] at hW;cases hW
  simp[setBlock,this]
 have hap:∀ (W:World) (o:Obj),Apart (λj=>j=m) W (setBlock W m o)/\(setBlock W m o).heap.size=W.heap.size:=λW o=>
  ⟨⟨rfl,rfl,rfl,by simp[setBlock],λj _ hj=>by simp[setBlock,Array.getElem?_setIfInBounds];intro e;exact absurd e.symm hj⟩,by simp[setBlock]⟩
 have hM1:MapAt (setBlock w m (.map es1 clock1)) m (n+1) f:=by
  have hcase:(es1=es/\clock1=clock)\/(f k=0/\(Instr.mapUpdate 119 (.map (some m)) (keyV k) (.int .i64 0)).run Tryz.prog w=.ok () (setBlock w m (.map es1 clock1))):=by
   have hlk:=MapAt.look (w:=w) (m:=m) (n:=n) (f:=f) ⟨D,h1',h2⟩ hk
   rcases law51.find w (key_pair hk) es.toList F.keys with ⟨f1,f2⟩|⟨j,e0,f1,f2,f3⟩
   ·right
    have hE2:(Instr.mapEntry 119 (.map (some m)) (keyV k)).run Tryz.prog w=.ok (.tuple #[.int .i64 0,goInt clock]) (setBlock w m (.map (es.push ⟨keyV k,.int .i64 0,clock⟩) (clock+1))):=by
     simp[Instr.mapEntry,run_underlying u47,MapKept.run_getObj_map hb,law51.check w false (key_pair hk),f1,MapKept.run_setObj_map _ hb,Result.andThen,setBlock]
    have hU:(Instr.mapUpdate 119 (.map (some m)) (keyV k) (.int .i64 0)).run Tryz.prog w=.ok () (setBlock w m (.map (es.push ⟨keyV k,.int .i64 0,clock⟩) (clock+1))):=by
     simp[Instr.mapUpdate,run_underlying u47,MapKept.run_getObj_map hb,law51.check w false (key_pair hk),f1,MapKept.run_setObj_map _ hb,Result.andThen,setBlock]
    have hL:(Instr.lookup 119 (.map (some m)) (keyV k) false).run Tryz.prog w=.ok (.int .i64 0) w:=by
     simp[Instr.lookup,run_underlying u47,MapKept.run_getObj_map hb,law51.check w _ (key_pair hk),f1,Result.andThen]
    rw[hlk] at hL
    rw[hE] at hE2
    injection hE2 with _ hw
    rw[hw]
    refine⟨?_,hU⟩
    injection hL with hv _
    injection hv with _ hz
    omega
   ·left
    have hj:es[j]?=some e0:=by simpa using f2
    have hsame:es.modify j (λe=>{ e with key:=keyV k })=es:=by
     apply Array.ext'
     rw[Array.toList_modify,ChangeMaps.modify_eq_set _ _ _ _ f2]
     have:({ e0 with key:=keyV k }:MapEntry)=e0:=by rw[<-f3]
     rw[this]
     exact WideElems.set_self _ _ _ f2
    have hE2:(Instr.mapEntry 119 (.map (some m)) (keyV k)).run Tryz.prog w=.ok (.tuple #[e0.val,goInt e0.born]) (setBlock w m (.map es clock)):=by
     simp[Instr.mapEntry,run_underlying u47,MapKept.run_getObj_map hb,law51.check w false (key_pair hk),f1,hj,f3,law51.stays w (key_pair hk),hsame,MapKept.run_setObj_map _ hb,Result.andThen,setBlock]
    rw[hE] at hE2
    injection hE2 with _ hw
    have h3:=hset w (.map es1 clock1) (by rw[hb];rfl)
    rw[hw,hset w (.map es clock) (by rw[hb];rfl)] at h3
    injection h3 with h4
    injection h4 with h5 h6
    exact⟨h5.symm,h6.symm⟩
  rcases hcase with ⟨rfl,rfl⟩|⟨hf,hU⟩
  ·exact MapAt.keep (MapAt.mono ⟨D,h1',h2⟩ (Nat.le_succ n)) ((hset w _ (by rw[hb];rfl)).trans hb.symm)
  ·obtain⟨w',hrun,hown,_⟩:=h1'.store keyed51 u47 hn (key_pair hk) (plainElem_int (H:=Unit) Tryz.underlying3 (a:=0) (by decide))
   rw[hU] at hrun
   injection hrun with _ hw
   refine⟨_,hw▸hown,λy hy=>?_⟩
   by_cases e:y=k
   ·subst e;rw[Maps.atKey_put_same h1'.isMap (keyed51.key (key_pair hk)),hf];rfl
   ·rw[Maps.atKey_put_other (keyL_ne hy hk e),h2 y hy]
 refine⟨v0,st,_,hE,hM1,(hap w _).1,(hap w _).2,λw2 c hc hw2=>?_⟩
 obtain⟨es',clock',hrun2,hupd⟩:=hS w2 (.int .i64 (c:Int)) (hw2.trans (hset w _ (by rw[hb];rfl)))
 obtain⟨w',hrun,hown,_⟩:=h1'.store keyed51 u47 hn (key_pair hk) (plainElem_int (H:=Unit) Tryz.underlying3 hc)
 rw[hupd] at hrun
 injection hrun with _ hw
 refine⟨_,hrun2,?_,(hap w2 _).1,(hap w2 _).2⟩
 have hM:MapAt (setBlock w m (.map es' clock')) m (n+1) (λj=>if j=k then c else f j):=by
  refine⟨_,hw▸hown,λy hy=>?_⟩
  dsimp only
  by_cases e:y=k
  ·subst e;rw[if_pos rfl,Maps.atKey_put_same h1'.isMap (keyed51.key (key_pair hk))]
  ·rw[if_neg e,Maps.atKey_put_other (keyL_ne hy hk e),h2 y hy]
 exact hM.keep ((hset w2 _ (by rw[hw2,hset w _ (by rw[hb];rfl)];rfl)).trans (hset w _ (by rw[hb];rfl)).symm)
theorem bequal_ok (w:World)(a b:Option Addr)(ca cb:Nat)(l m:List UInt8)(ha:Sees w a ca l)(hb:Sees w b cb m):
  Calls Tryz.prog 50 #[.slice a l.length ca,.slice b m.length cb] w λe w'=>e=.returned (.bool (l==m))/\w'=w:=by
 have e1:=ha.convert (P:=Tryz.prog) 22 5 9 Tryz.underlying22 Tryz.underlying5 Tryz.underlying9
 have e2:=hb.convert (P:=Tryz.prog) 22 5 9 Tryz.underlying22 Tryz.underlying5 Tryz.underlying9
 clear ha hb
 go_enter Tryz.func50,Tryz.ntmps50
 go_wp2
 go_ret
 exact⟨by first|rfl|simp,rfl⟩
theorem clone_ok (w:World)(x:Option Addr)(cx:Nat)(cs:List UInt8)(hx:Sees w x cx cs)(hb:cs.length<=140737488355328):
  Calls Tryz.prog 21 #[.slice x cs.length cx] w λe w'=>∃ d cd,e=.returned (.slice d cs.length cd)/\Sees w' d cd cs/\Below w.heap.size w w':=by
 cases x with
 | none =>
   have h0 := hx.bare rfl
   have h1 := hx.fits
   have : cs = [] := List.eq_nil_of_length_eq_zero (by omega)
   subst this
   subst h0
   have hq := Lib.run_eql_slice_nil (P := Tryz.prog) w 22 5 none 0 0 0 0 Tryz.underlying22
   clear hx
   simp only [List.length_nil]
   go_enter Tryz.func21, Tryz.ntmps21
   go_wp2
   go_ret
   exact ⟨none, 0, rfl, Sees.nil' _, Below.refl _ _⟩
 | some ad =>
   have hb0 : Below w.heap.size w (w.alloc (.cells #[] 5)) := (Below.refl _ _).alloc (Nat.le_refl _) _
   obtain ⟨v', w', hrun, ho, hbl⟩ := append_own_any (w.alloc (.cells #[] 5)) w.heap.size _ [] (own_empty w) (some ad) cx cs (hx.below hb0) (by simpa using hb) (by simp)
   have HR : Hid ((Builtin.append_ #[22, 22] 22 #[.slice (some ⟨w.heap.size, 0, none⟩) 0 0, .slice (some ad) cs.length cx]).run Tryz.prog (w.alloc (.cells #[] 5)) = .ok v' w') := hrun
   obtain ⟨d, cd, rfl, hs⟩ := Sees.of_own ho
   have HE : Hid (Sees w' d cd cs ∧ Below w.heap.size w w') := ⟨hs, hbl _ _ hb0 (Nat.le_refl _)⟩
   have hq := Lib.run_eql_slice_nil (P := Tryz.prog) w 22 5 (some ad) cs.length cx 0 0 Tryz.underlying22
   clear hrun hx ho hbl hs
   go_enter Tryz.func21, Tryz.ntmps21
   go_wp2_with (at_builtin; refine wpList_append_run rfl _ _ 22 rfl _ _ _ rfl rfl HR.out ?_)
   go_ret
   exact ⟨d, cd, by simp, HE.out⟩
theorem eqKey {a b:Key}(ha:wfK a)(hb:wfK b)(w:World):(Op.equalIn 10000 196 (keyV a) (keyV b)).run Tryz.prog w=.ok (decide (a=b)) w:=by
 obtain⟨r,h1,h2⟩:=run_equal_deep (P:=Tryz.prog) w (m:=2) (by omega) (k:=196) (by kernel_rfl) wide51 (key_pair ha) (key_pair hb)
 have e:r=decide (a=b):=by
  by_cases h:a=b
  ·subst h;rw[decide_eq_true rfl];exact h2.2 rfl
  ·rw[decide_eq_false h]
   cases r
   ·rfl
   ·exact absurd (h2.1 rfl) (keyL_ne ha hb h)
 rw[<-e]
 exact h1
theorem is_ok (w:World)(k j:Key)(hk:wfK k)(hj:wfK j):Calls Tryz.prog 131 #[keyV k,keyV j] w λe w'=>e=.returned (.bool (decide (j=k)))/\Below w.heap.size w w':=by
 have hb:Hid (Below w.heap.size w ((w.alloc (.cells #[.int .i64 k.1,.int .i64 k.2] 196)).alloc (.cells #[.int .i64 j.1,.int .i64 j.2] 196))):=((Below.refl _ _).alloc (Nat.le_refl _) _).alloc (by simp) _
 have hq:=eqKey hj hk ((w.alloc (.cells #[.int .i64 k.1,.int .i64 k.2] 196)).alloc (.cells #[.int .i64 j.1,.int .i64 j.2] 196))
 simp only[keyV] at hq ⊢
 clear hk hj
 go_enter Tryz.func131,Tryz.ntmps131
 go_wp2
 go_ret
 exact⟨rfl,hb.out⟩
theorem low_ok (w:World)(k j:Key):Calls Tryz.prog 144 #[keyV k,keyV j] w λe w'=>e=.returned (.bool (decide (j.1<k.1)||(decide (j.1=k.1)&&decide (j.2<=k.2))))/\Below w.heap.size w w':=by
 obtain⟨k1,k2⟩:=k
 obtain⟨j1,j2⟩:=j
 have hb:Hid (Below w.heap.size w ((w.alloc (.cells #[.int .i64 k1,.int .i64 k2] 196)).alloc (.cells #[.int .i64 j1,.int .i64 j2] 196))):=((Below.refl _ _).alloc (Nat.le_refl _) _).alloc (by simp) _
 simp only[keyV]
 by_cases h1:j1<k1
 ·rw[decide_eq_true h1,Bool.true_or]
  go_enter Tryz.func144,Tryz.ntmps144
  go_wp2
  go_ret
  exact⟨rfl,hb.out⟩
 ·rw[decide_eq_false h1,Bool.false_or]
  by_cases h2:j1=k1
  ·subst h2
   rw[decide_eq_true rfl,Bool.true_and]
   go_enter Tryz.func144,Tryz.ntmps144
   go_wp2
   go_ret
   exact⟨rfl,hb.out⟩
  ·rw[decide_eq_false h2,Bool.false_and]
   go_enter Tryz.func144,Tryz.ntmps144
   go_wp2
   go_ret
   exact⟨rfl,hb.out⟩
end Go.Proofs.YthogohkieiogiaaGreatDoor
