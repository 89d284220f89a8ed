/-
  A slice that reads as a list of bytes, in whatever memory; what it gives, and what keeps it. No program here.

  Laws on operations whose run is known, on results that lie in memory, and on rows of words. No program here.

  Bytes in memory, made, appended to and cut: what the walks over any program with bytes want.

  Objects in memory with the blocks that they lie in; two of them side by side. No program here.

  A region that draws its order, walked operation by operation. No program here.

  Slices that read as numbers of a kind, or as lists of bytes. No program here.

  'copy' into a row of bytes; a slice's tail. No law of the program's own here.

  A range over a function whose iterator promises something of the memory that it hands over (a slice of its own making ..). No program here.
-/
import Derived.WalkKit
import Derived.ProofKit
import Derived.OpenShut
import Derived.Laws.BitsAllLaws
import Derived.Laws.BytesArg
import Derived.Laws.OwnMore
import Derived.Below
import Derived.Deep.Quiet
import Derived.SizedLaws
import Derived.ChangeOld
import Derived.ShutString
import Derived.Deep.MidRow
import Derived.Deep.QuietTactic
import Derived.BigQuiet
import Derived.Deep.RegionWith
import Derived.Test.YthogohkieiogiaaGreatDoorRows
import Derived.Deep.RegionHeld3
import Derived.Deep.AppendLies
import Derived.Deep.AppendSrc
import Derived.Deep.Upon
import Derived.Deep.Onto
import Derived.Deep.RegionLaw
import Derived.Maps.AppendAt
import Derived.Deep.Matrix
import Derived.Laws.CopyRow
import Derived.RangeFuncNested
import Derived.RangeFuncBound
import Derived.RangeFuncCalls
import Derived.RangeFuncLeaves
import Derived.RangeFuncBox
namespace Go.Proofs.YthogohkieiogiaaGreatDoor
set_option maxRecDepth 20000
open Go.ChangeShapes Go.WideShapes Go.ChangeAt Go.RowKit
def cellOf (x:UInt8):Value:=.int .u8 x.toNat
structure Sees (w:World)(a:Option Addr)(cap:Nat)(bs:List UInt8):Prop where
 fits:bs.length<=cap
 room:cap<=maxLen
 bare:a=none->cap=0
 at':bs≠[]->∃ b off,a=some ⟨b,off,none⟩/\∀ i x,bs[i]?=some x->w.cell? ⟨b,off+i,none⟩=some (.int .u8 x.toNat)
theorem Sees.get {w:World}{a:Option Addr}{cap:Nat}{bs:List UInt8}(h:Sees w a cap bs){k:Nat}{x:UInt8}(hx:bs[k]?=some x):
  ∃ b off,a=some ⟨b,off,none⟩/\w.cell? ⟨b,off+k,none⟩=some (.int .u8 x.toNat):=by
 obtain⟨b,off,ha,hc⟩:=h.at' (by rintro rfl;simp at hx)
 exact⟨b,off,ha,hc k x hx⟩
theorem Sees.below {w w':World}{a:Option Addr}{cap:Nat}{bs:List UInt8}(h:Sees w a cap bs)(hb:Below w.heap.size w w'):Sees w' a cap bs:=
 ⟨h.fits, h.room, h.bare, fun hne => by
   obtain ⟨b, off, ha, hc⟩ := h.at' hne
   refine ⟨b, off, ha, fun i x hx => ?_⟩
   have h1 := hc i x hx
   rw [hb.cell (p := ⟨b, off + i, none⟩) (World.block_lt_of_cell? w _ h1), h1]⟩
theorem Sees.nil' (w:World):Sees w none 0 []:=⟨by simp,by simp,λ_=>rfl,λh=>absurd rfl h⟩
theorem Sees.of_own {w:World}{base:Nat}{e:TypeId}{v:Value}{n:Nat}{bs:List UInt8}(h:w.ownsRow base e 1 v n (bs.map cellOf)):
  ∃ a cap,v=.slice a bs.length cap/\Sees w a cap bs:=by
 have hn:n=bs.length:=by have:=h.1;simp at this;omega
 subst hn
 rcases h.2 with ⟨rfl,h0⟩|⟨g,cap,cur,rfl,_,hg,hnc,hcm,hcs,htake⟩
 ·have:bs=[]:=List.eq_nil_of_length_eq_zero h0
  subst this
  exact⟨none,0,rfl,Sees.nil' w⟩
 ·refine⟨_,cap,rfl,hnc,hcm,by simp,λ_=>⟨g,0,rfl,λi x hx=>?_⟩⟩
  have h1:=h.cells (g:=g) rfl i (cellOf x) (by simp[hx])
  rw[Addr.add_lit] at h1
  exact h1
theorem Sees.take {w:World}{a:Option Addr}{cap:Nat}{bs:List UInt8}(h:Sees w a cap bs)(k:Nat):Sees w a cap (bs.take k):=
 ⟨Nat.le_trans (by rw [List.length_take]; exact Nat.min_le_right _ _) h.fits, h.room, h.bare, fun hne => by
   obtain ⟨b, off, ha, hc⟩ := h.at' (by rintro rfl; simp at hne)
   refine ⟨b, off, ha, fun i x hx => hc i x ?_⟩
   rw [List.getElem?_take] at hx
   split at hx
   · exact hx
   · simp at hx⟩
theorem Sees.news {w:World}{a:Option Addr}{cap:Nat}{bs:List UInt8}(h:Sees w a cap bs):∀ ad,a=some ad->∀ j u,(bs.map cellOf)[j]?=some u->w.cell? (ad.add j)=some u:=by
 intro ad had j u hu
 rw[List.getElem?_map] at hu
 obtain⟨x,hx,rfl⟩:=Option.map_eq_some_iff.1 hu
 obtain⟨b,off,ha,hc⟩:=h.get hx
 rw[had] at ha
 obtain rfl:=Option.some.inj ha
 rw[Addr.add_lit,hc];rfl
theorem bytes_oneCell (bs:List UInt8):∀ u∈bs.map cellOf,u.oneCell'=true:=by
 intro u hu
 obtain⟨x,_,rfl⟩:=List.mem_map.1 hu
 rfl
theorem strBytes_eq (bs:List UInt8):strOfNums (bs.map λx=>(x.toNat:Int))=⟨bs.toArray⟩:=by
 simp[strOfNums,Function.comp_def]
theorem Sees.convert {P:Program}{w:World}{a:Option Addr}{cap:Nat}{bs:List UInt8}(h:Sees w a cap bs)(src e dst:TypeId)(hs:P.underlying src=some (.slice e))(he:P.underlying e=some (.int .u8))(hd:P.underlying dst=some .string):
  (Go.convert src dst (.slice a bs.length cap)).run P w=.ok (.string ⟨bs.toArray⟩) w:=by
 by_cases hne:bs=[]
 ·subst hne
  cases a with
  | none=>exact run_convert_bytes_nil w src e hs he 0 cap dst hd
  | some ad =>
    show (Go.convert src dst (.slice (some ad) 0 cap)).run P w = _
    rw [run_convert_bytes_string w src dst e _ 0 cap hs he hd, run_bytesToString w ad 0 cap [] (by simp [loadCells, loadCellsFrom])]
    rfl
 ·obtain⟨b,off,rfl,hc⟩:=h.at' hne
  rw[<-strBytes_eq]
  refine run_convert_bytes_arg w src e hs he b off bs.length cap _ (by simp) (λi hi=>?_) dst hd
  rw[hc i bs[i] (by simp[hi])]
  simp[hi]
theorem toNat_lt256 (x:UInt8):x.toNat<256:=x.toNat_lt
theorem bxor (x y:UInt8):bits .xor .u8 (x.toNat:Int) (y.toNat:Int)=((x^^^y).toNat:Int):=by
 rw[u8_xor_nat _ _ (toNat_lt256 x) (toNat_lt256 y),UInt8.toNat_xor]
theorem bor (x y:UInt8):bits .or .u8 (x.toNat:Int) (y.toNat:Int)=((x|||y).toNat:Int):=by
 rw[u8_or_nat _ _ (toNat_lt256 x) (toNat_lt256 y),UInt8.toNat_or]
def gath:List UInt8->List UInt8->UInt8
 | a::as1,b::bs=>(a^^^b)|||gath as1 bs
 | _,_=>0
theorem gath_snoc:∀ (as1 bs:List UInt8) (a b:UInt8),as1.length=bs.length->gath (as1++[a]) (bs++[b])=gath as1 bs|||(a^^^b)
 | [],[],a,b,_=>by simp[gath]
 | x :: as1, y :: bs, a, b, h => by
   simp only [List.cons_append, gath]
   rw [gath_snoc as1 bs a b (by simpa using h), UInt8.or_assoc]
 | [],_::_,_,_,h=>by simp at h
 | _::_,[],_,_,h=>by simp at h
theorem gath_zero:∀ (as1 bs:List UInt8),as1.length=bs.length->(gath as1 bs=0↔as1=bs)
 | [],[],_=>by simp[gath]
 | x :: as1, y :: bs, h => by
   simp only [gath, UInt8.or_eq_zero_iff, UInt8.xor_eq_zero_iff]
   rw [gath_zero as1 bs (by simpa using h)]
   simp
 | [],_::_,h=>by simp at h
 | _::_,[],h=>by simp at h
theorem take_snoc {α:Type}(l:List α)(k:Nat)(x:α)(h:l[k]?=some x):l.take (k+1)=l.take k++[x]:=by
 rw[List.take_add_one,h];rfl
theorem made_bytes (n:Nat):(madeCells #[Value.int .u8 0] n).toList=(List.replicate n (0:UInt8)).map cellOf:=by
 apply List.ext_getElem
 ·simp[madeCells]
 ·intro i h1 h2
  simp[madeCells,cellOf,Nat.mod_one]
theorem set_step (l:List UInt8)(n k:Nat)(z:UInt8)(hk:k<n)(hl:l.length=n)(hz:l[k]?=some z):
  ((l.take k++List.replicate (n-k) 0).map cellOf).set k (.int .u8 (z.toNat:Int))=(l.take (k+1)++List.replicate (n-(k+1)) 0).map cellOf:=by
 have h1:List.replicate (n-k) (0:UInt8)=0::List.replicate (n-(k+1)) 0:=by
  rw[<-List.replicate_succ];congr 1;omega
 rw[h1,take_snoc l k z hz]
 simp only[List.map_append,List.map_cons,List.append_assoc,List.singleton_append]
 rw[List.set_append_right _ _ (by simp;omega)]
 simp[show min k l.length=k by omega,cellOf]
theorem at_step (l:List UInt8)(n k:Nat)(hk:k<n)(hl:l.length=n):
  ((l.take k++List.replicate (n-k) 0).map cellOf)[k]?=some (.int .u8 0):=by
 rw[List.getElem?_map,List.getElem?_append_right (by simp;omega)]
 simp[show min k l.length=k by omega,show 0<n-k by omega,cellOf]
theorem Sees.drewN {w:World}{a:Option Addr}{cap:Nat}{bs:List UInt8}(h:Sees w a cap bs)(n:Nat):Sees (w.drewN n) a cap bs:=
 ⟨h.fits, h.room, h.bare, fun hne => by
   obtain ⟨b, off, ha, hc⟩ := h.at' hne
   exact ⟨b, off, ha, fun i x hx => by rw [← hc i x hx]; rfl⟩⟩
theorem wpList_append_run {P:Program}{w w':World}{ops:Array Oper}{rest:List Oper}{o:Oper}{a:Act}{Q:Exit->Act->World->Prop}(hgd:o.guard=none)(s x:Operand)(t:TypeId)(ho:o.op=.call { callee:=.builtin .append,args:=#[s,x],argTypes:=#[t,t] })(v u r:Value)(hs:a.eval s=v)(hx:a.eval x=u)(hrun:(Builtin.append_ #[t,t] o.type #[v,u]).run P w=.ok r w')(h:wpList P ops Q rest (a.put o.dst r) w'):wpList P ops Q (o::rest) a w:=by
 refine wpList_plain hgd λK hK=>?_
 unfold Oper.wp
 simp[execOp,ho,resolve,invoke,builtin,hs,hx,hrun,Result.andThen]
 exact hK _ _ h
theorem sees_of_arg {P:Program}{H:Type}{enc:TypeId×Value->H}{W:World}{t e:TypeId}{fuel:Nat}{a:Option Addr}{len cap:Nat}{d:DataW H}{p:List MemPlace}{ts:List TypeId}{ds:List (DataW H)}{j:Nat}(ht:P.underlying t=some (.slice e))(he:P.underlying e=some (.int .u8))(hc:P.cellsOf e=1)(hby:P.bytesOf e=1)(hf:DataW.trod enc P W 0 (λ_=>true) true fuel t (Value.slice a len cap).cells.toList=some (d,p))(hsz:(DataW.weightsEach P ts ds).all (· <= reachBytes)=true)(hj:ts[j]?=some t)(hd:ds[j]?=some d):
  ∃ bs:List UInt8,len=bs.length/\Sees W a cap bs/\cap<=140737488351232:=by
 rcases open_ints ht he hc hf with ⟨hcs,_⟩|⟨x,l,c,zs,hcs,_,hl,hm,hz,hx,hcell,hwz⟩
 ·simp[Value.cells] at hcs
  obtain⟨rfl,rfl,rfl⟩:=hcs
  exact⟨[],rfl,Sees.nil' W,by omega⟩
 ·simp[Value.cells] at hcs
  obtain⟨rfl,rfl,rfl⟩:=hcs
  simp only[Prod.mk.injEq] at hx
  obtain⟨rfl,rfl⟩:=hx
  have hz':zs.length=cap:=by simpa using hz
  have hr:cap<=140737488351232:=by
   have:=sized_slice hsz (j:=j) (t:=t) (e:=e) hj hd ht
   rw[hby] at this
   simp only[lits,List.length_map,List.length_take,List.length_drop,reachBytes] at this
   omega
  have hlz:len<=zs.length:=by omega
  refine⟨(zs.take len).map λz=>UInt8.ofNat z.toNat,by simp;omega,⟨by simp;omega,hm,by simp,λhne=>?_⟩,hr⟩
  have h0:0<len:=by
   rcases Nat.eq_zero_or_pos len with h|h
   ·subst h;simp at hne
   ·exact h
  obtain⟨b,off,spot⟩:=x
  have hs:=World.cell?_spot (hcell 0 (by omega))
  have hspot:spot=none:=by simpa [Addr.add] using hs
  subst hspot
  refine⟨b,off,rfl,λi y hy=>?_⟩
  have hi:i<len:=by
   have:=(List.getElem?_eq_some_iff.1 hy).1
   simp at this;omega
  have h1:=hcell i (by omega)
  rw[Addr.add_lit] at h1
  rw[h1]
  have hw:=hwz (zs.getD i 0) (by rw[List.getD_eq_getElem?_getD,List.getElem?_eq_getElem (by omega)];exact List.getElem_mem _)
  have hb:=bounds_u8 hw
  have e1:y=UInt8.ofNat (zs.getD i 0).toNat:=by
   simp[hi] at hy
   obtain⟨q,hq,rfl⟩:=hy
   simp[hq]
  rw[e1]
  congr 2
  rw[UInt8.toNat_ofNat']
  omega
theorem Sees.drop {w:World}{b off cap:Nat}{bs:List UInt8}(h:Sees w (some ⟨b,off,none⟩) cap bs)(k:Nat)(hk:k<=bs.length):Sees w (some ⟨b,off+k,none⟩) (cap-k) (bs.drop k):=
 ⟨by have := h.fits; simp; omega, by have := h.room; omega, by simp, fun hne => by
   obtain ⟨b', off', ha, hc⟩ := h.at' (by rintro rfl; simp at hne)
   cases ha
   refine ⟨b, off + k, rfl, fun i x hx => ?_⟩
   rw [List.getElem?_drop] at hx
   rw [Nat.add_assoc]
   exact hc _ x hx⟩
theorem wpList_load_run {P:Program}{ops:Array Oper}{rest:List Oper}{o:Oper}{a:Act}{w:World}{Q:Exit->Act->World->Prop}(hgd:o.guard=none)(ty:TypeId)(x:Operand)(ho:o.op=.load ty x)(v r:Value)(hx:a.eval x=v)(hrun:(Instr.loadAt ty v).run P w=.ok r w)(h:wpList P ops Q rest (a.put o.dst r) w):wpList P ops Q (o::rest) a w:=by
 refine wpList_plain hgd λK hK=>?_
 unfold Oper.wp execOp
 simp only[ho,hx,Sem.run_bind,hrun,Result.andThen_ok,Sem.run_pure]
 exact hK _ _ h
theorem wpList_store_run {P:Program}{ops:Array Oper}{rest:List Oper}{o:Oper}{a:Act}{w w':World}{Q:Exit->Act->World->Prop}(hgd:o.guard=none)(ty:TypeId)(x y:Operand)(ho:o.op=.store ty x y)(v u:Value)(hx:a.eval x=v)(hy:a.eval y=u)(hrun:(Instr.storeAt ty v u).run P w=.ok () w')(h:wpList P ops Q rest (a.put o.dst undef) w'):wpList P ops Q (o::rest) a w:=by
 refine wpList_plain hgd λK hK=>?_
 unfold Oper.wp execOp
 simp only[ho,hx,hy,Sem.run_bind,hrun,Result.andThen_ok,Sem.run_pure]
 exact hK _ _ h
theorem loadAt_row {P:Program}(w:World)(g:Nat)(t ty:TypeId)(cs:Array Value)(fr:Nat×Nat)(d:TypeDesc)(hg:w.heap[g]?=some (.cells cs t fr))(hu:P.underlying ty=some d)(hd:(match d with | .struct _ | .array _ _=>true|_=>false)=true)(hi:(P.info? ty).map (·.size)=some cs.size):
  (Instr.loadAt ty (.pointer (some ⟨g,0,none⟩))).run P w=.ok (.agg cs) w:=by
 simp only[Instr.loadAt,Instr.sureAddr,Sem.run_bind,Sem.run_pure,Result.andThen_ok]
 exact run_loadVar_row w g t ty cs fr d hg hu hd hi
theorem storeAt_row {P:Program}(w:World)(g:Nat)(t ty:TypeId)(c c':Array Value)(hg:w.heap[g]?=some (.cells c t (0,0)))(hi:(P.info? ty).map (·.size)=some c'.size)(ho:c.size=c'.size)(h1:c'.all (·.oneCell')=true):
  (Instr.storeAt ty (.pointer (some ⟨g,0,none⟩)) (.agg c')).run P w=.ok () (w.setRow g c'):=by
 simp only[Instr.storeAt,Instr.sureAddr,Sem.run_bind,Sem.run_pure,Result.andThen_ok]
 exact run_storeVar_row w g t ty c c' hg hi ho h1
theorem results_cell_tmp {P:Program}{fn:Func}{p q:Tmp}{ty:TypeId}(h:fn.results=#[.cell p ty,.tmp q])(tmps:Array Value)(w:World)(g:Nat)(t:TypeId)(cs:Array Value)(fr:Nat×Nat)(d:TypeDesc)(hp:tmps.getD p undef=.pointer (some ⟨g,0,none⟩))(hg:w.heap[g]?=some (.cells cs t fr))(hu:P.underlying ty=some d)(hd:(match d with | .struct _ | .array _ _=>true|_=>false)=true)(hi:(P.info? ty).map (·.size)=some cs.size):
  (results fn tmps).run P w=.ok (.tuple #[.agg cs,tmps.getD q undef]) w:=by
 have hp':tmps[p]?.getD undef=.pointer (some ⟨g,0,none⟩):=by simpa using hp
 simp[results,h,hp',asAddr,run_loadVar_row w g t ty cs fr d hg hu hd hi]
def wcell (x:Nat):Value:=.int .u32 (x:Int)
theorem words_one (l:List Nat):(l.map wcell).toArray.all (·.oneCell')=true:=
 all_oneCell_toArray (by intro v hv;obtain⟨x,_,rfl⟩:=List.mem_map.1 hv;rfl)
theorem below_drewN {B:Nat}{a w:World}(h:Below B a w)(n:Nat):Below B a (w.drewN n):=⟨h.os,h.tape,h.output,h.size,h.block⟩
theorem below_setRow {B:Nat}{a w:World}(h:Below B a w){g:Nat}(hg:B<=g)(c:Array Value):Below B a (w.setRow g c):=
 h.trans ⟨rfl,rfl,rfl,by simp,λk hk=>by rw[setRow_other _ _ _ _ (by omega)]⟩
theorem set_stepW (l:List Nat)(n t x:Nat)(hl:l.length=t)(ht:t<n):(l++List.replicate (n-t) 0).set t x=(l++[x])++List.replicate (n-(t+1)) 0:=by
 have h1:List.replicate (n-t) 0=0::List.replicate (n-(t+1)) 0:=by rw[<-List.replicate_succ];congr 1;omega
 rw[h1,List.set_append_right _ _ (by omega)]
 simp[hl]
theorem getD_app (l m:List Nat)(k:Nat)(hk:k<l.length):(l++m)[k]?=some (l.getD k 0):=by
 rw[List.getElem?_append_left hk]
 simp[hk]
theorem cell_words {w:World}{g:Nat}{cs:List Nat}{t:TypeId}{fr:Nat×Nat}(h:w.heap[g]?=some (.cells (cs.map wcell).toArray t fr)){k x:Nat}(hx:cs[k]?=some x):w.cell? ⟨g,k,none⟩=some (.int .u32 (x:Int)):=by
 rw[cell_of_row w _ k _ _ _ h]
 simp[hx,wcell]
theorem setCell_words {w:World}{g:Nat}{cs:List Nat}{t:TypeId}(h:w.heap[g]?=some (.cells (cs.map wcell).toArray t (0,0)))(k x:Nat):
  (w.setCell ⟨g,k,none⟩ (.int .u32 (x:Int))).heap[g]?=some (.cells ((cs.set k x).map wcell).toArray t (0,0)):=by
 rw[heap_setCell_same _ _ _ _ _ _ h]
 congr 2
 rw[List.setIfInBounds_toArray,List.map_set]
 rfl
theorem wpList_build_run {P:Program}{ops:Array Oper}{rest:List Oper}{o:Oper}{a:Act}{w:World}{Q:Exit->Act->World->Prop}(hgd:o.guard=none)(t:TypeId)(parts:Array (Nat×Operand))(ho:o.op=.build t parts)(vs:List (Nat×Value))(r:Value)(hp:parts.toList.map (λp=>(p.1,a.eval p.2))=vs)(hrun:(Instr.build t vs.toArray).run P w=.ok r w)(h:wpList P ops Q rest (a.put o.dst r) w):wpList P ops Q (o::rest) a w:=by
 refine wpList_plain hgd λK hK=>?_
 have hq:parts.map (λp=>(p.1,a.eval p.2))=vs.toArray:=by rw[<-hp,<-Array.toList_map,Array.toArray_toList]
 unfold Oper.wp execOp
 simp only[ho,hq,Sem.run_bind,hrun,Result.andThen_ok,Sem.run_pure]
 exact hK _ _ h
theorem wpList_gload_run {P:Program}{ops:Array Oper}{rest:List Oper}{o:Oper}{a:Act}{w:World}{Q:Exit->Act->World->Prop}(hw:Region.wanted o (yielded ops a.tmps)=true)(ty:TypeId)(x:Operand)(ho:o.op=.load ty x)(v r:Value)(hx:a.eval x=v)(hrun:(Instr.loadAt ty v).run P w=.ok r w)(h:wpList P ops Q rest (a.put o.dst r) w):wpList P ops Q (o::rest) a w:=by
 simp only[wpList,hw,if_true]
 left
 unfold Oper.wp execOp
 simp only[ho,hx,Sem.run_bind,hrun,Result.andThen_ok,Sem.run_pure]
 exact h
theorem Tryz.info5:(Tryz.prog.info? 5).map (λi=>(i.zero,i.size,i.bytes))=some (some (.int .u8 0),1,1):=by kernel_rfl
theorem Sees.src {w:World}{x:Option Addr}{cx:Nat}{cs:List UInt8}(h:Sees w x cx cs):Src Tryz.prog 1 22 (.slice x cs.length cx) cs.length (cs.map cellOf) w:=by
 cases x with
 | none =>
   have h0 := h.bare rfl
   have h1 := h.fits
   have : cs = [] := List.eq_nil_of_length_eq_zero (by omega)
   subst this
   exact Src.ofNil w Tryz.underlying22 cx
 | some ad=>exact Src.ofSlice w Tryz.underlying22 ad _ cx _ (by simp) (h.news ad rfl) (bytes_oneCell cs)
theorem append_own_any (w:World)(base:Nat)(v:Value)(xs:List UInt8)(ho:w.ownsRow base 5 1 v xs.length (xs.map cellOf))(x:Option Addr)(cx:Nat)(cs:List UInt8)(hx:Sees w x cx cs)(hb:xs.length+cs.length<=140737488355328)(hbase:base<=w.heap.size):
  ∃ v' w', (Builtin.append_ #[22, 22] 22 #[v, .slice x cs.length cx]).run Tryz.prog w = .ok v' w' ∧ w'.ownsRow base 5 1 v' (xs ++ cs).length ((xs ++ cs).map cellOf) ∧
    (∀ B a0, Below B a0 w → B ≤ base → Below B a0 w') := by
 obtain⟨i5,hi,hz0,hz1,hz2⟩:=info_parts Tryz.info5
 by_cases h0:cs=[]
 ·subst h0
  obtain⟨d,cd,rfl,hs⟩:=Sees.of_own ho
  have:=run_append_nothing (P:=Tryz.prog) w 22 22 22 5 i5 Tryz.underlying22 hi d xs.length cd hs.fits (.slice x 0 cx) (by rw[hz1];exact hx.src)
  exact⟨_,w,this,by simpa using ho,λ_ _ h _=>h⟩
 ·obtain⟨ad,rfl⟩:∃ ad,x=some ad:=by obtain⟨b,off,h,_⟩:=hx.at' h0;exact⟨_,h⟩
  obtain⟨v',w',hrun,ho',hg,_⟩:=run_append_own (P:=Tryz.prog) w base 22 22 5 i5 (.int .u8 0) 1 1 Tryz.underlying22 hi hz0 hz1 hz2 rfl (by omega) v xs.length (xs.map cellOf) ho ad cs.length cx (cs.map cellOf) (by simp) (hx.news ad rfl) (bytes_oneCell cs) (by unfold maxLen;omega) (by omega) hbase
  exact⟨v',w',hrun,by simpa using ho',λB a0 h hB=>h.grown hg (Nat.le_trans hB hbase) (λk hk=>Nat.le_trans hB (ho.lt _ hk).1)⟩
theorem own_empty (w:World):(w.alloc (.cells #[] 5)).ownsRow w.heap.size 5 1 (.slice (some ⟨w.heap.size,0,none⟩) 0 0) ([]:List UInt8).length (([]:List UInt8).map cellOf):=
 World.ownsRow_made w #[] 0 (Nat.le_refl _) (by simp) (by simp)
theorem sees_lit (w:World)(l:List UInt8)(t:TypeId)(fr:Nat×Nat)(hl:l.length<=1000):Sees (w.alloc (.cells (l.map cellOf).toArray t fr)) (some ⟨w.heap.size,0,none⟩) l.length l:=
 ⟨Nat.le_refl _, by unfold maxLen; omega, by simp, fun _ => ⟨w.heap.size, 0, rfl, fun i x hx => by
   rw [cell_of_row _ _ (0 + i) _ _ _ (heap_alloc_new w _), Nat.zero_add]
   simp [hx, cellOf]⟩⟩
theorem own_keepB {w w':World}{B n B':Nat}{v:Value}{xs:List Value}(h:w.ownsRow B 5 1 v n xs)(hb:Below B' w w')(hB:B'=w.heap.size:=by rfl):w'.ownsRow B 5 1 v n xs:=by
 subst hB
 refine⟨h.1,?_⟩
 rcases h.2 with h0|⟨g,cap,cur,rfl,hlow,hg,h4,h5,h6,h7⟩
 ·exact .inl h0
 ·exact .inr ⟨g,cap,cur,rfl,hlow,by rw[hb.block g (Array.getElem?_eq_some_iff.1 hg).1];exact hg,h4,h5,h6,h7⟩
structure Apart (F:Nat->Prop)(w w':World):Prop where
 os:w'.os=w.os
 tape:w'.tape=w.tape
 output:w'.output=w.output
 size:w.heap.size<=w'.heap.size
 block:∀ k,k<w.heap.size->¬ F k->w'.heap[k]?=w.heap[k]?
theorem Apart.refl (F:Nat->Prop)(w:World):Apart F w w:=⟨rfl,rfl,rfl,Nat.le_refl _,λ_ _ _=>rfl⟩
theorem Apart.of_below {F:Nat->Prop}{w w':World}(h:Below w.heap.size w w'):Apart F w w':=⟨h.os,h.tape,h.output,h.size,λk hk _=>h.block k hk⟩
theorem Apart.mono {F G:Nat->Prop}{w w':World}(h:Apart F w w')(hs:∀ k,F k->G k):Apart G w w':=⟨h.os,h.tape,h.output,h.size,λk hk hn=>h.block k hk λhf=>hn (hs k hf)⟩
theorem Apart.trans {F G:Nat->Prop}{w w' w'':World}(h:Apart F w w')(k:Apart G w' w'')(hs:∀ i,G i->F i\/w.heap.size<=i):Apart F w w'':=
 ⟨k.os.trans h.os, k.tape.trans h.tape, k.output.trans h.output, Nat.le_trans h.size k.size, fun i hi hn => (k.block i (Nat.lt_of_lt_of_le hi h.size) fun hg => by
   rcases hs i hg with h1 | h1
   · exact hn h1
   · omega).trans (h.block i hi hn)⟩
theorem Apart.below {F:Nat->Prop}{w0 w w':World}{B:Nat}(h:Apart F w w')(hb:Below B w0 w)(hF:∀ k,F k->B<=k)(hB:B<=w.heap.size):Below B w0 w':=
 ⟨h.os.trans hb.os,h.tape.trans hb.tape,h.output.trans hb.output,Nat.le_trans hb.size h.size,λk hk=>(h.block k (by omega) (λhf=>by have:=hF k hf;omega)).trans (hb.block k hk)⟩
theorem Apart.setCell {F:Nat->Prop}{w w':World}(h:Apart F w w'){b:Nat}(hb:F b\/w.heap.size<=b)(i:Nat)(v:Value):Apart F w (w'.setCell ⟨b,i,none⟩ v):=
 ⟨h.os, h.tape, h.output, by simpa using h.size, fun k hk hn => by
   rw [heap_setCell_other _ _ _ _ (by rintro rfl; rcases hb with h1 | h1; exact hn h1; omega)]; exact h.block k hk hn⟩
theorem Apart.drew {F:Nat->Prop}{w w':World}(h:Apart F w w'):Apart F w w'.drew:=⟨h.os,h.tape,h.output,h.size,h.block⟩
theorem Apart.grown {F:Nat->Prop}{w w' w'':World}(h:Apart F w w'){row:Option Nat}(hg:w'.grownBy w'' row)(hr:∀ k,row=some k->F k\/w.heap.size<=k):Apart F w w'':=
 ⟨hg.os.trans h.os, hg.tape.trans h.tape, hg.output.trans h.output, Nat.le_trans h.size hg.size, fun k hk hn => (hg.block k (Nat.lt_of_lt_of_le hk h.size) (fun e => by
   rcases hr k e.symm with h1 | h1
   · exact hn h1
   · omega)).trans (h.block k hk hn)⟩
theorem Apart.cell {F:Nat->Prop}{w w':World}(h:Apart F w w'){a:Addr}{v:Value}(hv:w.cell? a=some v)(hn:¬ F a.block):w'.cell? a=some v:=by
 rw[World.cell?_of_block (w:=w) (h.block a.block (World.block_lt_of_cell? w a hv) hn)];exact hv
theorem Apart.sees {F:Nat->Prop}{w w':World}(h:Apart F w w'){a:Option Addr}{cap:Nat}{l:List UInt8}(hs:Sees w a cap l)(hn:∀ b off,a=some ⟨b,off,none⟩->l≠[]->¬ F b):Sees w' a cap l:=
 ⟨hs.fits, hs.room, hs.bare, fun hne => by
   obtain ⟨b, off, ha, hc⟩ := hs.at' hne
   exact ⟨b, off, ha, fun i x hx => h.cell (hc i x hx) (hn b off ha hne)⟩⟩
structure Kept {σ:Type}(M:World->Nat->σ->(Nat->Prop)->Prop):Prop where
 lt:∀ {w b s F},M w b s F->∀ k,F k->k<w.heap.size
 keep:∀ {w w' b s F},M w b s F->(∀ k,F k->w'.heap[k]?=w.heap[k]?)->M w' b s F
def Left {σ:Type}(M:World->Nat->σ->(Nat->Prop)->Prop)(w:World)(F:Nat->Prop)(b:Nat)(s:σ)(w':World):Prop:=∃ F',M w' b s F'/\Apart F w w'/\∀ k,F' k->F k\/w.heap.size<=k
theorem Kept.below {σ:Type}{M:World->Nat->σ->(Nat->Prop)->Prop}(h:Kept M){w w':World}{b:Nat}{s:σ}{F:Nat->Prop}(hm:M w b s F)(hb:Below w.heap.size w w'):M w' b s F:=
 h.keep hm λk hk=>hb.block k (h.lt hm k hk)
theorem step_append_run {P:Program}{w w':World}{ops:Array Oper}{o:Oper}{a:Act}{K:Act->World->Prop}{Q:Exit->Act->World->Prop}{E:Prop}(hgd:o.guard=none)(s x:Operand)(t:TypeId)(ho:o.op=.call { callee:=.builtin .append,args:=#[s,x],argTypes:=#[t,t] })(v u r:Value)(hs:a.eval s=v)(hx:a.eval x=u)(hrun:(Builtin.append_ #[t,t] o.type #[v,u]).run P w=.ok r w')(h:K (a.put o.dst r) w'):if Region.wanted o (yielded ops a.tmps)=true then Oper.wp P o a w K Q else E:=by
 have hw:Region.wanted o (yielded ops a.tmps)=true:=by simp[Region.wanted,hgd]
 rw[if_pos hw]
 unfold Oper.wp execOp
 simp only[ho,resolve,invoke,builtin,Sem.run_bind,Sem.run_pure,Result.andThen_ok,List.map_toArray,List.map_cons,List.map_nil,hs,hx,hrun]
 exact h
theorem any_skip {P:Program}{md:Region.Mode}{ops:Array Oper}{Q:Exit->Act->World->Prop}{S:World->Prop}{fuel:Nat}{listed:Array Bool}{a:Act}{w:World}(i:Nat){oi:Oper}(hi:ops.toList[i]?=some oi)(hs:Region.noSelect ops=true)(hf:Region.free md ops listed i=true)(hr:(Region.ready md ops listed).contains i=true)(hQ:∀ c a w,Q (.panic c) (a.put oi.dst undef) w->Q (.panic c) a w)(hw:Region.wanted oi (yielded ops a.tmps)=false)(hS:S w)(h:wpAnyH P md ops Q S fuel (listed.setIfInBounds i true) (a.put oi.dst undef) w):wpAnyH P md ops Q S (fuel+1) listed a w:=
 wpAnyH_take (i:=i) (oi:=oi) (by simpa using hi) hs hf hr hQ (.inr ⟨hw,rfl⟩) hS h
theorem any_take {P:Program}{md:Region.Mode}{ops:Array Oper}{Q:Exit->Act->World->Prop}{S:World->Prop}{fuel:Nat}{listed:Array Bool}{a:Act}{w:World}(i:Nat)(v:Value){oi:Oper}(hi:ops.toList[i]?=some oi)(hs:Region.noSelect ops=true)(hf:Region.free md ops listed i=true)(hr:(Region.ready md ops listed).contains i=true)(hQ:∀ c a w,Q (.panic c) (a.put oi.dst v) w->Q (.panic c) a w)(hw:Region.wanted oi (yielded ops a.tmps)=true)(hv:∀ w,S w->(execOp a.eval oi).run P w=.ok (.value v) w)(hS:S w)(h:wpAnyH P md ops Q S fuel (listed.setIfInBounds i true) (a.put oi.dst v) w):wpAnyH P md ops Q S (fuel+1) listed a w:=
 wpAnyH_take (i:=i) (oi:=oi) (by simpa using hi) hs hf hr hQ (.inl ⟨hw,hv⟩) hS h
theorem sT {α:Type}:(∀ (l:List α) (i:Nat) (a:α),l.toArray.setIfInBounds i a=(l.set i a).toArray)/\(∀ (a b:α) (l:List α),(a::l).set 0 b=b::l)/\(∀ (a b:α) (l:List α) (n:Nat),(a::l).set (n+1) b=a::l.set n b):=⟨λ_ _ _=>by simp,λ_ _ _=>rfl,λ_ _ _ _=>rfl⟩
theorem tk {P:Program}{md:Region.Mode}{ops:Array Oper}{Q:Exit->Act->World->Prop}{S:World->Prop}{fuel:Nat}{listed:Array Bool}{a:Act}{w:World}(i:Nat){v:Value}{oi:Oper}{l':Array Bool}{a':Act}(hS:S w)(h:wpAnyH P md ops Q S fuel l' a' w)(hi:ops.toList[i]?=some oi:=by rfl)(hs:Region.noSelect ops=true:=by kernel_rfl)(hf:Region.free md ops listed i=true:=by kernel_rfl)(hr:(Region.ready md ops listed).contains i=true:=by kernel_rfl)(hQ:∀ c a w,Q (.panic c) (a.put oi.dst v) w->Q (.panic c) a w:=by exact λ_ _ _ h=>h)(hw:Region.wanted oi (yielded ops a.tmps)=true:=by rfl)(hv:∀ w,S w->(execOp a.eval oi).run P w=.ok (.value v) w:=by (intro w hSw;(try dsimp only at hSw);go_split_ands;go_simp;(try with_reducible rfl)))(hl:listed.setIfInBounds i true=l':=by ((try simp only[sT]);exact rfl))(ha:a.put oi.dst v=a':=by ((try simp only[Act.put,sT]);exact rfl)):wpAnyH P md ops Q S (fuel+1) listed a w:=
 any_take i v hi hs hf hr hQ hw hv hS (by rw[hl,ha];exact h)
theorem tq {P:Program}{md:Region.Mode}{ops:Array Oper}{Q:Exit->Act->World->Prop}{S:World->Prop}{fuel:Nat}{listed:Array Bool}{a:Act}{w:World}(i:Nat){oi:Oper}{l':Array Bool}{a':Act}(hS:S w)(h:wpAnyH P md ops Q S fuel l' a' w)(hi:ops.toList[i]?=some oi:=by rfl)(hs:Region.noSelect ops=true:=by kernel_rfl)(hf:Region.free md ops listed i=true:=by kernel_rfl)(hr:(Region.ready md ops listed).contains i=true:=by kernel_rfl)(hQ:∀ c a w,Q (.panic c) (a.put oi.dst undef) w->Q (.panic c) a w:=by exact λ_ _ _ h=>h)(hw:Region.wanted oi (yielded ops a.tmps)=false:=by rfl)(hl:listed.setIfInBounds i true=l':=by ((try simp only[sT]);exact rfl))(ha:a.put oi.dst undef=a':=by ((try simp only[Act.put,sT]);exact rfl)):wpAnyH P md ops Q S (fuel+1) listed a w:=
 any_skip i hi hs hf hr hQ hw hS (by rw[hl,ha];exact h)
theorem any_one {P:Program}{md:Region.Mode}{ops:Array Oper}{Q:Exit->Act->World->Prop}{S:World->Prop}{fuel:Nat}{listed:Array Bool}{a:Act}{w:World}(i:Nat){oi:Oper}(hi:ops.toList[i]?=some oi)(hr:Region.ready md ops listed=[i])(hw:Region.wanted oi (yielded ops a.tmps)=true)(h:∀ K':Act->World->Prop,Shut (∀ a w,S w->(S w->wpAnyH P md ops Q S fuel (listed.setIfInBounds i true) a w)->K' a w)->Oper.wp P oi a w K' Q):wpAnyH P md ops Q S (fuel+1) listed a w:=
 wpAnyH_ready hr (by simp) (AllReadyH.cons (by simpa using hi) (λK' hK=>by rw[if_pos hw];exact h K' hK) AllReadyH.nil)
theorem any_two {P:Program}{md:Region.Mode}{ops:Array Oper}{Q:Exit->Act->World->Prop}{S:World->Prop}{fuel:Nat}{listed:Array Bool}{a:Act}{w:World}(i j:Nat){oi oj:Oper}(hi:ops.toList[i]?=some oi)(hj:ops.toList[j]?=some oj)(hr:Region.ready md ops listed=[i,j])(hwi:Region.wanted oi (yielded ops a.tmps)=true)(hwj:Region.wanted oj (yielded ops a.tmps)=true)(h1:∀ K':Act->World->Prop,Shut (∀ a w,S w->(S w->wpAnyH P md ops Q S fuel (listed.setIfInBounds i true) a w)->K' a w)->Oper.wp P oi a w K' Q)(h2:∀ K':Act->World->Prop,Shut (∀ a w,S w->(S w->wpAnyH P md ops Q S fuel (listed.setIfInBounds j true) a w)->K' a w)->Oper.wp P oj a w K' Q):wpAnyH P md ops Q S (fuel+1) listed a w:=
 wpAnyH_ready hr (by simp) (AllReadyH.cons (by simpa using hi) (λK' hK=>by rw[if_pos hwi];exact h1 K' hK) (AllReadyH.cons (by simpa using hj) (λK' hK=>by rw[if_pos hwj];exact h2 K' hK) AllReadyH.nil))
structure Rowss (w:World)(a:Option Addr)(cap:Nat)(L:List (List UInt8)):Prop where
 fits:L.length<=cap
 room:cap<=maxLen
 at':∀ (r:Nat) (bs:List UInt8),L[r]?=some bs->∃ b off,a=some ⟨b,off,none⟩/\∃ x cx,w.cell? ⟨b,off+r,none⟩=some (.slice x bs.length cx)/\Sees w x cx bs
theorem wpList_copy_run {P:Program}{w w':World}{ops:Array Oper}{rest:List Oper}{o:Oper}{a:Act}{Q:Exit->Act->World->Prop}(hgd:o.guard=none)(s x:Operand)(t:TypeId)(ho:o.op=.call { callee:=.builtin .copy,args:=#[s,x],argTypes:=#[t,t] })(v u r:Value)(hs:a.eval s=v)(hx:a.eval x=u)(hrun:(Builtin.copy_ #[t,t] o.type #[v,u]).run P w=.ok r w')(h:wpList P ops Q rest (a.put o.dst r) w'):wpList P ops Q (o::rest) a w:=by
 refine wpList_plain hgd λK hK=>?_
 unfold Oper.wp
 simp[execOp,ho,resolve,invoke,builtin,hs,hx,hrun,Result.andThen]
 exact hK _ _ h
theorem Sees.tail {w:World}{b o cap:Nat}{l:List UInt8}(h:Sees w (some ⟨b,o,none⟩) cap l)(q:Nat)(hq:q<=l.length):Sees w (some ⟨b,o+q,none⟩) (cap-q) (l.drop q):=by
 refine⟨by rw[List.length_drop];have:=h.fits;omega,by have:=h.room;omega,(λh0=>by cases h0),λhne=>⟨b,o+q,rfl,λi x hx=>?_⟩⟩
 rw[List.getElem?_drop] at hx
 obtain⟨b1,o1,he,hc⟩:=h.get hx
 simp only[Option.some.injEq,Addr.mk.injEq,and_true] at he
 obtain⟨rfl,rfl⟩:=he
 rw[Nat.add_assoc];exact hc
theorem copy_row (w:World)(g o m dc:Nat)(cur:Array Value)(hg:w.heap[g]?=some (.cells cur 5 (0,0)))(hm:o+m<=cur.size)(a:Option Addr)(ca:Nat)(l:List UInt8)(ha:Sees w a ca l)(k:Nat)(hk:k=min l.length m):
  ∃ w', (Builtin.copy_ #[22, 22] 3 #[.slice (some ⟨g, o, none⟩) m dc, .slice a l.length ca]).run Tryz.prog w = .ok (.int .i64 (k : Int)) w' ∧
    w'.heap[g]? = some (.cells (cur.toList.take o ++ (l.take k).map cellOf ++ cur.toList.drop (o + k)).toArray 5 (0, 0)) ∧ Apart (fun i => i = g) w w' ∧ w'.heap.size = w.heap.size := by
 by_cases h0:k=0
 ·subst h0
  refine⟨w,run_copy_none (P:=Tryz.prog) w 22 22 3 5 _ _ m dc l.length ca Tryz.underlying22 (by kernel_rfl) hk.symm,?_,Apart.refl _ _,rfl⟩
  rw[hg];simp
 ·obtain⟨b,off,rfl,_⟩:=ha.at' (by rintro rfl;simp at hk;omega)
  have hlen:((l.take k).map cellOf).length=k:=by simp;omega
  have h1:=run_copy_row Tryz.prog w 22 22 3 5 g o m dc ⟨b,off,none⟩ l.length ca cur 5 ((l.take k).map cellOf) Tryz.underlying22 (by kernel_rfl) hg (by rw[hlen];exact hk) ((ha.take k).news _ rfl) (by rw[hlen];omega) (bytes_oneCell _)
  rw[hlen] at h1
  exact⟨_,h1,setRow_heap w g _ _ 5 _ hg,⟨rfl,rfl,rfl,by simp[World.setRow],λi hi hn=>by simp[World.setRow,Array.getElem?_modify,Ne.symm hn]⟩,by simp[World.setRow]⟩
theorem copy_nil (w:World)(d:Option Addr)(dc:Nat)(a:Option Addr)(ca n:Nat):(Builtin.copy_ #[22,22] 3 #[.slice d 0 dc,.slice a n ca]).run Tryz.prog w=.ok (.int .i64 0) w:=
 run_copy_none (P:=Tryz.prog) w 22 22 3 5 _ _ 0 dc n ca Tryz.underlying22 (by kernel_rfl) (by simp)
open Go.RowKit
def Turned (B:Nat)(W W':World):Prop:=∃ l r r',B<=l/\W.heap[l]?=some (.loop r)/\W'=W.putObj l (.loop r')
theorem Turned.block {B:Nat}{W W':World}(h:Turned B W W'){k:Nat}{o:Obj}(hk:W.heap[k]?=some o)(ho:o.isCells=true):W'.heap[k]?=some o:=by
 obtain⟨l,r,r',_,hl,rfl⟩:=h
 rw[World.putObj_heap_other,hk]
 rintro rfl
 rw[hl] at hk
 cases hk
 cases ho
theorem Turned.cell {B:Nat}{W W':World}(h:Turned B W W'){a:Addr}{v:Value}(hv:W.cell? a=some v):W'.cell? a=some v:=by
 obtain⟨o,ho,hc⟩:=cells_of_cell hv
 have:=h.block ho hc
 unfold World.cell? at hv ⊢
 rw[ho] at hv
 rw[this]
 exact hv
theorem Turned.below {B n:Nat}{w W W':World}(h:Turned B W W')(hb:Below n w W)(hn:n<=B):Below n w W':=by
 obtain⟨l,r,r',hl,hh,rfl⟩:=h
 exact⟨hb.os,hb.tape,hb.output,by simpa using hb.size,λk hk=>by rw[World.putObj_heap_other (by omega)];exact hb.block k hk⟩
theorem Turned.sees {B:Nat}{W W':World}(h:Turned B W W'){a:Option Addr}{cap:Nat}{bs:List UInt8}(hs:Sees W a cap bs):Sees W' a cap bs:=
 ⟨hs.fits, hs.room, hs.bare, fun hne => by
   obtain ⟨b, off, ha, hc⟩ := hs.at' hne
   exact ⟨b, off, ha, fun i x hx => h.cell (hc i x hx)⟩⟩
theorem Turned.owns {B base e s n:Nat}{W W':World}{v:Value}{xs:List Value}(h:Turned B W W')(ho:W.ownsRow base e s v n xs):W'.ownsRow base e s v n xs:=by
 refine⟨ho.1,?_⟩
 rcases ho.2 with h0|⟨g,cap,cur,rfl,hlow,hg,h4⟩
 ·exact .inl h0
 ·exact .inr ⟨g,cap,cur,rfl,hlow,h.block hg rfl,h4⟩
theorem Turned.boxed {B b:Nat}{t:TypeId}{v:Value}{W W':World}(h:Turned B W W')(hb:Boxed W b t v):Boxed W' b t v:=h.block hb rfl
def roundEnds {σ:Type}(B:Nat)(I:σ->World->Prop)(Ix:Code->σ->World->Prop)(s:σ)(W:World):Exit->Act->World->Prop
 | .normal,_,W'=>KeepsFrom B W W'/\I s W'
 | .ret,_,W'=>KeepsFrom B W W'/\Ix .ret s W'
 | .exit id,_,W'=>KeepsFrom B W W'/\Ix (.exit id) s W'
 | .goto t,_,W'=>KeepsFrom B W W'/\Ix (.goto t) s W'
 | .panic _,_,_=>False
 | .outgrown,_,_=>False
theorem Below.keepsFrom {W W':World}(h:Below W.heap.size W W')(B:Nat):KeepsFrom B W W':=
 ⟨h.size,λk o _ hk _=>by rw[h.block k (Array.getElem?_eq_some_iff.1 hk).1];exact hk⟩
theorem range_pre {σ α:Type}{n:Nat}{P:Program}{g:Operand}{ps:Array Tmp}{assign body:Code}{Q:Exit->Act->World->Prop}{a:Act}{w:World}(gf:Nat)(lb:Array Value)(hg:a.eval g=.func (.func gf) #[] lb)(eg:∀ args w,(callFunc gf args).run P w=.ok (.enter gf args) w)(encs:α->Array Value)(hps:∀ x,(encs x).size=ps.size)(I:σ->World->Prop)(Pr:σ->α->World->Prop)(nx:σ->α->σ)(Ix:Code->σ->World->Prop)(Done:σ->Prop)(fI:∀ s W W',I s W->Turned w.heap.size W W'->I s W')(fP:∀ s x W W',Pr s x W->Turned w.heap.size W W'->Pr s x W')(fX:∀ c s W W',Ix c s W->Turned w.heap.size W W'->Ix c s W')(a₁:α->Act)(hassign : ∀ (l : Nat) (x : α) (W : World) (K : Act → World → Prop), K (a₁ x) W →
    assign.wpIn (Fence.wide.inRound l) (n - 1 - 1) P (Exit.then K (fun _ _ _ => False)) { tmps := (ps.zip (encs x)).foldl (fun t (p, v) => t.setIfInBounds p v) a.tmps, defers := [] } W)(hbody:∀ (l:Nat) (s:σ) (x:α) (W:World),Pr s x W->body.wpIn (Fence.wide.inRound l) (n-1-1) P (roundEnds w.heap.size I Ix (nx s x) W) (a₁ x) W)(hiter : ∀ (l : Nat) (W1 : World), Below w.heap.size w W1 → W1.heap.size = w.heap.size + 2 → l < W1.heap.size →
    ∀ (Bk Bx : World → Prop), (∀ W W', Bk W → Below W.heap.size W W' → Bk W') →
      (∀ s x W, Bk W → Pr s x W → YieldAt Fence.wide (n - 1 - 1) P l (encs x) W fun e W' => (e = .returned (.bool true) ∧ Bk W' ∧ I (nx s x) W') ∨ (e = .returned (.bool false) ∧ Bx W')) → (∀ W W', Bx W → Below W.heap.size W W' → Bx W') → Bk W1 →
    CallsIn Fence.wide (n - 1) P gf (#[.func (.yield l) #[] #[]] ++ lb) W1 fun e W' => (∃ v, e = .returned v) ∧ ((∃ s, Done s ∧ Bk W' ∧ I s W') ∨ Bx W'))(hkeepX:∀ c s W W',Ix c s W->Below W.heap.size W W'->Ix c s W')(hdone:∀ (D:Nat) (s:σ) (W:World),w.heap.size<=D->Done s->I s W->W.heap[D]?=some (.deferred (some []))->Q .normal { a with defers:={ target:=.collected D,args:=#[] }::a.defers } W)(hstop:∀ (D:Nat) (c:Code) (s:σ) (W:World),w.heap.size<=D->Ix c s W->W.heap[D]?=some (.deferred (some []))->c.wpIn Fence.wide n P Q { a with defers:={ target:=.collected D,args:=#[] }::a.defers } W):
  (Code.rangeFunc g ps assign body).wpIn Fence.wide n P Q a w:=by
 refine wpIn_rangeFunc λfn hfn=>?_
 obtain⟨rec,hrec⟩:∃ rec:LoopState->Option Code->Loop,rec=λst pe=>{ state:=st,pending:=pe,fn,tmps:=a.tmps,params:=ps,assign,body,defers:=w.heap.size }:=⟨_,rfl⟩
 obtain⟨W1,hW1⟩:∃ W1,W1=(w.alloc (.deferred (some []))).alloc (.loop (rec .ready none)):=⟨_,rfl⟩
 have hsz:W1.heap.size=w.heap.size+2:=by rw[hW1];simp
 have hB1:Below w.heap.size w W1:=by rw[hW1];exact((Below.refl _ _).alloc (Nat.le_refl _) _).alloc (by simp) _
 have hrun:=run_enterLoop_outer (P:=P) (w:=w) fn a.tmps ps assign body
 have hrec0:rec .ready none={ state:=.ready,pending:=none,fn,tmps:=a.tmps,params:=ps,assign,body,defers:=w.heap.size }:=by rw[hrec]
 rw[<-hrec0,<-hW1] at hrun
 have hL:W1.heap[w.heap.size+1]?=some (.loop (rec .ready none)):=by
  have h1:=World.alloc_heap_new (w.alloc (.deferred (some []))) (.loop (rec .ready none))
  rw[World.size_alloc] at h1
  rw[hW1];exact h1
 have hD:W1.heap[w.heap.size]?=some (.deferred (some [])):=by
  rw[hW1];exact(Below.heap_alloc _ _ _ (by simp)).trans (World.alloc_heap_new w _)
 refine⟨w.heap.size+1,_,W1,{ target:=.fn (.func gf) lb,args:=#[.func (.yield (w.heap.size+1)) #[] #[]] },W1,gf,#[.func (.yield (w.heap.size+1)) #[] #[]]++lb,W1,hrun,?_,λ_ _=>trivial,?_,(λh=>by cases h),?_⟩
 ·simp only[resolve,hg];simp[go_sem]
 ·simp[invoke,go_sem,eg]
 have keepB:∀ (st:LoopState) (pe:Option Code) (W W':World),W.heap[w.heap.size+1]?=some (.loop (rec st pe))/\W.heap[w.heap.size]?=some (.deferred (some []))->Below W.heap.size W W' ->
   W'.heap[w.heap.size+1]?=some (.loop (rec st pe))/\W'.heap[w.heap.size]?=some (.deferred (some [])):=λst pe W W' h hb=>
  ⟨by rw[hb.block _ (Array.getElem?_eq_some_iff.1 h.1).1];exact h.1,by rw[hb.block _ (Array.getElem?_eq_some_iff.1 h.2).1];exact h.2⟩
 have hcall:=hiter (w.heap.size+1) W1 hB1 hsz (by omega)
  (λW=>W.heap[w.heap.size+1]?=some (.loop (rec .ready none))/\W.heap[w.heap.size]?=some (.deferred (some [])))
  (λW=>∃ c s,Ix c s W/\W.heap[w.heap.size+1]?=some (.loop (rec .done (some c)))/\W.heap[w.heap.size]?=some (.deferred (some [])))
  (keepB .ready none) ?round (λW W' ⟨c,s,hx,hbk⟩ hb=>⟨c,s,hkeepX c s W W' hx hb,keepB _ _ W W' hbk hb⟩) ⟨hL,hD⟩
 case round=>
  rintro s x W ⟨hl,hd⟩ hp
  have hlt:w.heap.size+1<W.heap.size:=(Array.getElem?_eq_some_iff.1 hl).1
  have hy:=run_yield (P:=P) (args:=encs x) hl (by rw[hrec];exact hps x)
  rw[hrec] at hy
  refine⟨fn,_,assign,body,hy,roundIn_of_wpIn hfn (hassign _ x W _ ⟨_,run_beginRound hl (by rw[hrec]),?_⟩)⟩
  obtain⟨W2,hW2⟩:∃ W2,W2=W.putObj (w.heap.size+1) (.loop { rec .ready none with state:=.busy }):=⟨_,rfl⟩
  rw[<-hW2]
  have hl2:W2.heap[w.heap.size+1]?=some (.loop { rec .ready none with state:=.busy }):=by rw[hW2];exact World.putObj_heap_same hlt
  have hd2:W2.heap[w.heap.size]?=some (.deferred (some [])):=by rw[hW2,World.putObj_heap_other (by omega)];exact hd
  have ht:Turned w.heap.size W W2:=⟨_,_,_,by omega,hl,hW2⟩
  refine wpIn_mono (hbody _ s x W2 (fP s x W W2 hp ht)) ?_
  have ends:∀ (jump:Option Code) (W3:World),KeepsFrom w.heap.size W2 W3->∃ W4,(Instr.endRound (w.heap.size+1) jump).run P W3=.ok (.bool jump.isNone) W4/\Turned w.heap.size W3 W4 /\
    W4.heap[w.heap.size+1]?=some (.loop (rec (if jump.isNone then .ready else .done) jump))/\W4.heap[w.heap.size]?=some (.deferred (some [])):=λjump W3 hk=>by
   have hl3:=hk.same _ _ (by omega) hl2 rfl
   have hd3:=hk.same _ _ (Nat.le_refl _) hd2 rfl
   have hrun:=run_endRound (P:=P) jump hl3
   refine⟨_,hrun,⟨_,_,_,by omega,hl3,rfl⟩,?_,?_⟩
   ·rw[World.putObj_heap_same (Array.getElem?_eq_some_iff.1 hl3).1,hrec]
   ·rw[World.putObj_heap_other (by omega)];exact hd3
  intro e a3 W3 hp3
  cases e with
  | normal =>
    obtain ⟨hk, hi⟩ := hp3
    obtain ⟨W4, hr, ht4, hl4, hd4⟩ := ends none W3 hk
    exact ⟨_, W4, hr, .inl ⟨rfl, ⟨hl4, hd4⟩, fI _ _ _ hi ht4⟩⟩
  | ret =>
    obtain ⟨hk, hi⟩ := hp3
    obtain ⟨W4, hr, ht4, hl4, hd4⟩ := ends (some .ret) W3 hk
    exact ⟨_, W4, hr, .inr ⟨rfl, .ret, _, fX _ _ _ _ hi ht4, hl4, hd4⟩⟩
  | exit id =>
    obtain ⟨hk, hi⟩ := hp3
    obtain ⟨W4, hr, ht4, hl4, hd4⟩ := ends (some (.exit id)) W3 hk
    exact ⟨_, W4, hr, .inr ⟨rfl, .exit id, _, fX _ _ _ _ hi ht4, hl4, hd4⟩⟩
  | goto t =>
    obtain ⟨hk, hi⟩ := hp3
    obtain ⟨W4, hr, ht4, hl4, hd4⟩ := ends (some (.goto t)) W3 hk
    exact ⟨_, W4, hr, .inr ⟨rfl, .goto t, _, fX _ _ _ _ hi ht4, hl4, hd4⟩⟩
  | panic _=>exact hp3.elim
  | outgrown=>exact hp3.elim
 refine hcall.mono ?_
 rintro e W2 ⟨⟨v,rfl⟩,⟨s,hds,⟨hl,hd⟩,hi⟩|⟨c,s,hx,hl,hd⟩⟩
 ·have hr:=run_endLoop (P:=P) hl (by rw[hrec];simp)
  refine⟨_,_,hr,?_⟩
  have hpe:(rec .ready none).pending=none:=by rw[hrec]
  rw[hpe]
  exact hdone w.heap.size s _ (Nat.le_refl _) hds (fI _ _ _ hi ⟨_,_,_,by omega,hl,rfl⟩) (by rw[World.putObj_heap_other (by omega)];exact hd)
 ·have hr:=run_endLoop (P:=P) hl (by rw[hrec];simp)
  refine⟨_,_,hr,?_⟩
  have hpe:(rec .done (some c)).pending=some c:=by rw[hrec]
  rw[hpe]
  exact hstop w.heap.size c s _ (Nat.le_refl _) (fX _ _ _ _ hx ⟨_,_,_,by omega,hl,rfl⟩) (by rw[World.putObj_heap_other (by omega)];exact hd)
theorem Boxed.below {W W':World}{b:Nat}{t:TypeId}{v:Value}(h:Boxed W b t v)(hb:Below W.heap.size W W'):Boxed W' b t v:=by
 unfold Boxed;rw[hb.block b h.lt];exact h
end Go.Proofs.YthogohkieiogiaaGreatDoor
