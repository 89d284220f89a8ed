/-
  The contract of slices.Delete, of one that waits.
  The contract of slices.Reverse, of a list of bytes.
  The contract of uncount.
-/
import Derived.Test.YthogohkieiogiaaGreatDoorBufA
namespace Go.Proofs.YthogohkieiogiaaGreatDoor
set_option maxRecDepth 20000
set_option maxHeartbeats 1600000
open Go.ChangeShapes Go.WideShapes Go.ChangeAt Go.RowKit
def zerosL:List Value:=[.int .i64 0,.int .i64 0,.slice none 0 0]
theorem clear_one (w:World)(q off n c:Nat)(cur:Array Value)(hq:w.heap[q]?=some (.cells cur 201 (0,0)))(ho:off+3<=cur.size)(ty:TypeId)(hn:n=1):
  (Builtin.clear_ #[120] ty #[.slice (some ⟨q,off,none⟩) n c]).run Tryz.prog w=.ok (.tuple #[]) (w.setRow q (cur.toList.take off++zerosL++cur.toList.drop (off+3)).toArray):=by
 subst hn
 have hz:(Builtin.zeroCells (Value.agg #[.int .i64 0,.int .i64 0,.slice none 0 0]).cells 1).toList=zerosL:=by kernel_rfl
 have hst:=run_storeCells_at Tryz.prog q off 201 zerosL 0 cur w hq (by simpa [zerosL] using ho) (by intro u hu;simp only[zerosL,List.mem_cons,List.not_mem_nil,or_false] at hu;rcases hu with rfl|rfl|rfl<;>rfl)
 simp only[Nat.add_zero] at hst
 simp[Builtin.clear_,hz,hst]
 rfl
theorem Row.cutout {w:World}{q cap:Nat}{xs:List BSl}(h:Row E57 w (.slice (some ⟨q,0,none⟩) xs.length cap) xs)(j:Nat)(hj:j<xs.length)(A:Addr)(hA:j+1<xs.length->A=⟨q,(j+1)*3,none⟩):
  ∃ w1 w2, (Builtin.append_ #[120, 120] 120 #[.slice (some ⟨q, 0, none⟩) j cap, .slice (some A) (xs.length - (j + 1)) (cap - (j + 1))]).run Tryz.prog w = .ok (.slice (some ⟨q, 0, none⟩) (xs.length - 1) cap) w1 ∧
    (∀ ty n c, n = 1 → (Builtin.clear_ #[120] ty #[.slice (some ⟨q, (xs.length - 1) * 3, none⟩) n c]).run Tryz.prog w1 = .ok (.tuple #[]) w2) ∧
    Row E57 w2 (.slice (some ⟨q, 0, none⟩) (xs.length - 1) cap) (xs.eraseIdx j) ∧ Apart (fun k => k = q) w w2 := by
 obtain⟨i,hi,hz0,hz1,hz2⟩:=info_parts E57.hi
 rcases h with ⟨e,_⟩|⟨q',cap',cur,e,h1,h2,h3,h4,h5,h6⟩
 ·cases e
 cases e
 have he:xs.eraseIdx j=xs.take j++xs.drop (j+1):=List.eraseIdx_eq_take_drop_succ xs j
 have hn3:E57.n=3:=rfl
 have hz1':i.size=3:=hz1
 rw[hn3] at h4 h5
 have hcl:(E57.cs (xs.drop (j+1))).length=(xs.length-(j+1))*3:=by rw[E57.cs_len,List.length_drop];rfl
 have hnews:∀ t u,(E57.cs (xs.drop (j+1)))[t]?=some u->w.cell? (A.add t)=some u:=by
  intro t u hu
  have ht:=(List.getElem?_eq_some_iff.1 hu).1
  rw[hcl] at ht
  rw[hA (by omega),Addr.add_lit,cell_of_row w q _ _ _ _ h1,<-Array.getElem?_toList]
  rw[<-E57.cs_drop xs (j+1) (by omega),<-h5,hn3,List.getElem?_drop,List.getElem?_take] at hu
  split at hu
  ·exact hu
  ·cases hu
 have hrun:=run_append_room (P:=Tryz.prog) w 120 120 201 i E57.hu hi q j cap cur h1 A (xs.length-(j+1)) (cap-(j+1)) (E57.cs (xs.drop (j+1))) (by rw[hz1'];exact hcl) hnews (E57.cs_one _) (by omega) (by rw[hz1',hcl];omega)
 rw[hz1',hcl,show j+(xs.length-(j+1))=xs.length-1 by omega] at hrun
 have htk:cur.toList.take (j*3)=E57.cs (xs.take j):=by
  have:=E57.cs_take xs j (by omega)
  rw[<-this,<-h5,hn3,List.take_take,Nat.min_eq_left (by omega)]
 rw[htk,<-E57.cs_append,<-he] at hrun
 have hel:(xs.eraseIdx j).length=xs.length-1:=by rw[List.length_eraseIdx,if_pos hj]
 have hecl:(E57.cs (xs.eraseIdx j)).length=(xs.length-1)*3:=by rw[E57.cs_len,hel];rfl
 have hrow:=setRow_heap w q cur (E57.cs (xs.eraseIdx j)++cur.toList.drop (j*3+(xs.length-(j+1))*3)).toArray 201 (0,0) h1
 obtain⟨cur1,hcur1⟩:∃ cur1,cur1=(E57.cs (xs.eraseIdx j)++cur.toList.drop (j*3+(xs.length-(j+1))*3)).toArray:=⟨_,rfl⟩
 rw[<-hcur1] at hrow hrun
 have hs1:cur1.size=cur.size:=by rw[hcur1];simp[hecl];omega
 have ht1:cur1.toList.take ((xs.length-1)*3)=E57.cs (xs.eraseIdx j):=by rw[hcur1];simp only[];rw[<-hecl,List.take_left]
 have hno1:NoByte cur1:=by
  intro u hu
  rw[hcur1] at hu
  simp only[List.mem_append] at hu
  rcases hu with hu|hu
  ·exact E57.cs_nob _ u hu
  ·exact h6 u (List.mem_of_mem_drop hu)
 refine⟨_,_,hrun,λty n c hn=>clear_one _ q ((xs.length-1)*3) n c cur1 hrow (by rw[hs1];omega) ty hn,.inr ⟨q,cap,_,by rw[hel],setRow_heap _ q cur1 _ 201 (0,0) hrow,by rw[hel];omega,h3,?_,?_,?_⟩,?_⟩
 ·rw[hn3];simp[zerosL];omega
 ·rw[hel,hn3,List.append_assoc]
  simp only[]
  rw[ht1,<-hecl,List.take_left]
 ·intro u hu
  simp only[zerosL,List.mem_append,List.mem_cons,List.not_mem_nil,or_false] at hu
  rcases hu with (hu|hu)|hu
  ·exact hno1 u (List.mem_of_mem_take hu)
  ·intro k y
   rcases hu with rfl|rfl|rfl<;>intro e<;>cases e<;>rfl
  ·exact hno1 u (List.mem_of_mem_drop hu)
 ·refine⟨rfl,rfl,rfl,by simp,λk _ hk=>?_⟩
  rw[setRow_other _ q k _ hk,setRow_other _ q k _ hk]
theorem delete_ok (w:World)(q cap j:Nat)(xs:List BSl)(h:Row E57 w (.slice (some ⟨q,0,none⟩) xs.length cap) xs)(hj:j<xs.length)(hl:xs.length<=1000):
  Calls Tryz.prog 159 #[.slice (some ⟨q,0,none⟩) xs.length cap,.int .i64 (j:Int),.int .i64 ((j+1:Nat):Int)] w λe w'=>e=.returned (.slice (some ⟨q,0,none⟩) (xs.length-1) cap) /\
   Row E57 w' (.slice (some ⟨q,0,none⟩) (xs.length-1) cap) (xs.eraseIdx j)/\Apart (λk=>k=q) w w':=by
 obtain⟨a',c',e,hcap,hmax,_⟩:=h.shape
 cases e
 have hcm:cap<=9223372036854775807:=by unfold maxLen at hmax;omega
 obtain⟨A,hA,hA2⟩:∃ A:Addr,(if cap=j+1 then some (⟨q,0,none⟩:Addr) else some ⟨q,(j+1)*3,none⟩)=some A/\(j+1<xs.length->A=⟨q,(j+1)*3,none⟩):=by
  by_cases h:cap=j+1
  ·exact⟨⟨q,0,none⟩,by simp[h],λ_=>by omega⟩
  ·exact⟨⟨q,(j+1)*3,none⟩,by simp[h],λ_=>rfl⟩
 obtain⟨w1,w2,hrun,hcl,hR,hap⟩:=(h.keep (w':=w.drew) λ_ _=>rfl).cutout j hj A hA2
 have HR:Hid ((Builtin.append_ #[120,120] 120 #[.slice (some ⟨q,0,none⟩) j cap,.slice (some A) (xs.length-(j+1)) (cap-(j+1))]).run Tryz.prog w.drew=.ok (.slice (some ⟨q,0,none⟩) (xs.length-1) cap) w1):=hrun
 have HC:Hid (∀ ty n c,n=1->(Builtin.clear_ #[120] ty #[.slice (some ⟨q,(xs.length-1)*3,none⟩) n c]).run Tryz.prog w1=.ok (.tuple #[]) w2):=hcl
 have HE:Hid (Row E57 w2 (.slice (some ⟨q,0,none⟩) (xs.length-1) cap) (xs.eraseIdx j)/\Apart (λk=>k=q) w w2):=⟨hR,(Apart.refl _ w).drew.trans hap λi hi=>.inl hi⟩
 obtain⟨L,hL⟩:∃ L,L=xs.length:=⟨_,rfl⟩
 obtain⟨J,hJ⟩:∃ J,J=j+1:=⟨_,rfl⟩
 rw[<-hL] at hj hl hcap HR HC HE ⊢
 rw[<-hJ] at hA HR ⊢
 have HA:Hid ((if cap=J then some (⟨q,0,none⟩:Addr) else some ⟨q,J*3,none⟩)=some A):=hA
 have h1:j<=cap:=by omega
 have h2:J<=cap:=by omega
 have h3:j<=J:=by omega
 have h4:J<=L:=by omega
 have h5:j≠J:=by omega
 have h6:L<=cap:=hcap
 obtain⟨M,hM⟩:∃ M,M=L-1:=⟨_,rfl⟩
 rw[<-hM] at HR HC HE ⊢
 have H7:Hid (L-M=1):=by show L-M=1;omega
 have h8:M<=L:=by omega
 have h9:M<=cap:=by omega
 have h10:cap≠M:=by omega
 clear h hrun hcl hR hap hA2 hmax hL HA hj hJ hcap hM
 go_enter Tryz.func159,Tryz.ntmps159
 go_wp2_with fail
 go_region_law (refine step_append_run (by kernel_rfl) (.tmp 22) (.tmp 25) 120 (by kernel_rfl) (.slice (some ⟨q,0,none⟩) j cap) (.slice (some A) (L-J) (cap-J)) _ (by simp[Act.eval,Act.put]) (by simp[Act.eval,Act.put]) HR.out ?_)
 have hc0:=HC.out 0 (L-M) (cap-M) H7.out
 go_wp2
 go_ret
 exact⟨rfl,HE.out⟩
theorem Row.set22 {w:World}{q cap len:Nat}{xs:List Bl}(h:Row E22 w (.slice (some ⟨q,0,none⟩) len cap) xs)(t:Nat)(_ht:t<xs.length)(x:Bl):Row E22 (w.setCell ⟨q,t,none⟩ (.slice x.2.1 x.1.length x.2.2)) (.slice (some ⟨q,0,none⟩) len cap) (xs.set t x):=by
 rcases h with ⟨e,_⟩|⟨q',cap',cur,e,h1,h2,h3,h4,h5,h6⟩
 ·cases e
 cases e
 have hn1:E22.n=1:=rfl
 rw[hn1,Nat.mul_one] at h4 h5
 have hcs:∀ l:List Bl,E22.cs l=l.map λs=>Value.slice s.2.1 s.1.length s.2.2:=by
  intro l
  induction l with
  | nil=>rfl
  | cons y l ih=>rw[E22.cs_cons,ih];rfl
 have hh:=heap_setCell_same w q t cur E22.T (.slice x.2.1 x.1.length x.2.2) h1
 refine .inr ⟨q,cap,_,by rw[List.length_set],hh,by rw[List.length_set];exact h2,h3,?_,?_,?_⟩
 ·rw[hn1,Nat.mul_one];simpa using h4
 ·rw[hn1,Nat.mul_one,List.length_set,hcs,Array.toList_setIfInBounds,List.take_set,h5,hcs,List.map_set]
 ·intro u hu
  rw[Array.toList_setIfInBounds] at hu
  rcases List.mem_or_eq_of_mem_set hu with hu|rfl
  ·exact h6 u hu
  ·intro k y e;cases e
def Swapped {α:Type}(xs ys:List α)(i:Nat):Prop:=ys.length=xs.length/\∀ t,t<xs.length->ys[t]?=if t<i\/xs.length-1-t<i then xs[xs.length-1-t]? else xs[t]?
theorem Swapped.zero {α:Type}(xs:List α):Swapped xs xs 0:=⟨rfl,λt _=>by simp⟩
theorem Swapped.step {α:Type}{xs ys:List α}{i j:Nat}(h:Swapped xs ys i)(hij:i<j)(hj:i+j+1=xs.length){a b:α}(ha:ys[i]?=some a)(hb:ys[j]?=some b):Swapped xs ((ys.set i b).set j a) (i+1):=by
 refine⟨by simp[h.1],λt ht=>?_⟩
 have hi':=h.2 i (by omega)
 have hj':=h.2 j (by omega)
 rw[if_neg (by omega)] at hi' hj'
 rw[List.getElem?_set,List.getElem?_set]
 by_cases e1:j=t
 ·subst e1
  rw[if_pos rfl,if_pos (by simp[h.1];omega),if_pos (by omega),show xs.length-1-j=i by omega,<-hi',ha]
 ·rw[if_neg e1]
  by_cases e2:i=t
  ·subst e2
   rw[if_pos rfl,if_pos (by rw[h.1];omega),if_pos (by omega),show xs.length-1-i=j by omega,<-hj',hb]
  ·rw[if_neg e2,h.2 t ht]
   by_cases e3:t<i\/xs.length-1-t<i
   ·rw[if_pos e3,if_pos (by omega)]
   ·rw[if_neg e3,if_neg (by omega)]
theorem Swapped.done {α:Type}{xs ys:List α}{i:Nat}(h:Swapped xs ys i)(hi:xs.length<=2*i+1):ys=xs.reverse:=by
 apply List.ext_getElem?
 intro t
 by_cases ht:t<xs.length
 ·rw[h.2 t ht,List.getElem?_reverse ht]
  by_cases e:t<i\/xs.length-1-t<i
  ·rw[if_pos e]
  ·rw[if_neg e,show xs.length-1-t=t by omega]
 ·rw[List.getElem?_eq_none (by rw[h.1];omega),List.getElem?_eq_none (by simp;omega)]
theorem reverse_ok (w:World)(v:Value)(xs:List Bl)(h:Row E22 w v xs)(hl:xs.length<=1000):
  Calls Tryz.prog 161 #[v] w λe w'=>e=.returned (.tuple #[])/\Row E22 w' v xs.reverse/\Apart (λk=>v.ownBlock=some k) w w':=by
 obtain⟨a,cap,rfl,hcap,hmax,hnil,hq,hcell⟩:=h.shape
 have HS:Hid (Row E22 w (.slice a xs.length cap) xs/\Swapped xs xs 0/\Apart (λk=>(Value.slice a xs.length cap).ownBlock=some k) w w):=⟨h,Swapped.zero xs,Apart.refl _ _⟩
 have HQ:Hid (∀ b,a=some b->∃ q,b=⟨q,0,none⟩):=hq
 have hcm:cap<=9223372036854775807:=by unfold maxLen at hmax;omega
 clear h hcell hnil hmax hq
 obtain⟨N,hN⟩:∃ N,N=xs.length:=⟨_,rfl⟩
 rw[<-hN] at hl hcap HS ⊢
 have HN:Hid (N=xs.length):=hN
 clear hN
 go_enter Tryz.func161,Tryz.ntmps161
 go_wp2
 go_loopw [2,3] (λs2 s3 wr=>∃ (i:Nat) (z:Int) (ys:List Bl),s2=.int .i64 (i:Int)/\s3=.int .i64 z/\z=(N:Int)-1-(i:Int)/\i<=N/\Row E22 wr (.slice a N cap) ys/\Swapped xs ys i/\Apart (λk=>(Value.slice a N cap).ownBlock=some k) w wr) (λs2 _ _=>N-(intOf s2).toNat)
 case atStart=>exact⟨0,(N:Int)-1,xs,rfl,rfl,by omega,Nat.zero_le _,HS.out.1,HS.out.2.1,HS.out.2.2⟩
 case round=>
  obtain⟨i,z,ys,rfl,rfl,hz,hi,hR,hW,hA⟩:=hrel
  clear HS
  have hyl:ys.length=N:=by rw[hW.1,HN.out]
  by_cases hlt:(i:Int)<z
  ·obtain⟨j,rfl⟩:∃ j:Nat,z=(j:Int):=⟨z.toNat,by omega⟩
   have hij:i<j:=by omega
   have hjn:i+j+1=N:=by omega
   obtain⟨x,hx⟩:∃ x,ys[i]?=some x:=⟨ys[i]'(by omega),by rw[List.getElem?_eq_getElem]⟩
   obtain⟨y,hy⟩:∃ y,ys[j]?=some y:=⟨ys[j]'(by omega),by rw[List.getElem?_eq_getElem]⟩
   obtain⟨_,q,rfl,ci⟩:=hR.get hx
   obtain⟨_,q',e,cj⟩:=hR.get hy
   cases e
   have c1:=ci 0 _ rfl
   have c2:=cj 0 _ rfl
   rw[show E22.n=1 from rfl,Nat.mul_one,Nat.add_zero] at c1 c2
   obtain⟨cur,hrow,_⟩:=hR.isRow (k:=q) rfl
   have f1:wr.frozen? ⟨q,i,none⟩=false:=frozen_of_row _ _ i _ _ hrow
   have f2:wr.frozen? ⟨q,j,none⟩=false:=frozen_of_row _ _ j _ _ hrow
   have hR2:=((hR.keep (w':=wr.drew) λ_ _=>rfl).set22 i (by omega) y).set22 j (by rw[List.length_set];omega) x
   have HE:Hid (Row E22 ((wr.drew.setCell ⟨q,i,none⟩ (.slice y.2.1 y.1.length y.2.2)).setCell ⟨q,j,none⟩ (.slice x.2.1 x.1.length x.2.2)) (.slice (some ⟨q,0,none⟩) N cap) ((ys.set i y).set j x)/\Swapped xs ((ys.set i y).set j x) (i+1) /\
    Apart (λk=>(Value.slice (some ⟨q,0,none⟩) N cap).ownBlock=some k) w ((wr.drew.setCell ⟨q,i,none⟩ (.slice y.2.1 y.1.length y.2.2)).setCell ⟨q,j,none⟩ (.slice x.2.1 x.1.length x.2.2))):=
    ⟨hR2,hW.step hij (by rw[<-HN.out];exact hjn) hx hy,(hA.drew.setCell (.inl rfl) i _).setCell (.inl rfl) j _⟩
   obtain⟨lx,hlx⟩:∃ lx,lx=x.1.length:=⟨_,rfl⟩
   obtain⟨ly,hly⟩:∃ ly,ly=y.1.length:=⟨_,rfl⟩
   obtain⟨ax,hax⟩:∃ ax,ax=x.2.1:=⟨_,rfl⟩
   obtain⟨ay,hay⟩:∃ ay,ay=y.2.1:=⟨_,rfl⟩
   obtain⟨kx,hkx⟩:∃ kx,kx=x.2.2:=⟨_,rfl⟩
   obtain⟨ky,hky⟩:∃ ky,ky=y.2.2:=⟨_,rfl⟩
   rw[<-hlx,<-hax,<-hkx] at c1 HE
   rw[<-hly,<-hay,<-hky] at c2 HE
   have g1:(i:Int)<(N:Int):=by omega
   have g2:(j:Int)<(N:Int):=by omega
   have g3:(i:Int)<(j:Int):=by omega
   have g4:i≠j:=by omega
   have e1:IntKind.i64.wrap ((i:Int)+1)=((i+1:Nat):Int):=by rw[IntKind.wrap_i64];omega
   have e2:IntKind.i64.wrap ((j:Int)-1)=(j:Int)-1:=by rw[IntKind.wrap_i64];omega
   have HJ:Hid (i+j+1=N):=hjn
   clear hR hA hW hz hi hyl hx hy ci cj hrow hR2 hlx hly hax hay hkx hky hlt hij hjn hcap hcm
   go_wp2_with fail
   go_region
   go_wp2
   go_roundw
   case rel=>exact⟨i+1,(j:Int)-1,_,by first|rfl|(congr 1;omega),rfl,by have:=HJ.out;omega,by have:=HJ.out;omega,HE.out.1,HE.out.2.1,HE.out.2.2⟩
   case measure=>have:=HJ.out;simp[intOf];omega
  ·have hdone:=hW.done (by rw[<-HN.out];omega)
   subst hdone
   have HE:Hid (Row E22 wr (.slice a N cap) xs.reverse/\Apart (λk=>(Value.slice a N cap).ownBlock=some k) w wr):=⟨hR,hA⟩
   clear hR hA hW hz hi hyl
   go_wp2
   go_end0
   exact⟨rfl,HE.out⟩
theorem step_delete_run {P:Program}{w w':World}{ops:Array Oper}{o:Oper}{a:Act}{K:Act->World->Prop}{Q:Exit->Act->World->Prop}{E:Prop}(hgd:o.guard=none)(s x:Operand)(t u:TypeId)(ho:o.op=.call { callee:=.builtin .delete,args:=#[s,x],argTypes:=#[t,u] })(vs vx r:Value)(hs:a.eval s=vs)(hx:a.eval x=vx)(hrun:(Builtin.delete_ #[t,u] o.type #[vs,vx]).run P w=.ok r w')(h:K (a.put o.dst r) w'):if Region.wanted o (yielded ops a.tmps)=true then Oper.wp P o a w K Q else E:=by
 have hw:Region.wanted o (yielded ops a.tmps)=true:=by simp[Region.wanted,hgd]
 rw[if_pos hw]
 unfold Oper.wp execOp
 simp only[ho,resolve,invoke,builtin,Sem.run_bind,Sem.run_pure,Result.andThen_ok,List.map_toArray,List.map_cons,List.map_nil,hs,hx,hrun]
 exact h
theorem uncount_ok (w:World)(g m n:Nat)(f:Key->Nat)(k:Key)(c3:w.cell? ⟨g,3,none⟩=some (.map (some m)))(h:MapAt w m n f)(hn:n<=100000000)(hk:wfK k)(h1:1<=f k)(h2:f k<=1000000):
  Calls Tryz.prog 160 #[.pointer (some ⟨g,0,none⟩),keyV k] w λe w'=>e=.returned (.tuple #[])/\MapAt w' m (n+1) (λj=>if j=k then f k-1 else f j)/\Apart (λj=>j=m) w w':=by
 obtain⟨W,hW⟩:∃ W,W=w.alloc (.cells #[.int .i64 k.1,.int .i64 k.2] 196):=⟨_,rfl⟩
 have hb:Below w.heap.size w W:=by rw[hW];exact(Below.refl _ _).alloc (Nat.le_refl _) _
 have hgm:g≠m:=by
  rintro rfl
  obtain⟨es,clock,e⟩:=h.isMap
  simp[World.cell?,e] at c3
 have hbm:w.heap.size≠m:=by have:=h.lt;omega
 have hM:MapAt W.drew m n f:=h.keep (hb.block m h.lt)
 have c3W:W.drew.cell? ⟨g,3,none⟩=some (.map (some m)):=by
  show W.cell? ⟨g,3,none⟩=_
  rw[hb.cell (World.block_lt_of_cell? w _ c3)];exact c3
 have r1:W.drew.heap[w.heap.size]?=some (.cells #[.int .i64 k.1,.int .i64 k.2] 196 (0,0)):=by rw[hW];exact heap_alloc_new _ _
 have hmax:(100000000:Nat)<maxLen:=by decide
 obtain⟨v0,st,W1,he,hM1,ha1,hs1,hst⟩:=hM.entry (by omega) hk
 obtain⟨c,hc⟩:∃ c,c=f k-1:=⟨_,rfl⟩
 obtain⟨W3,hs,hM3,ha3,hs3⟩:=hst W1 c (inI_wf (by omega) (by omega)) rfl
 have hl0:=hM.look hk
 have hl1:=hM1.look hk
 have hlt:w.heap.size<W.drew.heap.size:=(Array.getElem?_eq_some_iff.1 r1).1
 have r2:W1.heap[w.heap.size]?=some (.cells #[.int .i64 k.1,.int .i64 k.2] 196 (0,0)):=(ha1.block _ hlt hbm).trans r1
 have r3:W3.heap[w.heap.size]?=some (.cells #[.int .i64 k.1,.int .i64 k.2] 196 (0,0)):=(ha3.block _ (by omega) hbm).trans r2
 have c3W1:=ha1.cell c3W hgm
 have c3W3:=ha3.cell c3W1 hgm
 have x0:=cell_of_row _ _ 0 _ _ _ r1
 have x1:=cell_of_row _ _ 1 _ _ _ r1
 have y0:=cell_of_row _ _ 0 _ _ _ r2
 have y1:=cell_of_row _ _ 1 _ _ _ r2
 have z0:=cell_of_row _ _ 0 _ _ _ r3
 have z1:=cell_of_row _ _ 1 _ _ _ r3
 have e1:IntKind.i64.wrap ((f k:Int)-1)=(c:Int):=by rw[IntKind.wrap_i64];omega
 have hl3:=(hM3.keep (w':=W3.drew) rfl).look hk
 rw[if_pos rfl] at hl3
 obtain⟨W5,hd,hM5,ha5,_⟩:=(hM3.keep (w':=W3.drew.drew) rfl).del hk 0
 have HD:Hid ((Builtin.delete_ #[119,196] 0 #[.map (some m),keyV k]).run Tryz.prog W3.drew.drew=.ok (.tuple #[]) W5):=hd
 have HA5:Hid (Apart (λj=>j=m) w W5):=(((((Apart.of_below hb).drew.trans ha1 λi hi=>.inl hi).trans ha3 λi hi=>.inl hi).drew).drew).trans ha5 λi hi=>.inl hi
 have HM5:Hid (c=0->MapAt W5 m (n+1) (λj=>if j=k then c else f j)):=λe=>hM5.congr λj=>by
  by_cases hj:j=k
  ·rw[if_pos hj,if_pos hj,e]
  ·rw[if_neg hj,if_neg hj]
 have HW:Hid (W=w.alloc (.cells #[.int .i64 k.1,.int .i64 k.2] 196)):=hW
 have HA3:Hid (Apart (λj=>j=m) w W3):=((Apart.of_below hb).drew.trans ha1 λi hi=>.inl hi).trans ha3 λi hi=>.inl hi
 have HM3:Hid (MapAt W3 m (n+1) (λj=>if j=k then c else f j)):=hM3
 rw[<-hc]
 have HC:Hid (c=f k-1):=hc
 clear hc
 simp only[keyV] at he hl0 hl1 hl3 HD ⊢
 clear hd hM5 ha5 hmax h hM hM1 hM3 hst ha1 ha3 hs1 hs3 hb hW c3 r1 r2 r3 hlt hbm hgm
 go_enter Tryz.func160,Tryz.ntmps160
 go_wp2_with fail
 rw[<-HW.out]
 go_region
 clear he hl0 hl1 hs
 by_cases h0:c=0
 ·have g0:((c:Int)=0):=by omega
  go_wp2_with fail
  go_region
  go_wp2_with fail
  go_region_law (refine step_delete_run (by kernel_rfl) (.tmp 23) (.tmp 24) 119 196 (by kernel_rfl) (.map (some m)) (.agg #[.int .i64 k.1,.int .i64 k.2]) _ (by kernel_rfl) (by kernel_rfl) HD.out ?_)
  all_goals
   go_wp2
   go_end0
   exact⟨rfl,HM5.out h0,HA5.out⟩
 ·have g0:¬ ((c:Int)=0):=by omega
  go_wp2_with fail
  go_region
  go_wp2
  go_end0
  exact⟨rfl,HM3.out.keep rfl,HA3.out.drew⟩
end Go.Proofs.YthogohkieiogiaaGreatDoor
