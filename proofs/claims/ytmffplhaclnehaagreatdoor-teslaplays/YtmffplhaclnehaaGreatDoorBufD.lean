/- A helper. -/
import Derived.Test.YtmffplhaclnehaaGreatDoorBufA
namespace Go.Proofs.YtmffplhaclnehaaGreatDoor
set_option maxRecDepth 20000
set_option maxHeartbeats 1600000
open Go.ChangeShapes Go.WideShapes Go.ChangeAt Go.RowKit
variable {w:World} {α:Type}
def rq:List Value:=[.int .i64 0,.int .i64 0,.slice none 0 0]
theorem I5 (w:World)(q off n c:Nat)(cur:Array Value)(hq:w.heap[q]?=some (.cells cur 199 (0,0)))(ho:off+3<=cur.size)(ty:TypeId)(hn:n=1):
  (Builtin.clear_ #[128] ty #[.slice (some ⟨q,off,none⟩) n c]).run Tryz.prog w=.ok (.tuple #[]) (w.setRow q (cur.toList.take off++rq++cur.toList.drop (off+3)).toArray):=by
 subst hn
 have hz:(Builtin.zeroCells (Value.agg #[.int .i64 0,.int .i64 0,.slice none 0 0]).cells 1).toList=rq:=by kernel_rfl
 have hst:=run_storeCells_at Tryz.prog q off 199 rq 0 cur w hq (by simpa [rq] using ho) (by intro u hu;simp only[rq,List.mem_cons,List.not_mem_nil,or_false] at hu;rcases hu with rfl|rfl|rfl<;>rfl)
 simp only[Nat.add_zero] at hst
 simp[Builtin.clear_,hz,hst]
 rfl
theorem Row.TR {q cap:Nat}{xs:List eU}(h:Row oo w (.slice (some ⟨q,0,none⟩) xs.length cap) xs)(j:Nat)(hj:j<xs.length)(A:Addr)(hA:j+1<xs.length->A=⟨q,(j+1)*3,none⟩):
  ∃ w1 w2, (Builtin.append_ #[128, 128] 128 #[.slice (some ⟨q, 0, none⟩) j cap, .slice (some A) (xs.length - (j + 1)) (cap - (j + 1))]).run Tryz.prog w = .ok (.slice (some ⟨q, 0, none⟩) (xs.length - 1) cap) w1 ∧
    (∀ ty n c, n = 1 → (Builtin.clear_ #[128] ty #[.slice (some ⟨q, (xs.length - 1) * 3, none⟩) n c]).run Tryz.prog w1 = .ok (.tuple #[]) w2) ∧
    Row oo w2 (.slice (some ⟨q, 0, none⟩) (xs.length - 1) cap) (xs.eraseIdx j) ∧ Apart (fun k => k = q) w w2 := by
 obtain⟨i,hi,hz0,hz1,hz2⟩:=info_parts oo.hi
 rcases h with ⟨e,_⟩|⟨q',cap',cur,e,h1,h2,h3,h4,h5,h6⟩
 ·cases e
 cases e
 have he:xs.eraseIdx j=xs.take j++xs.drop (j+1):=List.eraseIdx_eq_take_drop_succ xs j
 have Wq:oo.n=3:=rfl
 have hz1':i.size=3:=hz1
 rw[Wq] at h4 h5
 have hcl:(oo.cs (xs.drop (j+1))).length=(xs.length-(j+1))*3:=by rw[oo.jm,List.length_drop];rfl
 have hnews:∀ t u,(oo.cs (xs.drop (j+1)))[t]?=some u->w.cell? (A.add t)=some u:=by
  intro t u hu
  have ht:=(List.getElem?_eq_some_iff.1 hu).1
  rw[hcl] at ht
  rw[hA (by omega),Addr.add_lit,cell_of_row w q _ _ _ _ h1,<-Array.getElem?_toList]
  rw[<-oo.zQ xs (j+1) (by omega),<-h5,Wq,List.getElem?_drop,List.getElem?_take] at hu
  split at hu
  ·exact hu
  ·cases hu
 have hrun:=run_append_room (P:=Tryz.prog) w 128 128 199 i oo.hu hi q j cap cur h1 A (xs.length-(j+1)) (cap-(j+1)) (oo.cs (xs.drop (j+1))) (by rw[hz1'];exact hcl) hnews (oo.Ma _) (by omega) (by rw[hz1',hcl];omega)
 rw[hz1',hcl,show j+(xs.length-(j+1))=xs.length-1 by omega] at hrun
 have htk:cur.toList.take (j*3)=oo.cs (xs.take j):=by
  have:=oo.FR xs j (by omega)
  rw[<-this,<-h5,Wq,List.take_take,Nat.min_eq_left (by omega)]
 rw[htk,<-oo.nk,<-he] at hrun
 have hel:(xs.eraseIdx j).length=xs.length-1:=by rw[List.length_eraseIdx,if_pos hj]
 have TT:(oo.cs (xs.eraseIdx j)).length=(xs.length-1)*3:=by rw[oo.jm,hel];rfl
 have hrow:=setRow_heap w q cur (oo.cs (xs.eraseIdx j)++cur.toList.drop (j*3+(xs.length-(j+1))*3)).toArray 199 (0,0) h1
 obtain⟨Me,Gl⟩:=ai ((oo.cs (xs.eraseIdx j)++cur.toList.drop (j*3+(xs.length-(j+1))*3)).toArray)
 rw[<-Gl] at hrow hrun
 have hs1:Me.size=cur.size:=by rw[Gl];simp[TT];omega
 have ht1:Me.toList.take ((xs.length-1)*3)=oo.cs (xs.eraseIdx j):=by rw[Gl];simp only[];rw[<-TT,List.take_left]
 have Ws:kJ Me:=by
  intro u hu
  rw[Gl] at hu
  simp only[List.mem_append] at hu
  rcases hu with hu|hu
  ·exact oo.vZ _ u hu
  ·exact h6 u (List.mem_of_mem_drop hu)
 refine⟨_,_,hrun,λty n c hn=>I5 _ q ((xs.length-1)*3) n c Me hrow (by rw[hs1];omega) ty hn,.inr ⟨q,cap,_,by rw[hel],setRow_heap _ q Me _ 199 (0,0) hrow,by rw[hel];omega,h3,?_,?_,?_⟩,?_⟩
 ·rw[Wq];simp[rq];omega
 ·rw[hel,Wq,List.append_assoc]
  simp only[]
  rw[ht1,<-TT,List.take_left]
 ·intro u hu
  simp only[rq,List.mem_append,List.mem_cons,List.not_mem_nil,or_false] at hu
  rcases hu with (hu|hu)|hu
  ·exact Ws u (List.mem_of_mem_take hu)
  ·intro k y
   rcases hu with rfl|rfl|rfl<;>intro e<;>cases e<;>rfl
  ·exact Ws u (List.mem_of_mem_drop hu)
 ·refine⟨rfl,rfl,rfl,by simp,λk _ hk=>?_⟩
  rw[setRow_other _ q k _ hk,setRow_other _ q k _ hk]
theorem I6 (w:World)(q cap j:Nat)(xs:List eU)(h:Row oo w (.slice (some ⟨q,0,none⟩) xs.length cap) xs)(hj:j<xs.length)(hl:xs.length<=1000):
  Calls Tryz.prog 171 #[.slice (some ⟨q,0,none⟩) xs.length cap,.int .i64 (j:Int),.int .i64 ((j+1:Nat):Int)] w λe w'=>e=.returned (.slice (some ⟨q,0,none⟩) (xs.length-1) cap) /\
   Row oo w' (.slice (some ⟨q,0,none⟩) (xs.length-1) cap) (xs.eraseIdx j)/\Apart (λk=>k=q) w w':=by
 obtain⟨a',c',e,hcap,hmax,_⟩:=h.shape
 cases e
 have hcm:cap<=9223372036854775807:=by unfold maxLen at hmax;omega
 obtain⟨A,hA,hA2⟩:∃ A:Addr,(if cap=j+1 then some (⟨q,0,none⟩:Addr) else some ⟨q,(j+1)*3,none⟩)=some A/\(j+1<xs.length->A=⟨q,(j+1)*3,none⟩):=by
  by_cases h:cap=j+1
  ·exact⟨⟨q,0,none⟩,by simp[h],λ_=>by omega⟩
  ·exact⟨⟨q,(j+1)*3,none⟩,by simp[h],λ_=>rfl⟩
 obtain⟨w1,w2,hrun,hcl,hR,hap⟩:=(h.keep (w':=w.drew) λ_ _=>rfl).TR j hj A hA2
 have HR:Hid ((Builtin.append_ #[128,128] 128 #[.slice (some ⟨q,0,none⟩) j cap,.slice (some A) (xs.length-(j+1)) (cap-(j+1))]).run Tryz.prog w.drew=.ok (.slice (some ⟨q,0,none⟩) (xs.length-1) cap) w1):=hrun
 have HC:Hid (∀ ty n c,n=1->(Builtin.clear_ #[128] ty #[.slice (some ⟨q,(xs.length-1)*3,none⟩) n c]).run Tryz.prog w1=.ok (.tuple #[]) w2):=hcl
 have HE:Hid (Row oo w2 (.slice (some ⟨q,0,none⟩) (xs.length-1) cap) (xs.eraseIdx j)/\Apart (λk=>k=q) w w2):=⟨hR,(Apart.refl _ w).drew.trans hap λi hi=>.inl hi⟩
 obtain⟨L,hL⟩:=ai xs.length
 obtain⟨J,hJ⟩:=ai (j+1)
 rw[<-hL] at hj hl hcap HR HC HE ⊢
 rw[<-hJ] at hA HR ⊢
 have HA:Hid ((if cap=J then some (⟨q,0,none⟩:Addr) else some ⟨q,J*3,none⟩)=some A):=hA
 have h1:j<=cap:=by omega
 have h2:J<=cap:=by omega
 have h3:j<=J:=by omega
 have h4:J<=L:=by omega
 have h5:j≠J:=by omega
 have h6:L<=cap:=hcap
 obtain⟨M,hM⟩:=ai (L-1)
 rw[<-hM] at HR HC HE ⊢
 have H7:Hid (L-M=1):=by show L-M=1;omega
 have h8:M<=L:=by omega
 have h9:M<=cap:=by omega
 have h10:cap≠M:=by omega
 clear h hrun hcl hR hap hA2 hmax hL HA hj hJ hcap hM
 go_enter Tryz.func171,Tryz.ntmps171
 go_wp2_with fail
 go_region_law (refine aH (by kernel_rfl) (.tmp 22) (.tmp 25) 128 (by kernel_rfl) (.slice (some ⟨q,0,none⟩) j cap) (.slice (some A) (L-J) (cap-J)) _ (by simp[Act.eval,Act.put]) (by simp[Act.eval,Act.put]) HR.out ?_)
 have hc0:=HC.out 0 (L-M) (cap-M) H7.out
 go_wp2
 go_ret
 exact⟨rfl,HE.out⟩
theorem Row.Sv {q cap len:Nat}{xs:List Bl}(h:Row qH w (.slice (some ⟨q,0,none⟩) len cap) xs)(t:Nat)(_ht:t<xs.length)(x:Bl):Row qH (w.setCell ⟨q,t,none⟩ (.slice x.2.1 x.1.length x.2.2)) (.slice (some ⟨q,0,none⟩) len cap) (xs.set t x):=by
 rcases h with ⟨e,_⟩|⟨q',cap',cur,e,h1,h2,h3,h4,h5,h6⟩
 ·cases e
 cases e
 have hn1:qH.n=1:=rfl
 rw[hn1,Nat.mul_one] at h4 h5
 have hcs:∀ l:List Bl,qH.cs l=l.map λs=>Value.slice s.2.1 s.1.length s.2.2:=by
  intro l
  induction l with
  | nil=>rfl
  | cons y l ih=>rw[qH.Gf,ih];rfl
 have hh:=heap_setCell_same w q t cur qH.T (.slice x.2.1 x.1.length x.2.2) h1
 refine .inr ⟨q,cap,_,by rw[List.length_set],hh,by rw[List.length_set];exact h2,h3,?_,?_,?_⟩
 ·rw[hn1,Nat.mul_one];simpa using h4
 ·rw[hn1,Nat.mul_one,List.length_set,hcs,Array.toList_setIfInBounds,List.take_set,h5,hcs,List.map_set]
 ·intro u hu
  rw[Array.toList_setIfInBounds] at hu
  rcases List.mem_or_eq_of_mem_set hu with hu|rfl
  ·exact h6 u hu
  ·intro k y e;cases e
def iR {α:Type}(xs ys:List α)(i:Nat):Prop:=ys.length=xs.length/\∀ t,t<xs.length->ys[t]?=if t<i\/xs.length-1-t<i then xs[xs.length-1-t]? else xs[t]?
theorem iR.zero (xs:List α):iR xs xs 0:=⟨rfl,λt _=>by simp⟩
theorem iR.step {xs ys:List α}{i j:Nat}(h:iR xs ys i)(hij:i<j)(hj:i+j+1=xs.length){a b:α}(ha:ys[i]?=some a)(hb:ys[j]?=some b):iR xs ((ys.set i b).set j a) (i+1):=by
 refine⟨by simp[h.1],λt ht=>?_⟩
 have hi':=h.2 i (by omega)
 have hj':=h.2 j (by omega)
 rw[if_neg (by omega)] at hi' hj'
 rw[List.getElem?_set,List.getElem?_set]
 by_cases e1:j=t
 ·subst e1
  rw[if_pos rfl,if_pos (by simp[h.1];omega),if_pos (by omega),show xs.length-1-j=i by omega,<-hi',ha]
 ·rw[if_neg e1]
  by_cases e2:i=t
  ·subst e2
   rw[if_pos rfl,if_pos (by rw[h.1];omega),if_pos (by omega),show xs.length-1-i=j by omega,<-hj',hb]
  ·rw[if_neg e2,h.2 t ht]
   by_cases e3:t<i\/xs.length-1-t<i
   ·rw[if_pos e3,if_pos (by omega)]
   ·rw[if_neg e3,if_neg (by omega)]
theorem iR.done {xs ys:List α}{i:Nat}(h:iR xs ys i)(hi:xs.length<=2*i+1):ys=xs.reverse:=by
 apply List.ext_getElem?
 intro t
 by_cases ht:t<xs.length
 ·rw[h.2 t ht,List.getElem?_reverse ht]
  by_cases e:t<i\/xs.length-1-t<i
  ·rw[if_pos e]
  ·rw[if_neg e,show xs.length-1-t=t by omega]
 ·rw[List.getElem?_eq_none (by rw[h.1];omega),List.getElem?_eq_none (by simp;omega)]
theorem wu (w:World)(v:Value)(xs:List Bl)(h:Row qH w v xs)(hl:xs.length<=1000):
  Calls Tryz.prog 173 #[v] w λe w'=>e=.returned (.tuple #[])/\Row qH w' v xs.reverse/\Apart (λk=>v.ownBlock=some k) w w':=by
 obtain⟨a,cap,rfl,hcap,hmax,hnil,hq,hcell⟩:=h.shape
 have HS:Hid (Row qH w (.slice a xs.length cap) xs/\iR xs xs 0/\Apart (λk=>(Value.slice a xs.length cap).ownBlock=some k) w w):=⟨h,iR.zero xs,Apart.refl _ _⟩
 have HQ:Hid (∀ b,a=some b->∃ q,b=⟨q,0,none⟩):=hq
 have hcm:cap<=9223372036854775807:=by unfold maxLen at hmax;omega
 clear h hcell hnil hmax hq
 obtain⟨N,hN⟩:=ai xs.length
 rw[<-hN] at hl hcap HS ⊢
 have HN:Hid (N=xs.length):=hN
 clear hN
 go_enter Tryz.func173,Tryz.ntmps173
 go_wp2
 go_loopw [2,3] (λs2 s3 wr=>∃ (i:Nat) (z:Int) (ys:List Bl),s2=.int .i64 (i:Int)/\s3=.int .i64 z/\z=(N:Int)-1-(i:Int)/\i<=N/\Row qH wr (.slice a N cap) ys/\iR xs ys i/\Apart (λk=>(Value.slice a N cap).ownBlock=some k) w wr) (λs2 _ _=>N-(intOf s2).toNat)
 case atStart=>exact⟨0,(N:Int)-1,xs,rfl,rfl,by omega,Nat.zero_le _,HS.out.1,HS.out.2.1,HS.out.2.2⟩
 case round=>
  obtain⟨i,z,ys,rfl,rfl,hz,hi,hR,hW,hA⟩:=hrel
  clear HS
  have hyl:ys.length=N:=by rw[hW.1,HN.out]
  by_cases hlt:(i:Int)<z
  ·obtain⟨j,rfl⟩:∃ j:Nat,z=(j:Int):=⟨z.toNat,by omega⟩
   have hij:i<j:=by omega
   have hjn:i+j+1=N:=by omega
   obtain⟨x,hx⟩:∃ x,ys[i]?=some x:=⟨ys[i]'(by omega),by rw[List.getElem?_eq_getElem]⟩
   obtain⟨y,hy⟩:∃ y,ys[j]?=some y:=⟨ys[j]'(by omega),by rw[List.getElem?_eq_getElem]⟩
   obtain⟨_,q,rfl,ci⟩:=hR.get hx
   obtain⟨_,q',e,cj⟩:=hR.get hy
   cases e
   have c1:=ci 0 _ rfl
   have c2:=cj 0 _ rfl
   rw[show qH.n=1 from rfl,Nat.mul_one,Nat.add_zero] at c1 c2
   obtain⟨cur,hrow,_⟩:=hR.isRow (k:=q) rfl
   have f1:wr.frozen? ⟨q,i,none⟩=false:=frozen_of_row _ _ i _ _ hrow
   have f2:wr.frozen? ⟨q,j,none⟩=false:=frozen_of_row _ _ j _ _ hrow
   have hR2:=((hR.keep (w':=wr.drew) λ_ _=>rfl).Sv i (by omega) y).Sv j (by rw[List.length_set];omega) x
   have HE:Hid (Row qH ((wr.drew.setCell ⟨q,i,none⟩ (.slice y.2.1 y.1.length y.2.2)).setCell ⟨q,j,none⟩ (.slice x.2.1 x.1.length x.2.2)) (.slice (some ⟨q,0,none⟩) N cap) ((ys.set i y).set j x)/\iR xs ((ys.set i y).set j x) (i+1) /\
    Apart (λk=>(Value.slice (some ⟨q,0,none⟩) N cap).ownBlock=some k) w ((wr.drew.setCell ⟨q,i,none⟩ (.slice y.2.1 y.1.length y.2.2)).setCell ⟨q,j,none⟩ (.slice x.2.1 x.1.length x.2.2))):=
    ⟨hR2,hW.step hij (by rw[<-HN.out];exact hjn) hx hy,(hA.drew.setCell (.inl rfl) i _).setCell (.inl rfl) j _⟩
   obtain⟨lx,hlx⟩:=ai x.1.length
   obtain⟨ly,hly⟩:=ai y.1.length
   obtain⟨ax,hax⟩:=ai x.2.1
   obtain⟨ay,hay⟩:=ai y.2.1
   obtain⟨kx,hkx⟩:=ai x.2.2
   obtain⟨ky,K9⟩:=ai y.2.2
   rw[<-hlx,<-hax,<-hkx] at c1 HE
   rw[<-hly,<-hay,<-K9] at c2 HE
   have g1:(i:Int)<(N:Int):=by omega
   have g2:(j:Int)<(N:Int):=by omega
   have g3:(i:Int)<(j:Int):=by omega
   have g4:i≠j:=by omega
   have e1:IntKind.i64.wrap ((i:Int)+1)=((i+1:Nat):Int):=by rw[IntKind.wrap_i64];omega
   have e2:IntKind.i64.wrap ((j:Int)-1)=(j:Int)-1:=by rw[IntKind.wrap_i64];omega
   have HJ:Hid (i+j+1=N):=hjn
   clear hR hA hW hz hi hyl hx hy ci cj hrow hR2 hlx hly hax hay hkx K9 hlt hij hjn hcap hcm
   go_wp2_with fail
   go_region
   go_wp2
   go_roundw
   case rel=>exact⟨i+1,(j:Int)-1,_,by first|rfl|(congr 1;omega),rfl,by have:=HJ.out;omega,by have:=HJ.out;omega,HE.out.1,HE.out.2.1,HE.out.2.2⟩
   case measure=>have:=HJ.out;simp[intOf];omega
  ·have hdone:=hW.done (by rw[<-HN.out];omega)
   subst hdone
   have HE:Hid (Row qH wr (.slice a N cap) xs.reverse/\Apart (λk=>(Value.slice a N cap).ownBlock=some k) w wr):=⟨hR,hA⟩
   clear hR hA hW hz hi hyl
   go_wp2
   go_end0
   exact⟨rfl,HE.out⟩
theorem vB {P:Program}{w':World}{ops:Array Oper}{o:Oper}{a:Act}{K:Act->World->Prop}{Q:Exit->Act->World->Prop}{E:Prop}(hgd:o.guard=none)(s x:Operand)(t u:TypeId)(ho:o.op=.call { callee:=.builtin .delete,args:=#[s,x],argTypes:=#[t,u] })(vs vx r:Value)(hs:a.eval s=vs)(hx:a.eval x=vx)(hrun:(Builtin.delete_ #[t,u] o.type #[vs,vx]).run P w=.ok r w')(h:K (a.put o.dst r) w'):if Region.wanted o (yielded ops a.tmps)=true then Oper.wp P o a w K Q else E:=by
 have hw:Region.wanted o (yielded ops a.tmps)=true:=by simp[Region.wanted,hgd]
 rw[if_pos hw]
 unfold Oper.wp execOp
 simp only[ho,resolve,invoke,builtin,Sem.run_bind,Sem.run_pure,Result.andThen_ok,List.map_toArray,List.map_cons,List.map_nil,hs,hx,hrun]
 exact h
theorem Ea (w:World)(g m n:Nat)(f:Key->Nat)(k:Key)(c3:w.cell? ⟨g,3,none⟩=some (.map (some m)))(h:MapAt w m n f)(hn:n<=100000000)(hk:uJ k)(h1:1<=f k)(h2:f k<=1000000):
  Calls Tryz.prog 172 #[.pointer (some ⟨g,0,none⟩),gu k] w λe w'=>e=.returned (.tuple #[])/\MapAt w' m (n+1) (λj=>if j=k then f k-1 else f j)/\Apart (λj=>j=m) w w':=by
 obtain⟨W,hW⟩:=ai (w.alloc (.cells #[.int .i64 k.1,.int .i64 k.2] 194))
 have hb:Below w.heap.size w W:=by rw[hW];exact(Below.refl _ _).alloc (Nat.le_refl _) _
 have hgm:g≠m:=by
  rintro rfl
  obtain⟨es,clock,e⟩:=h.isMap
  simp[World.cell?,e] at c3
 have hbm:w.heap.size≠m:=by have:=h.lt;omega
 have hM:MapAt W.drew m n f:=h.keep (hb.block m h.lt)
 have c3W:W.drew.cell? ⟨g,3,none⟩=some (.map (some m)):=by
  show W.cell? ⟨g,3,none⟩=_
  rw[hb.cell (World.block_lt_of_cell? w _ c3)];exact c3
 have r1:W.drew.heap[w.heap.size]?=some (.cells #[.int .i64 k.1,.int .i64 k.2] 194 (0,0)):=by rw[hW];exact heap_alloc_new _ _
 have hmax:(100000000:Nat)<maxLen:=by decide
 obtain⟨v0,st,W1,he,hM1,ha1,hs1,hst⟩:=hM.entry (by omega) hk
 obtain⟨c,hc⟩:=ai (f k-1)
 obtain⟨W3,hs,tX,Dy,hs3⟩:=hst W1 c (oZ (by omega) (by omega)) rfl
 have hl0:=hM.look hk
 have hl1:=hM1.look hk
 have hlt:w.heap.size<W.drew.heap.size:=(Array.getElem?_eq_some_iff.1 r1).1
 have r2:W1.heap[w.heap.size]?=some (.cells #[.int .i64 k.1,.int .i64 k.2] 194 (0,0)):=(ha1.block _ hlt hbm).trans r1
 have r3:W3.heap[w.heap.size]?=some (.cells #[.int .i64 k.1,.int .i64 k.2] 194 (0,0)):=(Dy.block _ (by omega) hbm).trans r2
 have YG:=ha1.cell c3W hgm
 have ZN:=Dy.cell YG hgm
 have x0:=cell_of_row _ _ 0 _ _ _ r1
 have x1:=cell_of_row _ _ 1 _ _ _ r1
 have y0:=cell_of_row _ _ 0 _ _ _ r2
 have y1:=cell_of_row _ _ 1 _ _ _ r2
 have z0:=cell_of_row _ _ 0 _ _ _ r3
 have z1:=cell_of_row _ _ 1 _ _ _ r3
 have e1:IntKind.i64.wrap ((f k:Int)-1)=(c:Int):=by rw[IntKind.wrap_i64];omega
 have hl3:=(tX.keep (w':=W3.drew) rfl).look hk
 rw[if_pos rfl] at hl3
 obtain⟨W5,hd,Sw,Wt,_⟩:=(tX.keep (w':=W3.drew.drew) rfl).del hk 0
 have HD:Hid ((Builtin.delete_ #[127,194] 0 #[.map (some m),gu k]).run Tryz.prog W3.drew.drew=.ok (.tuple #[]) W5):=hd
 have HA5:Hid (Apart (λj=>j=m) w W5):=(((((Apart.of_below hb).drew.trans ha1 λi hi=>.inl hi).trans Dy λi hi=>.inl hi).drew).drew).trans Wt λi hi=>.inl hi
 have qx:Hid (c=0->MapAt W5 m (n+1) (λj=>if j=k then c else f j)):=λe=>Sw.congr λj=>by
  by_cases hj:j=k
  ·rw[if_pos hj,if_pos hj,e]
  ·rw[if_neg hj,if_neg hj]
 have HW:Hid (W=w.alloc (.cells #[.int .i64 k.1,.int .i64 k.2] 194)):=hW
 have HA3:Hid (Apart (λj=>j=m) w W3):=((Apart.of_below hb).drew.trans ha1 λi hi=>.inl hi).trans Dy λi hi=>.inl hi
 have nP:Hid (MapAt W3 m (n+1) (λj=>if j=k then c else f j)):=tX
 rw[<-hc]
 have HC:Hid (c=f k-1):=hc
 clear hc
 simp only[gu] at he hl0 hl1 hl3 HD ⊢
 clear hd Sw Wt hmax h hM hM1 tX hst ha1 Dy hs1 hs3 hb hW c3 r1 r2 r3 hlt hbm hgm
 go_enter Tryz.func172,Tryz.ntmps172
 go_wp2_with fail
 rw[<-HW.out]
 go_region
 clear he hl0 hl1 hs
 by_cases h0:c=0
 ·have g0:((c:Int)=0):=by omega
  go_wp2_with fail
  go_region
  go_wp2_with fail
  go_region_law (refine vB (by kernel_rfl) (.tmp 23) (.tmp 24) 127 194 (by kernel_rfl) (.map (some m)) (.agg #[.int .i64 k.1,.int .i64 k.2]) _ (by kernel_rfl) (by kernel_rfl) HD.out ?_)
  all_goals
   go_wp2
   go_end0
   exact⟨rfl,qx.out h0,HA5.out⟩
 ·have g0:¬ ((c:Int)=0):=by omega
  go_wp2_with fail
  go_region
  go_wp2
  go_end0
  exact⟨rfl,nP.out.keep rfl,HA3.out.drew⟩
end Go.Proofs.YtmffplhaclnehaaGreatDoor
