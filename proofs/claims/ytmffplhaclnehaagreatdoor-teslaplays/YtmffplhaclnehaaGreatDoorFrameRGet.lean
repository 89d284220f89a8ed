/- A helper. -/
import Derived.Test.YtmffplhaclnehaaGreatDoorFrameGetP
import Derived.Test.YtmffplhaclnehaaGreatDoorFrameRCheck
namespace Go.Proofs.YtmffplhaclnehaaGreatDoor
set_option maxRecDepth 20000
set_option maxHeartbeats 6400000
open Go.ChangeShapes Go.WideShapes Go.ChangeAt Go.RowKit
variable {w W:World} {x:Option Addr} {c cx q x1 x2 x3 x4:Nat} {l:List UInt8} {s:Rs} {G G0 G1 G2 G3 G4 G5:Fr} {A:At} {σ:Type}
structure nU (x:Option Addr)(cx:Nat)(l:List UInt8)(c q:Nat)(w:World)(s:Rs):Prop where
 top:w.heap[q]?=some (.cells #[.pointer (some ⟨c,0,none⟩),.bool s.miss] 150 (0,0))
 bot:w.heap[c]?=some (.cells #[.slice x l.length cx,.int .i64 (s.at_:Int)] 148 (0,0))
 le:s.at_<=8*l.length
 ne:c≠q
 src:ag w x cx l
 len:l.length<=140737488355328
def lT (c q:Nat)(k:Nat):Prop:=k=c\/k=q
theorem nH {g:Nat}{cs:Array Value}{t:TypeId}{fr:Nat×Nat}(h:w.heap[g]?=some (.cells cs t fr))(hno:∀ (k:Nat) (z:Int),cs[k]?≠some (.int .u8 z))(hs:ag w x c l):∀ b off,x=some ⟨b,off,none⟩->l≠[]->b≠g:=by
 rintro b off rfl hne rfl
 obtain⟨b',off',he,hc⟩:=hs.at' hne
 simp only[Option.some.injEq,Addr.mk.injEq] at he
 obtain⟨rfl,rfl,_⟩:=he
 obtain⟨z,hz⟩:∃ z,l[0]?=some z:=⟨l[0]'(List.length_pos_iff.2 hne),by simp⟩
 have h1:=hc 0 z hz
 rw[cell_of_row w _ (off+0) _ _ _ h] at h1
 exact hno _ _ h1
theorem WZ (a b:Value)(ha:∀ z:Int,a≠.int .u8 z)(hb:∀ z:Int,b≠.int .u8 z):∀ (k:Nat) (z:Int),(#[a,b]:Array Value)[k]?≠some (.int .u8 z):=by
 intro k z
 match k with
 | 0=>simpa using ha z
 | 1=>simpa using hb z
 | k+2=>simp
theorem nU.apart (h:nU x cx l c q w s){y:Option Addr}{cy:Nat}{m:List UInt8}(hs:ag w y cy m):∀ b off,y=some ⟨b,off,none⟩->m≠[]->¬ lT c q b:=by
 intro b off e hne hb
 rcases hb with rfl|rfl
 ·exact nH h.bot (WZ _ _ (by simp) (by simp)) hs _ off e hne rfl
 ·exact nH h.top (WZ _ _ (by simp) (by simp)) hs _ off e hne rfl
theorem nU.rr (h:nU x cx l c q w s):RR x cx l w c s.at_ (λk=>k=c):=⟨h.bot,rfl,λk hk=>by rw[hk];exact(Array.getElem?_eq_some_iff.1 h.bot).1⟩
theorem nU.cells (h:nU x cx l c q w s):w.cell? ⟨q,0,none⟩=some (.pointer (some ⟨c,0,none⟩))/\w.cell? ⟨q,1,none⟩=some (.bool s.miss)/\w.frozen? ⟨q,1,none⟩=false:=
 ⟨cell_of_row _ _ 0 _ _ _ h.top,cell_of_row _ _ 1 _ _ _ h.top,frozen_of_row _ _ 1 _ _ h.top⟩
theorem nU.keep {w':World}(h:nU x cx l c q w s)(h1:w'.heap[q]?=w.heap[q]?)(h2:w'.heap[c]?=w.heap[c]?)(h3:ag w' x cx l):nU x cx l c q w' s:=⟨h1.trans h.top,h2.trans h.bot,h.le,h.ne,h3,h.len⟩
theorem nU.lt (h:nU x cx l c q w s):c<w.heap.size/\q<w.heap.size:=⟨(Array.getElem?_eq_some_iff.1 h.bot).1,(Array.getElem?_eq_some_iff.1 h.top).1⟩
theorem nU.went {w1:World}(h:nU x cx l c q w s)(m:Nat)(hm:m<=8*l.length)(hL:Left (RR x cx l) w (λk=>k=c) c m w1)(t:Bool):
  (w1.cell? ⟨q,1,none⟩=some (.bool s.miss)/\w1.frozen? ⟨q,1,none⟩=false)/\nU x cx l c q (w1.setCell ⟨q,1,none⟩ (.bool t)) ⟨m,t⟩/\Apart (lT c q) w (w1.setCell ⟨q,1,none⟩ (.bool t)):=by
 obtain⟨F',hr,ha,_⟩:=hL
 have h8:w1.heap[q]?=some (.cells #[.pointer (some ⟨c,0,none⟩),.bool s.miss] 150 (0,0)):=by rw[ha.block q h.lt.2 (λe=>h.ne e.symm)];exact h.top
 have hs1:ag w1 x cx l:=ha.sees h.src (λb off e hne hb=>h.apart h.src b off e hne (.inl hb))
 refine⟨⟨cell_of_row _ _ 1 _ _ _ h8,frozen_of_row _ _ 1 _ _ h8⟩,⟨by rw[heap_setCell_same _ _ _ _ _ _ h8];rfl,?_,hm,h.ne,hs1.set _ (λb off e hne=>?_),h.len⟩,?_⟩
 ·rw[heap_setCell_other _ _ _ _ h.ne];exact hr.1
 ·exact nH h8 (WZ _ _ (by simp) (by simp)) hs1 b off e hne
 ·exact(ha.mono (λk hk=>.inl hk)).setCell (.inl (.inr rfl)) 1 _
theorem EC (l:List UInt8)(at_:Nat)(n:Int)(h:at_<=8*l.length):dV l at_ n<=8*l.length:=by
 unfold dV
 by_cases h0:fU (8*l.length-at_) n=0
 ·rw[if_pos h0]
  unfold fU at h0
  by_cases h1:n<0\/1024<n
  ·rw[if_pos h1] at h0;cases h0
  ·rw[if_neg h1] at h0
   by_cases h2:((8*l.length-at_:Nat):Int)<8*n
   ·rw[if_pos h2] at h0;cases h0
   ·omega
 ·rw[if_neg h0];exact h
theorem fM (x:Option Addr)(cx:Nat)(l:List UInt8)(c q:Nat)(w:World)(s:Rs)(V:Nat)(hm:nU x cx l c q w s):
  Calls Tryz.prog 131 #[.pointer (some ⟨q,0,none⟩),.int .i64 (V:Int)] w λe w'=>e=.returned (.int .u64 ((bq l s V:Nat):Int))/\nU x cx l c q w' (bE l s V)/\Apart (lT c q) w w':=by
 obtain⟨c0,c1,f1⟩:=hm.cells
 have hc:=LH x cx l w c s.at_ (λk=>k=c) hm.rr hm.src (λb off e hne hb=>hm.apart hm.src b off e hne (.inl hb)) hm.len (V:Int) hm.le
 have hat:=BB l s.at_ (V:Int) hm.le
 unfold bq bE
 obtain⟨N,hN⟩:=ai (nN l s.at_ (V:Int))
 obtain⟨m,hm1⟩:=ai (iL l s.at_ (V:Int))
 obtain⟨P,hP⟩:=ai (kQ (8*l.length-s.at_) (V:Int))
 rw[<-hN,<-hm1,<-hP]
 rw[<-hN,<-hm1,<-hP] at hc
 rw[<-hm1] at hat
 have HW:Hid (∀ w1,Left (RR x cx l) w (λk=>k=c) c m w1->∀ t,(w1.cell? ⟨q,1,none⟩=some (.bool s.miss)/\w1.frozen? ⟨q,1,none⟩=false)/\nU x cx l c q (w1.setCell ⟨q,1,none⟩ (.bool t)) ⟨m,t⟩/\Apart (lT c q) w (w1.setCell ⟨q,1,none⟩ (.bool t))):=λw1 hL t=>hm.went m hat hL t
 generalize s.miss=b at *
 clear hm hat hN hm1 hP f1
 cases b
 ·by_cases h0:P=0
  ·have g0:((P:Int) != 0)=false:=by simp[h0]
   have e0:(false||decide (P≠0))=false:=by simp[h0]
   rw[e0]
   clear h0 e0
   go_enter Tryz.func131,Tryz.ntmps131
   go_wp2_with fail
   refine hc.mono ?_
   rintro e w1 ⟨rfl,hL⟩
   obtain⟨⟨d1,z1⟩,hX⟩:=HW.out w1 hL false
   have HX:Hid (nU x cx l c q (w1.setCell ⟨q,1,none⟩ (.bool false)) ⟨m,false⟩/\Apart (lT c q) w (w1.setCell ⟨q,1,none⟩ (.bool false))):=hX
   clear hc hL HW c0 c1 hX
   go_wp2
   go_ret
   exact⟨rfl,HX.out⟩
  ·have g0:((P:Int) != 0)=true:=by simp;omega
   have e0:(false||decide (P≠0))=true:=by simp[h0]
   rw[e0]
   clear h0 e0
   go_enter Tryz.func131,Tryz.ntmps131
   go_wp2_with fail
   refine hc.mono ?_
   rintro e w1 ⟨rfl,hL⟩
   obtain⟨⟨d1,z1⟩,hX⟩:=HW.out w1 hL true
   have HX:Hid (nU x cx l c q (w1.setCell ⟨q,1,none⟩ (.bool true)) ⟨m,true⟩/\Apart (lT c q) w (w1.setCell ⟨q,1,none⟩ (.bool true))):=hX
   clear hc hL HW c0 c1 hX
   go_wp2
   go_ret
   exact⟨rfl,HX.out⟩
 ·rw[Bool.true_or]
  go_enter Tryz.func131,Tryz.ntmps131
  go_wp2_with fail
  refine hc.mono ?_
  rintro e w1 ⟨rfl,hL⟩
  obtain⟨⟨d1,z1⟩,hX⟩:=HW.out w1 hL true
  have HX:Hid (nU x cx l c q (w1.setCell ⟨q,1,none⟩ (.bool true)) ⟨m,true⟩/\Apart (lT c q) w (w1.setCell ⟨q,1,none⟩ (.bool true))):=hX
  clear hc hL HW c0 c1 hX
  go_wp2
  go_ret
  exact⟨rfl,HX.out⟩
theorem nV (x:Option Addr)(cx:Nat)(l:List UInt8)(c q:Nat)(w:World)(s:Rs)(n:Nat)(hm:nU x cx l c q w s):
  Calls Tryz.prog 132 #[.pointer (some ⟨q,0,none⟩),.int .i64 (n:Int)] w λe w'=>∃ d cd y,Hid (y=iZ l s n)/\e=.returned (.slice d y.length cd)/\ag w' d cd y/\nU x cx l c q w' (eX l s n)/\Apart (lT c q) w w':=by
 obtain⟨c0,c1,f1⟩:=hm.cells
 have hc:=IU x cx l w c s.at_ (λk=>k=c) hm.rr hm.src (λb off e hne hb=>hm.apart hm.src b off e hne (.inl hb)) hm.src.lt hm.len (n:Int) hm.le
 have hat:=EC l s.at_ (n:Int) hm.le
 unfold iZ eX
 obtain⟨N,hN⟩:=ai (jd l s.at_ (n:Int))
 obtain⟨m,hm1⟩:=ai (dV l s.at_ (n:Int))
 obtain⟨P,hP⟩:=ai (fU (8*l.length-s.at_) (n:Int))
 rw[<-hN,<-hm1,<-hP]
 rw[<-hN,<-hm1,<-hP] at hc
 rw[<-hm1] at hat
 have HW:Hid (∀ w1 (d:Option Addr) (cd:Nat) (y:List UInt8),Left (RR x cx l) w (λk=>k=c) c m w1->ag w1 d cd y->∀ t,(w1.cell? ⟨q,1,none⟩=some (.bool s.miss)/\w1.frozen? ⟨q,1,none⟩=false)/\ag (w1.setCell ⟨q,1,none⟩ (.bool t)) d cd y/\nU x cx l c q (w1.setCell ⟨q,1,none⟩ (.bool t)) ⟨m,t⟩/\Apart (lT c q) w (w1.setCell ⟨q,1,none⟩ (.bool t))):=λw1 d cd y hL hy t=>by
  obtain⟨h1,h2⟩:=hm.went m hat hL t
  obtain⟨_,_,ha,_⟩:=hL
  have h8:w1.heap[q]?=some (.cells #[.pointer (some ⟨c,0,none⟩),.bool s.miss] 150 (0,0)):=by rw[ha.block q hm.lt.2 (λe=>hm.ne e.symm)];exact hm.top
  exact⟨h1,hy.set _ (nH h8 (WZ _ _ (by simp) (by simp)) hy),h2⟩
 generalize s.miss=b at *
 clear hm hat hN hm1 hP f1
 cases b
 ·by_cases h0:P=0
  ·have g0:((P:Int) != 0)=false:=by simp[h0]
   have e0:(false||decide (P≠0))=false:=by simp[h0]
   rw[e0]
   clear h0 e0
   go_enter Tryz.func132,Tryz.ntmps132
   go_wp2_with fail
   refine hc.mono ?_
   rintro e w1 ⟨d,cd,y,hy,rfl,hsy,hL⟩
   obtain⟨⟨d1,z1⟩,hX⟩:=HW.out w1 d cd y hL hsy false
   have HX:Hid (ag (w1.setCell ⟨q,1,none⟩ (.bool false)) d cd y/\nU x cx l c q (w1.setCell ⟨q,1,none⟩ (.bool false)) ⟨m,false⟩/\Apart (lT c q) w (w1.setCell ⟨q,1,none⟩ (.bool false))):=hX
   clear hc hL HW c0 c1 hX hsy
   go_wp2
   go_ret
   exact⟨d,cd,y,hy,rfl,HX.out⟩
  ·have g0:((P:Int) != 0)=true:=by simp;omega
   have e0:(false||decide (P≠0))=true:=by simp[h0]
   rw[e0]
   clear h0 e0
   go_enter Tryz.func132,Tryz.ntmps132
   go_wp2_with fail
   refine hc.mono ?_
   rintro e w1 ⟨d,cd,y,hy,rfl,hsy,hL⟩
   obtain⟨⟨d1,z1⟩,hX⟩:=HW.out w1 d cd y hL hsy true
   have HX:Hid (ag (w1.setCell ⟨q,1,none⟩ (.bool true)) d cd y/\nU x cx l c q (w1.setCell ⟨q,1,none⟩ (.bool true)) ⟨m,true⟩/\Apart (lT c q) w (w1.setCell ⟨q,1,none⟩ (.bool true))):=hX
   clear hc hL HW c0 c1 hX hsy
   go_wp2
   go_ret
   exact⟨d,cd,y,hy,rfl,HX.out⟩
 ·rw[Bool.true_or]
  go_enter Tryz.func132,Tryz.ntmps132
  go_wp2_with fail
  refine hc.mono ?_
  rintro e w1 ⟨d,cd,y,hy,rfl,hsy,hL⟩
  obtain⟨⟨d1,z1⟩,hX⟩:=HW.out w1 d cd y hL hsy true
  have HX:Hid (ag (w1.setCell ⟨q,1,none⟩ (.bool true)) d cd y/\nU x cx l c q (w1.setCell ⟨q,1,none⟩ (.bool true)) ⟨m,true⟩/\Apart (lT c q) w (w1.setCell ⟨q,1,none⟩ (.bool true))):=hX
  clear hc hL HW c0 c1 hX hsy
  go_wp2
  go_ret
  exact⟨d,cd,y,hy,rfl,HX.out⟩
structure di (x:Option Addr)(cx:Nat)(l:List UInt8)(c q:Nat)(w:World)(s:Rs)(G:Fr)(A:At)(W:World):Prop where
 res:aj W w.heap.size Fr.zero At.zero
 fr:aj W (w.heap.size+1) G A
 obj:nU x cx l c q W s
 seen:Seen W G A
 apart:Apart (lT c q) w W
 lt:c<w.heap.size/\q<w.heap.size
theorem di.call {s':Rs}{W1:World}(h:di x cx l c q w s G A W)(hd:nU x cx l c q W1 s')(ha:Apart (lT c q) W W1):di x cx l c q w s' G A W1:=by
 have hlt:=h.lt
 have no:∀ k,w.heap.size<=k->¬ lT c q k:=λk hk hb=>by rcases hb with hb|hb<;>omega
 exact⟨h.res.keep (ha.block _ h.res.lt (no _ (Nat.le_refl _))),h.fr.keep (ha.block _ h.fr.lt (no _ (by omega))),hd,
  ⟨ha.sees h.seen.key (h.obj.apart h.seen.key),ha.sees h.seen.body (h.obj.apart h.seen.body),ha.sees h.seen.tag (h.obj.apart h.seen.tag)⟩,h.apart.trans ha (λ_ hk=>.inl hk),h.lt⟩
theorem di.set (h:di x cx l c q w s G A W)(j:Nat)(u:Value)(G':Fr)(A':At)(hl:(wJ G A).set j u=wJ G' A')(hs:Seen W G' A'):
  di x cx l c q w s G' A' (W.setCell ⟨w.heap.size+1,j,none⟩ u):=by
 have hlt:=h.lt
 have ot:∀ k,k≠w.heap.size+1->(W.setCell ⟨w.heap.size+1,j,none⟩ u).heap[k]?=W.heap[k]?:=λk hk=>heap_setCell_other _ _ _ _ hk
 exact⟨h.res.keep (ot _ (by omega)),h.fr.put j u hl,h.obj.keep (ot _ (by omega)) (ot _ (by omega)) (h.obj.src.set u (h.fr.apart h.obj.src)),
  ⟨hs.key.set u (h.fr.apart hs.key),hs.body.set u (h.fr.apart hs.body),hs.tag.set u (h.fr.apart hs.tag)⟩,h.apart.setCell (.inr (by omega)) j u,h.lt⟩
theorem di.mark (h:di x cx l c q w s G A W):di x cx l c q w ⟨s.at_,true⟩ G A (W.setCell ⟨q,1,none⟩ (.bool true)):=by
 have hlt:=h.lt
 have ot:∀ k,k≠q->(W.setCell ⟨q,1,none⟩ (.bool true)).heap[k]?=W.heap[k]?:=λk hk=>heap_setCell_other _ _ _ _ hk
 have ap:∀ (y:Option Addr) (cy:Nat) (m:List UInt8),ag W y cy m->ag (W.setCell ⟨q,1,none⟩ (.bool true)) y cy m:=λy cy m hs=>hs.set _ (nH h.obj.top (WZ _ _ (by simp) (by simp)) hs)
 exact⟨h.res.keep (ot _ (by omega)),h.fr.keep (ot _ (by omega)),⟨by rw[heap_setCell_same _ _ _ _ _ _ h.obj.top];rfl,by rw[ot _ h.obj.ne];exact h.obj.bot,h.obj.le,h.obj.ne,ap _ _ _ h.obj.src,h.obj.len⟩,
  ⟨ap _ _ _ h.seen.key,ap _ _ _ h.seen.body,ap _ _ _ h.seen.tag⟩,h.apart.setCell (.inl (.inr rfl)) 1 _,h.lt⟩
theorem ED (x:Option Addr)(cx:Nat)(l:List UInt8)(c q:Nat)(w:World)(s:Rs)(hm:nU x cx l c q w s):∃ W,(Instr.storeAt 61 (.pointer (some ⟨w.heap.size+1,0,none⟩)) (.agg (au Fr.zero At.zero))).run Tryz.prog ((w.alloc (.cells (au Fr.zero At.zero) 61)).alloc (.cells (au Fr.zero At.zero) 61))=.ok () W/\di x cx l c q w s Fr.zero At.zero W:=by
 obtain⟨h1,h2⟩:=wK w Fr.zero At.zero Fr.zero At.zero
 have hb:Below w.heap.size w (((w.alloc (.cells (au Fr.zero At.zero) 61)).alloc (.cells (au Fr.zero At.zero) 61)).setRow (w.heap.size+1) (au Fr.zero At.zero)):=below_setRow (Go.Joins.below_alloc2 _ _ _) (by omega) _
 exact⟨_,h2.stores _ _,h1.keep (setRow_other _ _ _ _ (by omega)),h2.stored _ _,hm.keep (hb.block _ hm.lt.2) (hb.block _ hm.lt.1) (hm.src.below hb),Seen.zero _,Apart.of_below hb,hm.lt⟩
theorem nW (h:di x cx l c q w s G A W):∃ W',(Instr.storeAt 61 (.pointer (some ⟨w.heap.size,0,none⟩)) (.agg (au G A))).run Tryz.prog W=.ok () W'/\aj W' w.heap.size G A/\nU x cx l c q W' s/\Seen W' G A/\Apart (lT c q) w W':=by
 have hlt:=h.lt
 have ot:∀ k,k≠w.heap.size->(W.setRow w.heap.size (au G A)).heap[k]?=W.heap[k]?:=λk hk=>setRow_other _ _ _ _ hk
 have hb:∀ (y:Option Addr) (cy:Nat) (m:List UInt8),ag W y cy m->ag (W.setRow w.heap.size (au G A)) y cy m:=λy cy m hs=>
  ⟨hs.fits, hs.room, hs.bare, fun hne => by
    obtain ⟨b', off, ha, hc⟩ := hs.at' hne
    refine ⟨b', off, ha, fun k z hz => ?_⟩
    rw [World.cell?_of_block (w := W) (ot b' (h.res.apart hs b' off ha hne)), hc k z hz]⟩
 refine⟨_,h.res.stores G A,h.res.stored G A,h.obj.keep (ot _ (by omega)) (ot _ (by omega)) (hb _ _ _ h.obj.src),⟨hb _ _ _ h.seen.key,hb _ _ _ h.seen.body,hb _ _ _ h.seen.tag⟩,h.apart.os,h.apart.tape,h.apart.output,Nat.le_trans h.apart.size (by simp),λk hk hn=>?_⟩
 rw[ot k (by omega)];exact h.apart.block k hk hn
def je (l:List UInt8):Bool:=if (aD l).1.k=1\/(aD l).1.k=2\/(aD l).1.k=3 then (aD l).2.miss else true
def SK {σ:Type}(fn:σ->Nat->Nat)(sn:σ->Nat->σ)(F:Fr)(s:σ):Fr×σ:=
 let s1:=sn s 4
 ({ F with t:=fn s 4,n:=fn s1 64 },sn s1 64)
def Xa {σ:Type}(fn:σ->Nat->Nat)(sn:σ->Nat->σ)(fl:σ->Nat->List UInt8)(sl:σ->Nat->σ)(F:Fr)(s:σ):Fr×σ:=
 let p:=SK fn sn F s
 let s1:=sn p.2 48
 let s2:=sn s1 16
 let s3:=sn s2 24
 let s4:=sn s3 16
 ({ p.1 with m:=fn p.2 48,e:=fn s1 16,s:=fn s2 24,i:=fn s3 16,key:=fl s4 16 },sl s4 16)
def Uy {σ:Type}(fn:σ->Nat->Nat)(sn:σ->Nat->σ)(fl:σ->Nat->List UInt8)(sl:σ->Nat->σ)(F:Fr)(s:σ):Fr×σ:=
 let s1:=sn s 16
 let s2:=sn s1 24
 let s3:=sn s2 8
 let s4:=sn s3 16
 let s5:=sl s4 16
 let s6:=sn s5 5
 ({ F with e:=fn s 16,r:=fn s1 24,v:=fn s2 8,i:=fn s3 16,key:=fl s4 16,body:=fl s6 (fn s5 5) },sl s6 (fn s5 5))
def GL {σ:Type}(fn:σ->Nat->Nat)(sn:σ->Nat->σ)(fl:σ->Nat->List UInt8)(sl:σ->Nat->σ)(s0:σ):Fr×σ:=
 let s1:=sn s0 4
 let s2:=sn s1 4
 let F:Fr:={ Fr.zero with k:=fn s0 4,f:=fn s1 4 }
 if F.k=1 then Uy fn sn fl sl F s2 else if F.k=2 then SK fn sn F s2 else if F.k=3 then Xa fn sn fl sl F s2 else (F,s2)
def mJ {σ:Type}(fn:σ->Nat->Nat)(sn:σ->Nat->σ)(fl:σ->Nat->List UInt8)(sl:σ->Nat->σ)(s0:σ):Fr×σ:=
 let p:=GL fn sn fl sl s0
 ({ p.1 with tag:=fl p.2 8 },sl p.2 8)
theorem uq (l:List UInt8):mJ (bq l) (bE l) (iZ l) (eX l) ⟨0,false⟩=aD l:=rfl
theorem EE (fn:σ->Nat->Nat)(sn:σ->Nat->σ)(fl:σ->Nat->List UInt8)(sl:σ->Nat->σ){s0 s1 s2 s3 s4 s5 s6 s7 s8 s9 s10:σ}{x5 x6 x8:Nat}{ym q7 q9:List UInt8}{G6 G7 G9 vD:Fr}(h0:G0=Fr.zero)(h1:x1=fn s0 4/\s1=sn s0 4/\G1={ G0 with k:=x1 })(h2:x2=fn s1 4/\s2=sn s1 4/\G2={ G1 with f:=x2 })(h3:x3=fn s2 16/\s3=sn s2 16/\G3={ G2 with e:=x3 })(h4:x4=fn s3 24/\s4=sn s3 24/\G4={ G3 with r:=x4 })(h5:x5=fn s4 8/\s5=sn s4 8/\G5={ G4 with v:=x5 })(h6:x6=fn s5 16/\s6=sn s5 16/\G6={ G5 with i:=x6 })(h7:q7=fl s6 16/\s7=sl s6 16/\G7={ G6 with key:=q7 })(h8:x8=fn s7 5/\s8=sn s7 5)(h9:q9=fl s8 x8/\s9=sl s8 x8/\G9={ G7 with body:=q9 })(h10:ym=fl s9 8/\s10=sl s9 8/\vD={ G9 with tag:=ym })(k1:G2.k=1):vD=(mJ fn sn fl sl s0).1/\s10=(mJ fn sn fl sl s0).2:=by
 obtain⟨a1,b1,c1⟩:=h1
 obtain⟨a2,b2,c2⟩:=h2
 obtain⟨a3,b3,c3⟩:=h3
 obtain⟨a4,b4,c4⟩:=h4
 obtain⟨a5,b5,c5⟩:=h5
 obtain⟨a6,b6,c6⟩:=h6
 obtain⟨a7,b7,c7⟩:=h7
 obtain⟨a8,b8⟩:=h8
 obtain⟨a9,b9,c9⟩:=h9
 obtain⟨yt,b10,c10⟩:=h10
 subst c10 b10 yt c9 b9 a9 b8 a8 c7 b7 a7 c6 b6 a6 c5 b5 a5 c4 b4 a4 c3 b3 a3 c2 b2 a2 c1 b1 a1 h0
 unfold mJ GL
 dsimp only at *
 rw[if_pos k1]
 exact⟨rfl,rfl⟩
theorem EF (fn:σ->Nat->Nat)(sn:σ->Nat->σ)(fl:σ->Nat->List UInt8)(sl:σ->Nat->σ){s0 s1 s2 s3 s4 s5:σ}{q5:List UInt8}(h0:G0=Fr.zero)(h1:x1=fn s0 4/\s1=sn s0 4/\G1={ G0 with k:=x1 })(h2:x2=fn s1 4/\s2=sn s1 4/\G2={ G1 with f:=x2 })(h3:x3=fn s2 4/\s3=sn s2 4/\G3={ G2 with t:=x3 })(h4:x4=fn s3 64/\s4=sn s3 64/\G4={ G3 with n:=x4 })(h5:q5=fl s4 8/\s5=sl s4 8/\G5={ G4 with tag:=q5 })(k1:¬ G2.k=1)(k2:G2.k=2):G5=(mJ fn sn fl sl s0).1/\s5=(mJ fn sn fl sl s0).2:=by
 obtain⟨a1,b1,c1⟩:=h1
 obtain⟨a2,b2,c2⟩:=h2
 obtain⟨a3,b3,c3⟩:=h3
 obtain⟨a4,b4,c4⟩:=h4
 obtain⟨a5,b5,c5⟩:=h5
 subst c5 b5 a5 c4 b4 a4 c3 b3 a3 c2 b2 a2 c1 b1 a1 h0
 unfold mJ GL
 dsimp only at *
 rw[if_neg k1,if_pos k2]
 exact⟨rfl,rfl⟩
theorem EG (fn:σ->Nat->Nat)(sn:σ->Nat->σ)(fl:σ->Nat->List UInt8)(sl:σ->Nat->σ){s0 s1 s2 s3 s4 s5 s6 s7 s8 s9 s10:σ}{x5 x6 x7 x8:Nat}{ym q9:List UInt8}{G6 G7 G8 G9 vD:Fr}(h0:G0=Fr.zero)(h1:x1=fn s0 4/\s1=sn s0 4/\G1={ G0 with k:=x1 })(h2:x2=fn s1 4/\s2=sn s1 4/\G2={ G1 with f:=x2 })(h3:x3=fn s2 4/\s3=sn s2 4/\G3={ G2 with t:=x3 })(h4:x4=fn s3 64/\s4=sn s3 64/\G4={ G3 with n:=x4 })(h5:x5=fn s4 48/\s5=sn s4 48/\G5={ G4 with m:=x5 })(h6:x6=fn s5 16/\s6=sn s5 16/\G6={ G5 with e:=x6 })(h7:x7=fn s6 24/\s7=sn s6 24/\G7={ G6 with s:=x7 })(h8:x8=fn s7 16/\s8=sn s7 16/\G8={ G7 with i:=x8 })(h9:q9=fl s8 16/\s9=sl s8 16/\G9={ G8 with key:=q9 })(h10:ym=fl s9 8/\s10=sl s9 8/\vD={ G9 with tag:=ym })(k1:¬ G2.k=1)(k2:¬ G2.k=2)(k3:G2.k=3):vD=(mJ fn sn fl sl s0).1/\s10=(mJ fn sn fl sl s0).2:=by
 obtain⟨a1,b1,c1⟩:=h1
 obtain⟨a2,b2,c2⟩:=h2
 obtain⟨a3,b3,c3⟩:=h3
 obtain⟨a4,b4,c4⟩:=h4
 obtain⟨a5,b5,c5⟩:=h5
 obtain⟨a6,b6,c6⟩:=h6
 obtain⟨a7,b7,c7⟩:=h7
 obtain⟨a8,b8,c8⟩:=h8
 obtain⟨a9,b9,c9⟩:=h9
 obtain⟨yt,b10,c10⟩:=h10
 subst c10 b10 yt c9 b9 a9 c8 b8 a8 c7 b7 a7 c6 b6 a6 c5 b5 a5 c4 b4 a4 c3 b3 a3 c2 b2 a2 c1 b1 a1 h0
 unfold mJ GL
 dsimp only at *
 rw[if_neg k1,if_neg k2,if_pos k3]
 exact⟨rfl,rfl⟩
theorem Nk (x:Option Addr)(cx:Nat)(l:List UInt8)(c q:Nat)(w:World)(hm:nU x cx l c q w ⟨0,false⟩):
  Calls Tryz.prog 78 #[.pointer (some ⟨q,0,none⟩)] w λe w'=>∃ A s,e=.returned (.agg (au (aD l).1 A))/\nU x cx l c q w' s/\Seen w' (aD l).1 A/\Apart (lT c q) w w'/\s.at_=(aD l).2.at_/\s.miss=je l:=by
 obtain⟨X0,Xb,hM0⟩:=ED x cx l c q w ⟨0,false⟩ hm
 have Cm:Hid ((Instr.build 61 #[]).run Tryz.prog (w.alloc (.cells (au Fr.zero At.zero) 61))=.ok (.agg (au Fr.zero At.zero)) (w.alloc (.cells (au Fr.zero At.zero) 61))):=run_build _ 61 _ _ (by kernel_rfl)
 have Xc:Hid ((Instr.storeAt 61 (.pointer (some ⟨w.heap.size+1,0,none⟩)) (.agg (au Fr.zero At.zero))).run Tryz.prog ((w.alloc (.cells (au Fr.zero At.zero) 61)).alloc (.cells (au Fr.zero At.zero) 61))=.ok () X0):=Xb
 obtain⟨s0,hs0⟩:=ai (⟨0,false⟩:Rs)
 obtain⟨G0,hG0⟩:=ai (Fr.zero:Fr)
 obtain⟨A0,Xd⟩:=ai (At.zero:At)
 have nG:Hid (di x cx l c q w s0 G0 A0 X0):=by rw[hs0,hG0,Xd];exact hM0
 have SL:Hid (s0=⟨0,false⟩/\G0=Fr.zero):=⟨hs0,hG0⟩
 clear Xb hM0 hm hs0 hG0 Xd
 go_enter Tryz.func78,Tryz.ntmps78
 go_upto_region 2 with (first|(refine aB rfl 61 _ rfl [] _ rfl Cm.out ?_)|(refine ah rfl 61 _ _ rfl _ _ rfl rfl Xc.out ?_)|fail)
 clear Cm Xc
 have hc:=fM x cx l c q X0 s0 4 nG.out.obj
 have bx1:=dI l s0 4
 obtain⟨x1,Em⟩:∃ z,z=bq l s0 4:=⟨_,rfl⟩
 obtain⟨s1,es1⟩:∃ z,z=bE l s0 4:=⟨_,rfl⟩
 obtain⟨G1,Gx⟩:∃ g:Fr,g={ G0 with k:=x1 }:=⟨_,rfl⟩
 rw[<-Em] at hc bx1
 rw[<-es1] at hc
 have lx1:x1<16:=bx1
 have sN:Hid (x1=bq l s0 4/\s1=bE l s0 4/\G1={ G0 with k:=x1 }):=⟨Em,es1,Gx⟩
 clear Em es1 Gx bx1
 go_wp2_with fail
 refine hc.mono ?_
 rintro e V1 ⟨rfl,hd,ha⟩
 have hM:=nG.out.call hd ha
 have d0:=hM.fr.c0
 have z0:=hM.fr.fz 0
 have ou:Hid (di x cx l c q w s1 G1 A0 (V1.setCell ⟨w.heap.size+1,0,none⟩ (.int .i64 (x1:Int)))):=
  hM.set 0 _ G1 A0 (by rw[sN.out.2.2];rfl) (by rw[sN.out.2.2];exact⟨hM.seen.key,hM.seen.body,hM.seen.tag⟩)
 clear hc hd ha hM
 go_upto_region 3 with fail
 clear d0 z0 lx1
 generalize V1.setCell ⟨w.heap.size+1,0,none⟩ (.int .i64 (x1:Int))=X1 at *
 have hc:=fM x cx l c q X1 s1 4 ou.out.obj
 have Bi:=dI l s1 4
 obtain⟨x2,Ag⟩:∃ z,z=bq l s1 4:=⟨_,rfl⟩
 obtain⟨s2,es2⟩:∃ z,z=bE l s1 4:=⟨_,rfl⟩
 obtain⟨G2,yg⟩:∃ g:Fr,g={ G1 with f:=x2 }:=⟨_,rfl⟩
 rw[<-Ag] at hc Bi
 rw[<-es2] at hc
 have lx2:x2<16:=Bi
 have pq:Hid (x2=bq l s1 4/\s2=bE l s1 4/\G2={ G1 with f:=x2 }):=⟨Ag,es2,yg⟩
 clear Ag es2 yg Bi
 go_wp2_with fail
 refine hc.mono ?_
 rintro e V2 ⟨rfl,hd,ha⟩
 have hM:=ou.out.call hd ha
 have d1:=hM.fr.c1
 have z1:=hM.fr.fz 1
 have ja:Hid (di x cx l c q w s2 G2 A0 (V2.setCell ⟨w.heap.size+1,1,none⟩ (.int .i64 (x2:Int)))):=
  hM.set 1 _ G2 A0 (by rw[pq.out.2.2];rfl) (by rw[pq.out.2.2];exact⟨hM.seen.key,hM.seen.body,hM.seen.tag⟩)
 clear hc hd ha hM
 go_upto_region 4 with fail
 clear d1 z1 lx2
 generalize V2.setCell ⟨w.heap.size+1,1,none⟩ (.int .i64 (x2:Int))=X2 at *
 have c0:=ja.out.fr.c0
 have HK:Hid ((aD l).1.k=G2.k):=by
  obtain⟨a1,b1,c1⟩:=sN.out
  obtain⟨a2,b2,c2⟩:=pq.out
  obtain⟨p1,p2⟩:=SL.out
  subst c2 b2 a2 c1 b1 a1 p1 p2
  show (aD l).1.k=_
  unfold aD mZ
  dsimp only
  split
  ·rfl
  ·split
   ·rfl
   ·split<;>rfl
 by_cases k1:G2.k=1
 ·have g1:(G2.k==1)=true:=by simp[k1]
  have K:Hid (G2.k=1):=k1
  clear k1
  go_upto_region 7 with fail
  clear c0
  have hc:=fM x cx l c q X2 s2 16 ja.out.obj
  have Ca:=dI l s2 16
  obtain⟨x3,yh⟩:∃ z,z=bq l s2 16:=⟨_,rfl⟩
  obtain⟨s3,wL⟩:∃ z,z=bE l s2 16:=⟨_,rfl⟩
  obtain⟨G3,Dz⟩:∃ g:Fr,g={ G2 with e:=x3 }:=⟨_,rfl⟩
  rw[<-yh] at hc Ca
  rw[<-wL] at hc
  have Xe:x3<65536:=Ca
  have vL:Hid (x3=bq l s2 16/\s3=bE l s2 16/\G3={ G2 with e:=x3 }):=⟨yh,wL,Dz⟩
  clear yh wL Dz Ca
  go_wp2_with fail
  refine hc.mono ?_
  rintro e V3 ⟨rfl,hd,ha⟩
  have hM:=ja.out.call hd ha
  have d3:=hM.fr.c3
  have z3:=hM.fr.fz 3
  have nP:Hid (di x cx l c q w s3 G3 A0 (V3.setCell ⟨w.heap.size+1,3,none⟩ (.int .i64 (x3:Int)))):=
   hM.set 3 _ G3 A0 (by rw[vL.out.2.2];rfl) (by rw[vL.out.2.2];exact⟨hM.seen.key,hM.seen.body,hM.seen.tag⟩)
  clear hc hd ha hM
  go_upto_region 8 with fail
  clear d3 z3 Xe
  generalize V3.setCell ⟨w.heap.size+1,3,none⟩ (.int .i64 (x3:Int))=X3 at *
  have hc:=fM x cx l c q X3 s3 24 nP.out.obj
  have Cb:=dI l s3 24
  obtain⟨x4,Ah⟩:∃ z,z=bq l s3 24:=⟨_,rfl⟩
  obtain⟨s4,wM⟩:∃ z,z=bE l s3 24:=⟨_,rfl⟩
  obtain⟨G4,Ai⟩:∃ g:Fr,g={ G3 with r:=x4 }:=⟨_,rfl⟩
  rw[<-Ah] at hc Cb
  rw[<-wM] at hc
  have Xf:x4<16777216:=Cb
  have uN:Hid (x4=bq l s3 24/\s4=bE l s3 24/\G4={ G3 with r:=x4 }):=⟨Ah,wM,Ai⟩
  clear Ah wM Ai Cb
  go_wp2_with fail
  refine hc.mono ?_
  rintro e V4 ⟨rfl,hd,ha⟩
  have hM:=nP.out.call hd ha
  have d5:=hM.fr.c5
  have z5:=hM.fr.fz 5
  have oI:Hid (di x cx l c q w s4 G4 A0 (V4.setCell ⟨w.heap.size+1,5,none⟩ (.int .i64 (x4:Int)))):=
   hM.set 5 _ G4 A0 (by rw[uN.out.2.2];rfl) (by rw[uN.out.2.2];exact⟨hM.seen.key,hM.seen.body,hM.seen.tag⟩)
  clear hc hd ha hM
  go_upto_region 9 with fail
  clear d5 z5 Xf
  generalize V4.setCell ⟨w.heap.size+1,5,none⟩ (.int .i64 (x4:Int))=X4 at *
  have hc:=fM x cx l c q X4 s4 8 oI.out.obj
  have Px:=dI l s4 8
  obtain⟨x5,M3⟩:∃ z,z=bq l s4 8:=⟨_,rfl⟩
  obtain⟨s5,Aj⟩:∃ z,z=bE l s4 8:=⟨_,rfl⟩
  obtain⟨G5,DC⟩:∃ g:Fr,g={ G4 with v:=x5 }:=⟨_,rfl⟩
  rw[<-M3] at hc Px
  rw[<-Aj] at hc
  have lx5:x5<256:=Px
  have yj:Hid (x5=bq l s4 8/\s5=bE l s4 8/\G5={ G4 with v:=x5 }):=⟨M3,Aj,DC⟩
  clear M3 Aj DC Px
  go_wp2_with fail
  refine hc.mono ?_
  rintro e V5 ⟨rfl,hd,ha⟩
  have hM:=oI.out.call hd ha
  have d8:=hM.fr.c8
  have z8:=hM.fr.fz 8
  have qx:Hid (di x cx l c q w s5 G5 A0 (V5.setCell ⟨w.heap.size+1,8,none⟩ (.int .i64 (x5:Int)))):=
   hM.set 8 _ G5 A0 (by rw[yj.out.2.2];rfl) (by rw[yj.out.2.2];exact⟨hM.seen.key,hM.seen.body,hM.seen.tag⟩)
  clear hc hd ha hM
  go_upto_region 10 with fail
  clear d8 z8 lx5
  generalize V5.setCell ⟨w.heap.size+1,8,none⟩ (.int .i64 (x5:Int))=X5 at *
  have hc:=fM x cx l c q X5 s5 16 qx.out.obj
  have MW:=dI l s5 16
  obtain⟨x6,MX⟩:∃ z,z=bq l s5 16:=⟨_,rfl⟩
  obtain⟨s6,Eo⟩:∃ z,z=bE l s5 16:=⟨_,rfl⟩
  obtain⟨G6,QE⟩:∃ g:Fr,g={ G5 with i:=x6 }:=⟨_,rfl⟩
  rw[<-MX] at hc MW
  rw[<-Eo] at hc
  have lx6:x6<65536:=MW
  have Gy:Hid (x6=bq l s5 16/\s6=bE l s5 16/\G6={ G5 with i:=x6 }):=⟨MX,Eo,QE⟩
  clear MX Eo QE MW
  go_wp2_with fail
  refine hc.mono ?_
  rintro e V6 ⟨rfl,hd,ha⟩
  have hM:=qx.out.call hd ha
  have d9:=hM.fr.c9
  have z9:=hM.fr.fz 9
  have vM:Hid (di x cx l c q w s6 G6 A0 (V6.setCell ⟨w.heap.size+1,9,none⟩ (.int .i64 (x6:Int)))):=
   hM.set 9 _ G6 A0 (by rw[Gy.out.2.2];rfl) (by rw[Gy.out.2.2];exact⟨hM.seen.key,hM.seen.body,hM.seen.tag⟩)
  clear hc hd ha hM
  go_upto_region 11 with fail
  clear d9 z9 lx6
  generalize V6.setCell ⟨w.heap.size+1,9,none⟩ (.int .i64 (x6:Int))=X6 at *
  have hc:=nV x cx l c q X6 s6 16 vM.out.obj
  obtain⟨s7,MZ⟩:∃ z,z=eX l s6 16:=⟨_,rfl⟩
  rw[<-MZ] at hc
  have WJ:Hid (s7=eX l s6 16):=MZ
  clear MZ
  go_wp2_with fail
  refine hc.mono ?_
  rintro e V7 ⟨a7,M0,q7,WK,rfl,hq,hd,ha⟩
  obtain⟨G7,QC⟩:∃ g:Fr,g={ G6 with key:=q7 }:=⟨_,rfl⟩
  have hM:=vM.out.call hd ha
  have Lb:Hid (q7=iZ l s6 16/\s7=eX l s6 16/\G7={ G6 with key:=q7 }):=⟨WK.out,WJ.out,QC⟩
  have d10:=hM.fr.c10
  have Jq:=hM.fr.fz 10
  have yT:Hid (di x cx l c q w s7 G7 { A0 with ka:=a7,kc:=M0 } (V7.setCell ⟨w.heap.size+1,10,none⟩ (.slice a7 q7.length M0))):=
   hM.set 10 _ G7 { A0 with ka:=a7,kc:=M0 } (by rw[Lb.out.2.2];rfl) (by rw[Lb.out.2.2];exact⟨hq,hM.seen.body,hM.seen.tag⟩)
  clear hc hd ha hM hq QC WK WJ
  go_upto_region 12 with fail
  clear d10 Jq
  generalize V7.setCell ⟨w.heap.size+1,10,none⟩ (.slice a7 q7.length M0)=X7 at *
  generalize ({ A0 with ka:=a7,kc:=M0 }:At)=A7 at *
  have hc:=fM x cx l c q X7 s7 5 yT.out.obj
  have Uz:=dI l s7 5
  obtain⟨x8,UA⟩:∃ z,z=bq l s7 5:=⟨_,rfl⟩
  obtain⟨s8,UB⟩:∃ z,z=bE l s7 5:=⟨_,rfl⟩
  rw[<-UA] at hc Uz
  rw[<-UB] at hc
  have lx8:x8<32:=Uz
  have Xg:Hid (x8=bq l s7 5/\s8=bE l s7 5):=⟨UA,UB⟩
  clear UA UB Uz
  go_wp2_with fail
  refine hc.mono ?_
  rintro e X8 ⟨rfl,hd,ha⟩
  have Jv:Hid (di x cx l c q w s8 G7 A7 X8):=yT.out.call hd ha
  clear hc hd ha
  have hc:=nV x cx l c q X8 s8 x8 Jv.out.obj
  obtain⟨s9,UC⟩:∃ z,z=eX l s8 x8:=⟨_,rfl⟩
  rw[<-UC] at hc
  have Xh:Hid (s9=eX l s8 x8):=UC
  clear UC
  go_wp2_with fail
  refine hc.mono ?_
  rintro e V9 ⟨a9,Nl,q9,Xi,rfl,hq,hd,ha⟩
  obtain⟨G9,Xj⟩:∃ g:Fr,g={ G7 with body:=q9 }:=⟨_,rfl⟩
  have hM:=Jv.out.call hd ha
  have UD:Hid (q9=iZ l s8 x8/\s9=eX l s8 x8/\G9={ G7 with body:=q9 }):=⟨Xi.out,Xh.out,Xj⟩
  have d11:=hM.fr.c11
  have WL:=hM.fr.fz 11
  have Xk:Hid (di x cx l c q w s9 G9 { A7 with ba:=a9,bc:=Nl } (V9.setCell ⟨w.heap.size+1,11,none⟩ (.slice a9 q9.length Nl))):=
   hM.set 11 _ G9 { A7 with ba:=a9,bc:=Nl } (by rw[UD.out.2.2];rfl) (by rw[UD.out.2.2];exact⟨hM.seen.key,hq,hM.seen.tag⟩)
  clear hc hd ha hM hq Xj Xi Xh
  go_upto_region 24 with fail
  clear d11 WL
  generalize V9.setCell ⟨w.heap.size+1,11,none⟩ (.slice a9 q9.length Nl)=X9 at *
  generalize ({ A7 with ba:=a9,bc:=Nl }:At)=A9 at *
  have hc:=nV x cx l c q X9 s9 8 Xk.out.obj
  obtain⟨s10,EH⟩:∃ z,z=eX l s9 8:=⟨_,rfl⟩
  rw[<-EH] at hc
  have Nn:Hid (s10=eX l s9 8):=EH
  clear EH
  go_wp2_with fail
  refine hc.mono ?_
  rintro e Xl ⟨yt,wV,ym,Np,rfl,hq,hd,ha⟩
  obtain⟨vD,Nq⟩:∃ g:Fr,g={ G9 with tag:=ym }:=⟨_,rfl⟩
  have hM:=Xk.out.call hd ha
  have EI:Hid (ym=iZ l s9 8/\s10=eX l s9 8/\vD={ G9 with tag:=ym }):=⟨Np.out,Nn.out,Nq⟩
  have d12:=hM.fr.c12
  have z12:=hM.fr.fz 12
  have Nr:Hid (di x cx l c q w s10 vD { A9 with ta:=yt,tc:=wV } (Xl.setCell ⟨w.heap.size+1,12,none⟩ (.slice yt ym.length wV))):=
   hM.set 12 _ vD { A9 with ta:=yt,tc:=wV } (by rw[EI.out.2.2];rfl) (by rw[EI.out.2.2];exact⟨hM.seen.key,hM.seen.body,hq⟩)
  clear hc hd ha hM hq Nq Np Nn
  go_upto_region 25 with fail
  clear d12 z12
  generalize Xl.setCell ⟨w.heap.size+1,12,none⟩ (.slice yt ym.length wV)=UE at *
  generalize ({ A9 with ta:=yt,tc:=wV }:At)=Ns at *
  obtain⟨hF,hSS⟩:=EE (bq l) (bE l) (iZ l) (eX l) SL.out.2 sN.out pq.out vL.out uN.out yj.out Gy.out Lb.out Xg.out UD.out EI.out K.out
  have UF:vD=(aD l).1/\s10.at_=(aD l).2.at_/\s10.miss=je l:=by
   rw[SL.out.1,uq] at hF hSS
   refine⟨hF,by rw[hSS],?_⟩
   rw[hSS]
   unfold je
   rw[HK.out]
   exact(if_pos (.inl K.out)).symm
  clear hF hSS
  obtain⟨hE1,hE2,Nt⟩:=UF
  obtain⟨Y,hst,hY,Nu,pG,Nv⟩:=nW Nr.out
  have HL:Hid ((Instr.loadAt 61 (.pointer (some ⟨w.heap.size+1,0,none⟩))).run Tryz.prog UE=.ok (.agg (au vD Ns)) UE):=Nr.out.fr.loads
  have HST:Hid ((Instr.storeAt 61 (.pointer (some ⟨w.heap.size,0,none⟩)) (.agg (au vD Ns))).run Tryz.prog UE=.ok () Y):=hst
  have HE:Hid (aj Y w.heap.size vD Ns/\nU x cx l c q Y s10/\Seen Y vD Ns/\Apart (lT c q) w Y/\vD=(aD l).1/\s10.at_=(aD l).2.at_/\s10.miss=je l):=⟨hY,Nu,pG,Nv,hE1,hE2,Nt⟩
  clear hst hY Nu pG Nv hE1 hE2 Nt
  go_wp2_with (first|(refine af rfl 61 _ rfl _ _ rfl HL.out ?_)|(refine ah rfl 61 _ _ rfl _ _ rfl rfl HST.out ?_)|fail)
  refine bodyPost_ret (jP rfl rfl HE.out.1) rfl ?_
  obtain⟨h1,h2,h3,h4,h5,h6,h7⟩:=HE.out
  exact⟨Ns,s10,by rw[h5],h2,by rw[<-h5];exact h3,h4,h6,h7⟩
 ·have g1:(G2.k==1)=false:=by simp[k1]
  by_cases k2:G2.k=2
  ·have g2:(G2.k==2)=true:=by simp[k2]
   have K1:Hid (¬ G2.k=1):=k1
   have K:Hid (G2.k=2):=k2
   clear k1 k2
   go_upto_region 14 with fail
   clear c0
   have hc:=fM x cx l c q X2 s2 4 ja.out.obj
   have Ca:=dI l s2 4
   obtain⟨x3,yh⟩:∃ z,z=bq l s2 4:=⟨_,rfl⟩
   obtain⟨s3,wL⟩:∃ z,z=bE l s2 4:=⟨_,rfl⟩
   obtain⟨G3,Dz⟩:∃ g:Fr,g={ G2 with t:=x3 }:=⟨_,rfl⟩
   rw[<-yh] at hc Ca
   rw[<-wL] at hc
   have Xe:x3<16:=Ca
   have vL:Hid (x3=bq l s2 4/\s3=bE l s2 4/\G3={ G2 with t:=x3 }):=⟨yh,wL,Dz⟩
   clear yh wL Dz Ca
   go_wp2_with fail
   refine hc.mono ?_
   rintro e V3 ⟨rfl,hd,ha⟩
   have hM:=ja.out.call hd ha
   have d2:=hM.fr.c2
   have z2:=hM.fr.fz 2
   have nP:Hid (di x cx l c q w s3 G3 A0 (V3.setCell ⟨w.heap.size+1,2,none⟩ (.int .i64 (x3:Int)))):=
    hM.set 2 _ G3 A0 (by rw[vL.out.2.2];rfl) (by rw[vL.out.2.2];exact⟨hM.seen.key,hM.seen.body,hM.seen.tag⟩)
   clear hc hd ha hM
   go_upto_region 15 with fail
   clear d2 z2 Xe
   generalize V3.setCell ⟨w.heap.size+1,2,none⟩ (.int .i64 (x3:Int))=X3 at *
   have hc:=fM x cx l c q X3 s3 64 nP.out.obj
   have Cb:=dI l s3 64
   obtain⟨x4,Ah⟩:∃ z,z=bq l s3 64:=⟨_,rfl⟩
   obtain⟨s4,wM⟩:∃ z,z=bE l s3 64:=⟨_,rfl⟩
   obtain⟨G4,Ai⟩:∃ g:Fr,g={ G3 with n:=x4 }:=⟨_,rfl⟩
   rw[<-Ah] at hc Cb
   rw[<-wM] at hc
   have Xf:x4<18446744073709551616:=Cb
   have uN:Hid (x4=bq l s3 64/\s4=bE l s3 64/\G4={ G3 with n:=x4 }):=⟨Ah,wM,Ai⟩
   clear Ah wM Ai Cb
   go_wp2_with fail
   refine hc.mono ?_
   rintro e V4 ⟨rfl,hd,ha⟩
   have hM:=nP.out.call hd ha
   have d6:=hM.fr.c6
   have z6:=hM.fr.fz 6
   have oI:Hid (di x cx l c q w s4 G4 A0 (V4.setCell ⟨w.heap.size+1,6,none⟩ (.int .u64 (x4:Int)))):=
    hM.set 6 _ G4 A0 (by rw[uN.out.2.2];rfl) (by rw[uN.out.2.2];exact⟨hM.seen.key,hM.seen.body,hM.seen.tag⟩)
   clear hc hd ha hM
   go_upto_region 24 with fail
   clear d6 z6 Xf
   generalize V4.setCell ⟨w.heap.size+1,6,none⟩ (.int .u64 (x4:Int))=X4 at *
   have hc:=nV x cx l c q X4 s4 8 oI.out.obj
   obtain⟨s5,Aj⟩:∃ z,z=eX l s4 8:=⟨_,rfl⟩
   rw[<-Aj] at hc
   have WH:Hid (s5=eX l s4 8):=Aj
   clear Aj
   go_wp2_with fail
   refine hc.mono ?_
   rintro e V5 ⟨a5,MV,q5,WI,rfl,hq,hd,ha⟩
   obtain⟨G5,DC⟩:∃ g:Fr,g={ G4 with tag:=q5 }:=⟨_,rfl⟩
   have hM:=oI.out.call hd ha
   have yj:Hid (q5=iZ l s4 8/\s5=eX l s4 8/\G5={ G4 with tag:=q5 }):=⟨WI.out,WH.out,DC⟩
   have d12:=hM.fr.c12
   have z12:=hM.fr.fz 12
   have qx:Hid (di x cx l c q w s5 G5 { A0 with ta:=a5,tc:=MV } (V5.setCell ⟨w.heap.size+1,12,none⟩ (.slice a5 q5.length MV))):=
    hM.set 12 _ G5 { A0 with ta:=a5,tc:=MV } (by rw[yj.out.2.2];rfl) (by rw[yj.out.2.2];exact⟨hM.seen.key,hM.seen.body,hq⟩)
   clear hc hd ha hM hq DC WI WH
   go_upto_region 25 with fail
   clear d12 z12
   generalize V5.setCell ⟨w.heap.size+1,12,none⟩ (.slice a5 q5.length MV)=X5 at *
   generalize ({ A0 with ta:=a5,tc:=MV }:At)=A5 at *
   obtain⟨hF,hSS⟩:=EF (bq l) (bE l) (iZ l) (eX l) SL.out.2 sN.out pq.out vL.out uN.out yj.out K1.out K.out
   have UF:G5=(aD l).1/\s5.at_=(aD l).2.at_/\s5.miss=je l:=by
    rw[SL.out.1,uq] at hF hSS
    refine⟨hF,by rw[hSS],?_⟩
    rw[hSS]
    unfold je
    rw[HK.out]
    exact(if_pos (.inr (.inl K.out))).symm
   clear hF hSS
   obtain⟨hE1,hE2,Nt⟩:=UF
   obtain⟨Y,hst,hY,Nu,pG,Nv⟩:=nW qx.out
   have HL:Hid ((Instr.loadAt 61 (.pointer (some ⟨w.heap.size+1,0,none⟩))).run Tryz.prog X5=.ok (.agg (au G5 A5)) X5):=qx.out.fr.loads
   have HST:Hid ((Instr.storeAt 61 (.pointer (some ⟨w.heap.size,0,none⟩)) (.agg (au G5 A5))).run Tryz.prog X5=.ok () Y):=hst
   have HE:Hid (aj Y w.heap.size G5 A5/\nU x cx l c q Y s5/\Seen Y G5 A5/\Apart (lT c q) w Y/\G5=(aD l).1/\s5.at_=(aD l).2.at_/\s5.miss=je l):=⟨hY,Nu,pG,Nv,hE1,hE2,Nt⟩
   clear hst hY Nu pG Nv hE1 hE2 Nt
   go_wp2_with (first|(refine af rfl 61 _ rfl _ _ rfl HL.out ?_)|(refine ah rfl 61 _ _ rfl _ _ rfl rfl HST.out ?_)|fail)
   refine bodyPost_ret (jP rfl rfl HE.out.1) rfl ?_
   obtain⟨h1,h2,h3,h4,h5,h6,h7⟩:=HE.out
   exact⟨A5,s5,by rw[h5],h2,by rw[<-h5];exact h3,h4,h6,h7⟩
  ·have g2:(G2.k==2)=false:=by simp[k2]
   by_cases k3:G2.k=3
   ·have g3:(G2.k==3)=true:=by simp[k3]
    have K1:Hid (¬ G2.k=1):=k1
    have K2:Hid (¬ G2.k=2):=k2
    have K:Hid (G2.k=3):=k3
    clear k1 k2 k3
    go_upto_region 17 with fail
    clear c0
    have hc:=fM x cx l c q X2 s2 4 ja.out.obj
    have Ca:=dI l s2 4
    obtain⟨x3,yh⟩:∃ z,z=bq l s2 4:=⟨_,rfl⟩
    obtain⟨s3,wL⟩:∃ z,z=bE l s2 4:=⟨_,rfl⟩
    obtain⟨G3,Dz⟩:∃ g:Fr,g={ G2 with t:=x3 }:=⟨_,rfl⟩
    rw[<-yh] at hc Ca
    rw[<-wL] at hc
    have Xe:x3<16:=Ca
    have vL:Hid (x3=bq l s2 4/\s3=bE l s2 4/\G3={ G2 with t:=x3 }):=⟨yh,wL,Dz⟩
    clear yh wL Dz Ca
    go_wp2_with fail
    refine hc.mono ?_
    rintro e V3 ⟨rfl,hd,ha⟩
    have hM:=ja.out.call hd ha
    have d2:=hM.fr.c2
    have z2:=hM.fr.fz 2
    have nP:Hid (di x cx l c q w s3 G3 A0 (V3.setCell ⟨w.heap.size+1,2,none⟩ (.int .i64 (x3:Int)))):=
     hM.set 2 _ G3 A0 (by rw[vL.out.2.2];rfl) (by rw[vL.out.2.2];exact⟨hM.seen.key,hM.seen.body,hM.seen.tag⟩)
    clear hc hd ha hM
    go_upto_region 18 with fail
    clear d2 z2 Xe
    generalize V3.setCell ⟨w.heap.size+1,2,none⟩ (.int .i64 (x3:Int))=X3 at *
    have hc:=fM x cx l c q X3 s3 64 nP.out.obj
    have Cb:=dI l s3 64
    obtain⟨x4,Ah⟩:∃ z,z=bq l s3 64:=⟨_,rfl⟩
    obtain⟨s4,wM⟩:∃ z,z=bE l s3 64:=⟨_,rfl⟩
    obtain⟨G4,Ai⟩:∃ g:Fr,g={ G3 with n:=x4 }:=⟨_,rfl⟩
    rw[<-Ah] at hc Cb
    rw[<-wM] at hc
    have Xf:x4<18446744073709551616:=Cb
    have uN:Hid (x4=bq l s3 64/\s4=bE l s3 64/\G4={ G3 with n:=x4 }):=⟨Ah,wM,Ai⟩
    clear Ah wM Ai Cb
    go_wp2_with fail
    refine hc.mono ?_
    rintro e V4 ⟨rfl,hd,ha⟩
    have hM:=nP.out.call hd ha
    have d6:=hM.fr.c6
    have z6:=hM.fr.fz 6
    have oI:Hid (di x cx l c q w s4 G4 A0 (V4.setCell ⟨w.heap.size+1,6,none⟩ (.int .u64 (x4:Int)))):=
     hM.set 6 _ G4 A0 (by rw[uN.out.2.2];rfl) (by rw[uN.out.2.2];exact⟨hM.seen.key,hM.seen.body,hM.seen.tag⟩)
    clear hc hd ha hM
    go_upto_region 19 with fail
    clear d6 z6 Xf
    generalize V4.setCell ⟨w.heap.size+1,6,none⟩ (.int .u64 (x4:Int))=X4 at *
    have hc:=fM x cx l c q X4 s4 48 oI.out.obj
    have Px:=dI l s4 48
    obtain⟨x5,M3⟩:∃ z,z=bq l s4 48:=⟨_,rfl⟩
    obtain⟨s5,Aj⟩:∃ z,z=bE l s4 48:=⟨_,rfl⟩
    obtain⟨G5,DC⟩:∃ g:Fr,g={ G4 with m:=x5 }:=⟨_,rfl⟩
    rw[<-M3] at hc Px
    rw[<-Aj] at hc
    have lx5:x5<281474976710656:=Px
    have yj:Hid (x5=bq l s4 48/\s5=bE l s4 48/\G5={ G4 with m:=x5 }):=⟨M3,Aj,DC⟩
    clear M3 Aj DC Px
    go_wp2_with fail
    refine hc.mono ?_
    rintro e V5 ⟨rfl,hd,ha⟩
    have hM:=oI.out.call hd ha
    have d7:=hM.fr.c7
    have z7:=hM.fr.fz 7
    have qx:Hid (di x cx l c q w s5 G5 A0 (V5.setCell ⟨w.heap.size+1,7,none⟩ (.int .i64 (x5:Int)))):=
     hM.set 7 _ G5 A0 (by rw[yj.out.2.2];rfl) (by rw[yj.out.2.2];exact⟨hM.seen.key,hM.seen.body,hM.seen.tag⟩)
    clear hc hd ha hM
    go_upto_region 20 with fail
    clear d7 z7 lx5
    generalize V5.setCell ⟨w.heap.size+1,7,none⟩ (.int .i64 (x5:Int))=X5 at *
    have hc:=fM x cx l c q X5 s5 16 qx.out.obj
    have MW:=dI l s5 16
    obtain⟨x6,MX⟩:∃ z,z=bq l s5 16:=⟨_,rfl⟩
    obtain⟨s6,Eo⟩:∃ z,z=bE l s5 16:=⟨_,rfl⟩
    obtain⟨G6,QE⟩:∃ g:Fr,g={ G5 with e:=x6 }:=⟨_,rfl⟩
    rw[<-MX] at hc MW
    rw[<-Eo] at hc
    have lx6:x6<65536:=MW
    have Gy:Hid (x6=bq l s5 16/\s6=bE l s5 16/\G6={ G5 with e:=x6 }):=⟨MX,Eo,QE⟩
    clear MX Eo QE MW
    go_wp2_with fail
    refine hc.mono ?_
    rintro e V6 ⟨rfl,hd,ha⟩
    have hM:=qx.out.call hd ha
    have d3:=hM.fr.c3
    have z3:=hM.fr.fz 3
    have vM:Hid (di x cx l c q w s6 G6 A0 (V6.setCell ⟨w.heap.size+1,3,none⟩ (.int .i64 (x6:Int)))):=
     hM.set 3 _ G6 A0 (by rw[Gy.out.2.2];rfl) (by rw[Gy.out.2.2];exact⟨hM.seen.key,hM.seen.body,hM.seen.tag⟩)
    clear hc hd ha hM
    go_upto_region 21 with fail
    clear d3 z3 lx6
    generalize V6.setCell ⟨w.heap.size+1,3,none⟩ (.int .i64 (x6:Int))=X6 at *
    have hc:=fM x cx l c q X6 s6 24 vM.out.obj
    have bx7:=dI l s6 24
    obtain⟨x7,ex7⟩:∃ z,z=bq l s6 24:=⟨_,rfl⟩
    obtain⟨s7,MZ⟩:∃ z,z=bE l s6 24:=⟨_,rfl⟩
    obtain⟨G7,QC⟩:∃ g:Fr,g={ G6 with s:=x7 }:=⟨_,rfl⟩
    rw[<-ex7] at hc bx7
    rw[<-MZ] at hc
    have lx7:x7<16777216:=bx7
    have Lb:Hid (x7=bq l s6 24/\s7=bE l s6 24/\G7={ G6 with s:=x7 }):=⟨ex7,MZ,QC⟩
    clear ex7 MZ QC bx7
    go_wp2_with fail
    refine hc.mono ?_
    rintro e V7 ⟨rfl,hd,ha⟩
    have hM:=vM.out.call hd ha
    have d4:=hM.fr.c4
    have z4:=hM.fr.fz 4
    have yT:Hid (di x cx l c q w s7 G7 A0 (V7.setCell ⟨w.heap.size+1,4,none⟩ (.int .i64 (x7:Int)))):=
     hM.set 4 _ G7 A0 (by rw[Lb.out.2.2];rfl) (by rw[Lb.out.2.2];exact⟨hM.seen.key,hM.seen.body,hM.seen.tag⟩)
    clear hc hd ha hM
    go_upto_region 22 with fail
    clear d4 z4 lx7
    generalize V7.setCell ⟨w.heap.size+1,4,none⟩ (.int .i64 (x7:Int))=X7 at *
    have hc:=fM x cx l c q X7 s7 16 yT.out.obj
    have Uz:=dI l s7 16
    obtain⟨x8,UA⟩:∃ z,z=bq l s7 16:=⟨_,rfl⟩
    obtain⟨s8,UB⟩:∃ z,z=bE l s7 16:=⟨_,rfl⟩
    obtain⟨G8,eG8⟩:∃ g:Fr,g={ G7 with i:=x8 }:=⟨_,rfl⟩
    rw[<-UA] at hc Uz
    rw[<-UB] at hc
    have lx8:x8<65536:=Uz
    have Xg:Hid (x8=bq l s7 16/\s8=bE l s7 16/\G8={ G7 with i:=x8 }):=⟨UA,UB,eG8⟩
    clear UA UB eG8 Uz
    go_wp2_with fail
    refine hc.mono ?_
    rintro e V8 ⟨rfl,hd,ha⟩
    have hM:=yT.out.call hd ha
    have d9:=hM.fr.c9
    have z9:=hM.fr.fz 9
    have Jv:Hid (di x cx l c q w s8 G8 A0 (V8.setCell ⟨w.heap.size+1,9,none⟩ (.int .i64 (x8:Int)))):=
     hM.set 9 _ G8 A0 (by rw[Xg.out.2.2];rfl) (by rw[Xg.out.2.2];exact⟨hM.seen.key,hM.seen.body,hM.seen.tag⟩)
    clear hc hd ha hM
    go_upto_region 23 with fail
    clear d9 z9 lx8
    generalize V8.setCell ⟨w.heap.size+1,9,none⟩ (.int .i64 (x8:Int))=X8 at *
    have hc:=nV x cx l c q X8 s8 16 Jv.out.obj
    obtain⟨s9,UC⟩:∃ z,z=eX l s8 16:=⟨_,rfl⟩
    rw[<-UC] at hc
    have Xh:Hid (s9=eX l s8 16):=UC
    clear UC
    go_wp2_with fail
    refine hc.mono ?_
    rintro e V9 ⟨a9,Nl,q9,Xi,rfl,hq,hd,ha⟩
    obtain⟨G9,Xj⟩:∃ g:Fr,g={ G8 with key:=q9 }:=⟨_,rfl⟩
    have hM:=Jv.out.call hd ha
    have UD:Hid (q9=iZ l s8 16/\s9=eX l s8 16/\G9={ G8 with key:=q9 }):=⟨Xi.out,Xh.out,Xj⟩
    have d10:=hM.fr.c10
    have Jq:=hM.fr.fz 10
    have Xk:Hid (di x cx l c q w s9 G9 { A0 with ka:=a9,kc:=Nl } (V9.setCell ⟨w.heap.size+1,10,none⟩ (.slice a9 q9.length Nl))):=
     hM.set 10 _ G9 { A0 with ka:=a9,kc:=Nl } (by rw[UD.out.2.2];rfl) (by rw[UD.out.2.2];exact⟨hq,hM.seen.body,hM.seen.tag⟩)
    clear hc hd ha hM hq Xj Xi Xh
    go_upto_region 24 with fail
    clear d10 Jq
    generalize V9.setCell ⟨w.heap.size+1,10,none⟩ (.slice a9 q9.length Nl)=X9 at *
    generalize ({ A0 with ka:=a9,kc:=Nl }:At)=A9 at *
    have hc:=nV x cx l c q X9 s9 8 Xk.out.obj
    obtain⟨s10,EH⟩:∃ z,z=eX l s9 8:=⟨_,rfl⟩
    rw[<-EH] at hc
    have Nn:Hid (s10=eX l s9 8):=EH
    clear EH
    go_wp2_with fail
    refine hc.mono ?_
    rintro e Xl ⟨yt,wV,ym,Np,rfl,hq,hd,ha⟩
    obtain⟨vD,Nq⟩:∃ g:Fr,g={ G9 with tag:=ym }:=⟨_,rfl⟩
    have hM:=Xk.out.call hd ha
    have EI:Hid (ym=iZ l s9 8/\s10=eX l s9 8/\vD={ G9 with tag:=ym }):=⟨Np.out,Nn.out,Nq⟩
    have d12:=hM.fr.c12
    have z12:=hM.fr.fz 12
    have Nr:Hid (di x cx l c q w s10 vD { A9 with ta:=yt,tc:=wV } (Xl.setCell ⟨w.heap.size+1,12,none⟩ (.slice yt ym.length wV))):=
     hM.set 12 _ vD { A9 with ta:=yt,tc:=wV } (by rw[EI.out.2.2];rfl) (by rw[EI.out.2.2];exact⟨hM.seen.key,hM.seen.body,hq⟩)
    clear hc hd ha hM hq Nq Np Nn
    go_upto_region 25 with fail
    clear d12 z12
    generalize Xl.setCell ⟨w.heap.size+1,12,none⟩ (.slice yt ym.length wV)=UE at *
    generalize ({ A9 with ta:=yt,tc:=wV }:At)=Ns at *
    obtain⟨hF,hSS⟩:=EG (bq l) (bE l) (iZ l) (eX l) SL.out.2 sN.out pq.out vL.out uN.out yj.out Gy.out Lb.out Xg.out UD.out EI.out K1.out K2.out K.out
    have UF:vD=(aD l).1/\s10.at_=(aD l).2.at_/\s10.miss=je l:=by
     rw[SL.out.1,uq] at hF hSS
     refine⟨hF,by rw[hSS],?_⟩
     rw[hSS]
     unfold je
     rw[HK.out]
     exact(if_pos (.inr (.inr K.out))).symm
    clear hF hSS
    obtain⟨hE1,hE2,Nt⟩:=UF
    obtain⟨Y,hst,hY,Nu,pG,Nv⟩:=nW Nr.out
    have HL:Hid ((Instr.loadAt 61 (.pointer (some ⟨w.heap.size+1,0,none⟩))).run Tryz.prog UE=.ok (.agg (au vD Ns)) UE):=Nr.out.fr.loads
    have HST:Hid ((Instr.storeAt 61 (.pointer (some ⟨w.heap.size,0,none⟩)) (.agg (au vD Ns))).run Tryz.prog UE=.ok () Y):=hst
    have HE:Hid (aj Y w.heap.size vD Ns/\nU x cx l c q Y s10/\Seen Y vD Ns/\Apart (lT c q) w Y/\vD=(aD l).1/\s10.at_=(aD l).2.at_/\s10.miss=je l):=⟨hY,Nu,pG,Nv,hE1,hE2,Nt⟩
    clear hst hY Nu pG Nv hE1 hE2 Nt
    go_wp2_with (first|(refine af rfl 61 _ rfl _ _ rfl HL.out ?_)|(refine ah rfl 61 _ _ rfl _ _ rfl rfl HST.out ?_)|fail)
    refine bodyPost_ret (jP rfl rfl HE.out.1) rfl ?_
    obtain⟨h1,h2,h3,h4,h5,h6,h7⟩:=HE.out
    exact⟨Ns,s10,by rw[h5],h2,by rw[<-h5];exact h3,h4,h6,h7⟩
   ·have g3:(G2.k==3)=false:=by simp[k3]
    have K1:Hid (¬ G2.k=1):=k1
    have K2:Hid (¬ G2.k=2):=k2
    have K3:Hid (¬ G2.k=3):=k3
    obtain⟨_,q1,f1⟩:=ja.out.obj.cells
    obtain⟨s3,wL⟩:∃ z:Rs,z=⟨s2.at_,true⟩:=⟨_,rfl⟩
    have nP:Hid (di x cx l c q w s3 G2 A0 (X2.setCell ⟨q,1,none⟩ (.bool true))):=by rw[wL];exact ja.out.mark
    have vL:Hid (s3=⟨s2.at_,true⟩):=wL
    clear k1 k2 k3 wL
    go_upto_region 24 with fail
    clear c0 q1 f1
    generalize X2.setCell ⟨q,1,none⟩ (.bool true)=X3 at *
    have hc:=nV x cx l c q X3 s3 8 nP.out.obj
    obtain⟨s4,wM⟩:∃ z,z=eX l s3 8:=⟨_,rfl⟩
    rw[<-wM] at hc
    have ES4:Hid (s4=eX l s3 8):=wM
    clear wM
    go_wp2_with fail
    refine hc.mono ?_
    rintro e V4 ⟨a4,Xm,q4,eq4,rfl,hq,hd,ha⟩
    obtain⟨G4,Ai⟩:∃ g:Fr,g={ G2 with tag:=q4 }:=⟨_,rfl⟩
    have hM:=nP.out.call hd ha
    have uN:Hid (q4=iZ l s3 8/\s4=eX l s3 8/\G4={ G2 with tag:=q4 }):=⟨eq4.out,ES4.out,Ai⟩
    have d12:=hM.fr.c12
    have z12:=hM.fr.fz 12
    have oI:Hid (di x cx l c q w s4 G4 { A0 with ta:=a4,tc:=Xm } (V4.setCell ⟨w.heap.size+1,12,none⟩ (.slice a4 q4.length Xm))):=
     hM.set 12 _ G4 { A0 with ta:=a4,tc:=Xm } (by rw[uN.out.2.2];rfl) (by rw[uN.out.2.2];exact⟨hM.seen.key,hM.seen.body,hq⟩)
    clear hc hd ha hM hq Ai eq4 ES4
    go_upto_region 25 with fail
    clear d12 z12
    generalize V4.setCell ⟨w.heap.size+1,12,none⟩ (.slice a4 q4.length Xm)=X4 at *
    generalize ({ A0 with ta:=a4,tc:=Xm }:At)=A4 at *
    have UF:G4=(aD l).1/\s4.at_=(aD l).2.at_/\s4.miss=je l:=by
     obtain⟨a1,b1,c1⟩:=sN.out
     obtain⟨a2,b2,c2⟩:=pq.out
     have b3:=vL.out
     obtain⟨a4,b4,c4⟩:=uN.out
     have kk1:=K1.out
     have kk2:=K2.out
     have kk3:=K3.out
     have HKK:=HK.out
     subst c4 b4 a4 b3 c2 b2 a2 c1 b1 a1
     obtain⟨p1,p2⟩:=SL.out
     subst p1 p2
     have hw:aD l=({ ({ Fr.zero with k:=bq l ⟨0,false⟩ 4,f:=bq l (bE l ⟨0,false⟩ 4) 4 }:Fr) with tag:=iZ l (bE l (bE l ⟨0,false⟩ 4) 4) 8 },eX l (bE l (bE l ⟨0,false⟩ 4) 4) 8):=by
      unfold aD
      have hcr:mZ l=({ Fr.zero with k:=bq l ⟨0,false⟩ 4,f:=bq l (bE l ⟨0,false⟩ 4) 4 },bE l (bE l ⟨0,false⟩ 4) 4):=by
       unfold mZ
       dsimp only
       rw[if_neg kk1,if_neg kk2,if_neg kk3]
      rw[hcr]
     have Xn:je l=true:=by
      unfold je;rw[HKK];exact if_neg (by intro h;rcases h with h|h|h;exact kk1 h;exact kk2 h;exact kk3 h)
     rw[Xn,hw]
     exact⟨rfl,rfl,rfl⟩
    obtain⟨hE1,hE2,Nt⟩:=UF
    obtain⟨Y,hst,hY,Nu,pG,Nv⟩:=nW oI.out
    have HL:Hid ((Instr.loadAt 61 (.pointer (some ⟨w.heap.size+1,0,none⟩))).run Tryz.prog X4=.ok (.agg (au G4 A4)) X4):=oI.out.fr.loads
    have HST:Hid ((Instr.storeAt 61 (.pointer (some ⟨w.heap.size,0,none⟩)) (.agg (au G4 A4))).run Tryz.prog X4=.ok () Y):=hst
    have HE:Hid (aj Y w.heap.size G4 A4/\nU x cx l c q Y s4/\Seen Y G4 A4/\Apart (lT c q) w Y/\G4=(aD l).1/\s4.at_=(aD l).2.at_/\s4.miss=je l):=⟨hY,Nu,pG,Nv,hE1,hE2,Nt⟩
    clear hst hY Nu pG Nv hE1 hE2 Nt
    go_wp2_with (first|(refine af rfl 61 _ rfl _ _ rfl HL.out ?_)|(refine ah rfl 61 _ _ rfl _ _ rfl rfl HST.out ?_)|fail)
    refine bodyPost_ret (jP rfl rfl HE.out.1) rfl ?_
    obtain⟨h1,h2,h3,h4,h5,h6,h7⟩:=HE.out
    exact⟨A4,s4,by rw[h5],h2,by rw[<-h5];exact h3,h4,h6,h7⟩
theorem EJ (w:World)(x:Option Addr)(cx:Nat)(l:List UInt8)(h3:l.length<3):Calls Tryz.prog 39 #[.slice x l.length cx] w λe w'=>SH w w' e Fr.zero 3:=by
 obtain⟨N,hN⟩:=ai l.length
 rw[<-hN] at h3 ⊢
 have d3:decide ((N:Int)<3)=true:=by simp;omega
 have h0:aj (w.alloc (.cells (au Fr.zero At.zero) 61)) w.heap.size Fr.zero At.zero:=aj.new w _ _
 obtain⟨W,hst,hW,hs,hb⟩:=dD h0 (Go.Joins.below_alloc1 _ _) Fr.zero At.zero (Seen.zero _)
 have HB:Hid ((Instr.build 61 #[]).run Tryz.prog (w.alloc (.cells (au Fr.zero At.zero) 61))=.ok (.agg (au Fr.zero At.zero)) (w.alloc (.cells (au Fr.zero At.zero) 61))):=dM _
 have HST:Hid ((Instr.storeAt 61 (.pointer (some ⟨w.heap.size,0,none⟩)) (.agg (au Fr.zero At.zero))).run Tryz.prog (w.alloc (.cells (au Fr.zero At.zero) 61))=.ok () W):=hst
 have HE:Hid (aj W w.heap.size Fr.zero At.zero/\Seen W Fr.zero At.zero/\Below w.heap.size w W):=⟨hW,hs,hb⟩
 clear hN h0 hst hW hs hb
 go_enter Tryz.func39,Tryz.ntmps39
 go_wp2_with (first|(refine aB rfl 61 _ rfl [] _ rfl HB.out ?_)|(refine ah rfl 61 _ _ rfl _ _ rfl rfl HST.out ?_)|fail)
 refine bodyPost_ret (dz rfl rfl HE.out.1) rfl ?_
 exact⟨At.zero,rfl,HE.out.2⟩
theorem Nw (w:World)(x:Option Addr)(cx:Nat)(l:List UInt8)(hx:ag w x cx l)(hl:l.length<=140737488351232)(h3:¬ l.length<3)(hg:iQ l=false):Calls Tryz.prog 39 #[.slice x l.length cx] w λe w'=>SH w w' e Fr.zero 8:=by
 have h0:aj (w.alloc (.cells (au Fr.zero At.zero) 61)) w.heap.size Fr.zero At.zero:=aj.new w _ _
 have hb0:Below w.heap.size w (w.alloc (.cells (au Fr.zero At.zero) 61)):=Go.Joins.below_alloc1 _ _
 have hgo:=yP (w.alloc (.cells (au Fr.zero At.zero) 61)) x cx l (hx.below hb0) (by omega)
 rw[hg] at hgo
 obtain⟨N,hN⟩:=ai l.length
 rw[<-hN] at h3 hgo hl ⊢
 have d3:decide ((N:Int)<3)=false:=by simp;omega
 have H0:Hid (∀ w1,Below (w.alloc (.cells (au Fr.zero At.zero) 61)).heap.size (w.alloc (.cells (au Fr.zero At.zero) 61)) w1->aj w1 w.heap.size Fr.zero At.zero/\Below w.heap.size w w1):=λw1 hb1=>⟨h0.below hb1,hb0.trans (hb1.mono hb0.size)⟩
 clear hN h0 hb0 hx hg
 go_enter Tryz.func39,Tryz.ntmps39
 go_wp2_with fail
 refine hgo.mono ?_
 rintro e w1 ⟨rfl,hb1⟩
 obtain⟨h1,hb⟩:=H0.out w1 hb1
 obtain⟨W,hst,hW,hs,hbW⟩:=dD h1 hb Fr.zero At.zero (Seen.zero _)
 have HB:Hid ((Instr.build 61 #[]).run Tryz.prog w1=.ok (.agg (au Fr.zero At.zero)) w1):=dM _
 have HST:Hid ((Instr.storeAt 61 (.pointer (some ⟨w.heap.size,0,none⟩)) (.agg (au Fr.zero At.zero))).run Tryz.prog w1=.ok () W):=hst
 have HE:Hid (aj W w.heap.size Fr.zero At.zero/\Seen W Fr.zero At.zero/\Below w.heap.size w W):=⟨hW,hs,hbW⟩
 clear hgo hb1 H0 h1 hb hst hW hs hbW
 go_wp2_with (first|(refine aB rfl 61 _ rfl [] _ rfl HB.out ?_)|(refine ah rfl 61 _ _ rfl _ _ rfl rfl HST.out ?_)|fail)
 refine bodyPost_ret (dz rfl rfl HE.out.1) rfl ?_
 exact⟨At.zero,rfl,HE.out.2⟩
theorem Ny (x:Option Addr)(cx:Nat)(l:List UInt8)(w:World)(hx:ag w x cx l)(hl:l.length<=140737488355328):
  nU x cx l w.heap.size (w.heap.size+1) ((w.alloc (.cells #[.slice x l.length cx,.int .i64 0] 148)).alloc (.cells #[.pointer (some ⟨w.heap.size,0,none⟩),.bool false] 150)) ⟨0,false⟩:=by
 have hb:Below w.heap.size w ((w.alloc (.cells #[.slice x l.length cx,.int .i64 0] 148)).alloc (.cells #[.pointer (some ⟨w.heap.size,0,none⟩),.bool false] 150)):=Go.Joins.below_alloc2 _ _ _
 refine⟨?_,?_,Nat.zero_le _,by omega,hx.below hb,hl⟩
 ·have:=heap_alloc_new (w.alloc (.cells #[.slice x l.length cx,.int .i64 0] 148)) (.cells #[.pointer (some ⟨w.heap.size,0,none⟩),.bool false] 150)
  simpa using this
 ·have h1:=heap_alloc_new w (.cells #[.slice x l.length cx,.int .i64 0] 148)
  rw[(Go.Joins.below_alloc1 (w.alloc (.cells #[.slice x l.length cx,.int .i64 0] 148)) _).block _ (by simp)]
  exact h1
structure wW (w:World)(x:Option Addr)(cx:Nat)(l:List UInt8)(c q v:Nat)(F:Fr)(s:Rs)(A:At)(W:World):Prop where
 res:aj W w.heap.size Fr.zero At.zero
 fr:aj W v F A
 obj:nU x cx l c q W s
 seen:Seen W F A
 aM:Below w.heap.size w W
theorem wW.below {v:Nat}{F:Fr}{W':World}(h:wW w x cx l c q v F s A W)(hb:Below W.heap.size W W'):wW w x cx l c q v F s A W':=
 ⟨h.res.below hb,h.fr.below hb,h.obj.keep (hb.block _ h.obj.lt.2) (hb.block _ h.obj.lt.1) (h.obj.src.below hb),h.seen.below hb,h.aM.trans (hb.mono h.aM.size)⟩
theorem EK {F:Fr}(h0:aj W w.heap.size Fr.zero At.zero)(hG:nU x cx l c q W s)(hs:Seen W F A)(hb:Below w.heap.size w W):
  ∃ W',(Instr.storeAt 61 (.pointer (some ⟨W.heap.size,0,none⟩)) (.agg (au F A))).run Tryz.prog (W.alloc (.cells (au Fr.zero At.zero) 61))=.ok () W'/\wW w x cx l c q W.heap.size F s A W':=by
 have h1:aj (W.alloc (.cells (au Fr.zero At.zero) 61)) W.heap.size Fr.zero At.zero:=aj.new W _ _
 have hbb:Below W.heap.size W ((W.alloc (.cells (au Fr.zero At.zero) 61)).setRow W.heap.size (au F A)):=below_setRow (Go.Joins.below_alloc1 _ _) (Nat.le_refl _) _
 exact⟨_,h1.stores F A,h0.below hbb,h1.stored F A,hG.keep (hbb.block _ hG.lt.2) (hbb.block _ hG.lt.1) (hG.src.below hbb),hs.below hbb,hb.trans (hbb.mono hb.size)⟩
theorem UG (l:List UInt8):fF l=(!je l&&decide (jN l (aD l).2.at_=0)&&dw (aD l).1):=by
 unfold fF je
 by_cases h:(aD l).1.k=1\/(aD l).1.k=2\/(aD l).1.k=3
 ·rw[if_pos h]
 ·rw[if_neg h]
  have hr:dw (aD l).1=false:=by
   unfold dw bH
   rw[if_neg (λe=>h (.inl e)),if_neg (λe=>h (.inr (.inl e))),if_neg (λe=>h (.inr (.inr e)))]
   simp
  rw[hr];simp
theorem JD (w:World)(x:Option Addr)(cx:Nat)(l:List UInt8)(hx:ag w x cx l)(hl:l.length<=140737488351232)(h3:¬ l.length<3)(hg:iQ l=true)(hcx:l.length<=cx):Calls Tryz.prog 39 #[.slice x l.length cx] w λe w'=>SH w w' e (aX l) (iH l:Nat):=by
 obtain⟨t,ht⟩:=ai (l.take (l.length-3))
 have Uu:iH l=if fF t=false then 4 else 0:=by unfold iH;rw[if_neg h3,if_neg (by rw[hg];decide),ht]
 have LX:aX l=if fF t=false then Fr.zero else (aD t).1:=by
  unfold aX;rw[Uu,<-ht]
  by_cases hf:fF t=false
  ·rw[if_pos hf,if_pos hf];rfl
  ·rw[if_neg hf,if_neg hf];rfl
 obtain⟨RE,Uv⟩:=ai (((iH l:Nat):Int):Int)
 obtain⟨RF,Uw⟩:=ai (aX l)
 rw[<-Uv,<-Uw]
 have Aw:Hid (RE=((if fF t=false then 4 else 0:Nat):Int)/\RF=if fF t=false then Fr.zero else (aD t).1):=⟨by rw[Uv,Uu],by rw[Uw,LX]⟩
 clear Uu LX Uv Uw
 have h0:aj (w.alloc (.cells (au Fr.zero At.zero) 61)) w.heap.size Fr.zero At.zero:=aj.new w _ _
 have hb0:Below w.heap.size w (w.alloc (.cells (au Fr.zero At.zero) 61)):=Go.Joins.below_alloc1 _ _
 have hgo:=yP (w.alloc (.cells (au Fr.zero At.zero) 61)) x cx l (hx.below hb0) (by omega)
 rw[hg] at hgo
 obtain⟨m,hm⟩:=ai (l.length-3)
 obtain⟨N,hN⟩:=ai l.length
 have htl:t.length=m:=by rw[ht,List.length_take];omega
 have hxt:ag w x cx t:=by rw[ht];exact hx.take _
 rw[<-hN] at h3 hgo hl hm hcx ⊢
 have d3:decide ((N:Int)<3)=false:=by simp;omega
 have e1:(N:Int)-3=(m:Int):=by omega
 have g3:(0:Int)<=(m:Int):=Int.natCast_nonneg _
 have g4:(m:Int)<=(cx:Int):=by omega
 have g5:m<=cx:=by omega
 have H0:Hid (∀ w1,Below (w.alloc (.cells (au Fr.zero At.zero) 61)).heap.size (w.alloc (.cells (au Fr.zero At.zero) 61)) w1->aj w1 w.heap.size Fr.zero At.zero/\Below w.heap.size w w1):=λw1 hb1=>⟨h0.below hb1,hb0.trans (hb1.mono hb0.size)⟩
 have HT:Hid (ag w x cx t/\t.length=m/\m<=140737488351232):=⟨hxt,htl,by omega⟩
 clear hN h0 hb0 hx hg ht hm htl hxt
 go_enter Tryz.func39,Tryz.ntmps39
 go_wp2_with fail
 refine hgo.mono ?_
 rintro e w1 ⟨rfl,hb1⟩
 obtain⟨h1,hb⟩:=H0.out w1 hb1
 have Xn:=Ny x cx t w1 (HT.out.1.below hb) (by have:=HT.out.2;omega)
 rw[HT.out.2.1] at Xn
 have hbq:Below w1.heap.size w1 ((w1.alloc (.cells #[.slice x m cx,.int .i64 0] 148)).alloc (.cells #[.pointer (some ⟨w1.heap.size,0,none⟩),.bool false] 150)):=Go.Joins.below_alloc2 _ _ _
 have H3:Hid (aj ((w1.alloc (.cells #[.slice x m cx,.int .i64 0] 148)).alloc (.cells #[.pointer (some ⟨w1.heap.size,0,none⟩),.bool false] 150)) w.heap.size Fr.zero At.zero/\Below w.heap.size w ((w1.alloc (.cells #[.slice x m cx,.int .i64 0] 148)).alloc (.cells #[.pointer (some ⟨w1.heap.size,0,none⟩),.bool false] 150))/\w.heap.size<w1.heap.size):=⟨h1.below hbq,hb.trans (hbq.mono hb.size),h1.lt⟩
 have hrd:=Nk x cx t w1.heap.size (w1.heap.size+1) _ Xn
 have Bj:Hid (fF t=(!je t&&decide (jN t (aD t).2.at_=0)&&dw (aD t).1)):=UG t
 obtain⟨P1,hP1⟩:=ai ((aD t).1)
 obtain⟨a2,ha2⟩:=ai ((aD t).2.at_)
 obtain⟨ms,hms⟩:=ai (je t)
 rw[<-hP1,<-ha2,<-hms] at hrd Bj
 rw[<-hP1] at Aw
 clear hgo hb1 H0 h1 hb Xn hbq hP1 ha2 hms
 go_wp2_with fail
 refine hrd.mono ?_
 rintro e w5 ⟨A5,s5,rfl,Sw,Nh,yo,Xo,Xp⟩
 have hno:∀ k,lT w1.heap.size (w1.heap.size+1) k->w.heap.size<k:=λk hk=>by
  have:=H3.out.2.2
  rcases hk with hk|hk<;>omega
 have kz:aj w5 w.heap.size Fr.zero At.zero:=H3.out.1.keep (yo.block _ H3.out.1.lt (λhk=>by have:=hno _ hk;omega))
 have hb5:Below w.heap.size w w5:=yo.below H3.out.2.1 (λk hk=>Nat.le_of_lt (hno k hk)) H3.out.2.1.size
 obtain⟨W6,Ni,Le⟩:=EK kz Sw Nh hb5
 have wS:Hid ((Instr.storeAt 61 (.pointer (some ⟨w5.heap.size,0,none⟩)) (.agg (au P1 A5))).run Tryz.prog (w5.alloc (.cells (au Fr.zero At.zero) 61))=.ok () W6):=Ni
 obtain⟨q0,q1,_⟩:=Le.obj.cells
 rw[Xp] at q1
 have rU:Hid (wW w x cx t w1.heap.size (w1.heap.size+1) w5.heap.size P1 s5 A5 W6):=Le
 have hend:=LK x cx t W6 w1.heap.size s5.at_ (λk=>k=w1.heap.size) Le.obj.rr Le.obj.src Le.obj.src.lt Le.obj.len Le.obj.le
 rw[Xo] at hend
 obtain⟨E,hE⟩:=ai (jN t a2)
 rw[<-hE] at hend Bj
 clear hrd Sw Nh yo Xo Xp hno kz hb5 Ni Le H3 hE
 cases ms
 ·by_cases hE0:E=0
  ·have Cn:Calls Tryz.prog 79 #[.pointer (some ⟨w1.heap.size,0,none⟩)] W6 λe w'=>e=.returned (.int .i64 0)/\Below W6.heap.size W6 w':=by
    rw[hE0] at hend;exact hend
   have Nj:Hid (fF t=dw P1):=by show _=_;rw[Bj.out,hE0];rfl
   clear hE0 hend
   go_wp2_with (first|(refine ah rfl 61 _ _ rfl _ _ rfl rfl wS.out ?_)|fail)
   refine Cn.mono ?_
   rintro e w7 ⟨rfl,hw7⟩
   have rC:Hid (wW w x cx t w1.heap.size (w1.heap.size+1) w5.heap.size P1 s5 A5 w7):=rU.out.below hw7
   have GJ:Hid ((Instr.loadAt 61 (.pointer (some ⟨w5.heap.size,0,none⟩))).run Tryz.prog w7=.ok (.agg (au P1 A5)) w7):=rC.out.fr.loads
   have hck:=yX w7 P1 A5 rC.out.seen
   clear Cn hw7 q0 q1 rU wS
   obtain⟨rb,hrb⟩:∃ rb,dw P1=rb:=⟨_,rfl⟩
   have JC:Hid (fF t=rb):=by show _=_;rw[Nj.out,hrb]
   rw[hrb] at hck
   clear hrb Bj Nj
   cases rb
   ·rw[if_neg (by decide)] at hck
    go_wp2_with (first|(refine af rfl 61 _ rfl _ _ rfl GJ.out ?_)|fail)
    refine hck.mono ?_
    rintro e w8 ⟨rfl,wB⟩
    have Ux:aj w8 w.heap.size Fr.zero At.zero/\Below w.heap.size w w8:=⟨rC.out.res.below wB,rC.out.aM.trans (wB.mono rC.out.aM.size)⟩
    obtain⟨Y,hst,hY,pG,wU⟩:=dD (w:=w) Ux.1 Ux.2 Fr.zero At.zero (Seen.zero _)
    have Cm:Hid ((Instr.build 61 #[]).run Tryz.prog w8=.ok (.agg (au Fr.zero At.zero)) w8):=dM _
    have HST:Hid ((Instr.storeAt 61 (.pointer (some ⟨w.heap.size,0,none⟩)) (.agg (au Fr.zero At.zero))).run Tryz.prog w8=.ok () Y):=hst
    have HE:Hid (aj Y w.heap.size Fr.zero At.zero/\Seen Y Fr.zero At.zero/\Below w.heap.size w Y):=⟨hY,pG,wU⟩
    clear hst hY pG wU hck wB Ux GJ
    go_wp2_with (first|(refine aB rfl 61 _ rfl [] _ rfl Cm.out ?_)|(refine ah rfl 61 _ _ rfl _ _ rfl rfl HST.out ?_)|fail)
    refine bodyPost_ret (dz rfl rfl HE.out.1) rfl ?_
    rw[Aw.out.1,Aw.out.2,JC.out]
    exact⟨At.zero,rfl,HE.out.2⟩
   ·rw[if_pos rfl] at hck
    go_wp2_with (first|(refine af rfl 61 _ rfl _ _ rfl GJ.out ?_)|fail)
    refine hck.mono ?_
    rintro e w8 ⟨rfl,wB⟩
    have WY:=(rC.out.fr.below wB).loads
    obtain⟨Y,hst,hY,pG,wU⟩:=dD (w:=w) (rC.out.res.below wB) (rC.out.aM.trans (wB.mono rC.out.aM.size)) P1 A5 (rC.out.seen.below wB)
    have HL8:Hid ((Instr.loadAt 61 (.pointer (some ⟨w5.heap.size,0,none⟩))).run Tryz.prog w8=.ok (.agg (au P1 A5)) w8):=WY
    have HST:Hid ((Instr.storeAt 61 (.pointer (some ⟨w.heap.size,0,none⟩)) (.agg (au P1 A5))).run Tryz.prog w8=.ok () Y):=hst
    have HE:Hid (aj Y w.heap.size P1 A5/\Seen Y P1 A5/\Below w.heap.size w Y):=⟨hY,pG,wU⟩
    clear hst hY pG wU hck wB WY GJ
    go_wp2_with (first|(refine af rfl 61 _ rfl _ _ rfl HL8.out ?_)|(refine ah rfl 61 _ _ rfl _ _ rfl rfl HST.out ?_)|fail)
    refine bodyPost_ret (dz rfl rfl HE.out.1) rfl ?_
    rw[Aw.out.1,Aw.out.2,JC.out]
    exact⟨A5,rfl,HE.out.2⟩
  ·have ge:((E:Int) != 0)=true:=by simp;omega
   have JC:Hid (fF t=false):=by show _=_;rw[Bj.out];simp[hE0]
   clear hE0 Bj
   go_wp2_with (first|(refine ah rfl 61 _ _ rfl _ _ rfl rfl wS.out ?_)|fail)
   refine hend.mono ?_
   rintro e w7 ⟨rfl,hw7⟩
   have rC:Hid (wW w x cx t w1.heap.size (w1.heap.size+1) w5.heap.size P1 s5 A5 w7):=rU.out.below hw7
   clear hend hw7 q0 q1 rU wS
   obtain⟨Y,hst,hY,pG,wU⟩:=dD (w:=w) rC.out.res rC.out.aM Fr.zero At.zero (Seen.zero _)
   have Cm:Hid ((Instr.build 61 #[]).run Tryz.prog w7=.ok (.agg (au Fr.zero At.zero)) w7):=dM _
   have HST:Hid ((Instr.storeAt 61 (.pointer (some ⟨w.heap.size,0,none⟩)) (.agg (au Fr.zero At.zero))).run Tryz.prog w7=.ok () Y):=hst
   have HE:Hid (aj Y w.heap.size Fr.zero At.zero/\Seen Y Fr.zero At.zero/\Below w.heap.size w Y):=⟨hY,pG,wU⟩
   clear hst hY pG wU
   go_wp2_with (first|(refine aB rfl 61 _ rfl [] _ rfl Cm.out ?_)|(refine ah rfl 61 _ _ rfl _ _ rfl rfl HST.out ?_)|fail)
   refine bodyPost_ret (dz rfl rfl HE.out.1) rfl ?_
   rw[Aw.out.1,Aw.out.2,JC.out]
   exact⟨At.zero,rfl,HE.out.2⟩
 ·have JC:Hid (fF t=false):=by show _=_;rw[Bj.out];rfl
  clear Bj
  obtain⟨Y,hst,hY,pG,wU⟩:=dD (w:=w) rU.out.res rU.out.aM Fr.zero At.zero (Seen.zero _)
  have Cm:Hid ((Instr.build 61 #[]).run Tryz.prog W6=.ok (.agg (au Fr.zero At.zero)) W6):=dM _
  have HST:Hid ((Instr.storeAt 61 (.pointer (some ⟨w.heap.size,0,none⟩)) (.agg (au Fr.zero At.zero))).run Tryz.prog W6=.ok () Y):=hst
  have HE:Hid (aj Y w.heap.size Fr.zero At.zero/\Seen Y Fr.zero At.zero/\Below w.heap.size w Y):=⟨hY,pG,wU⟩
  clear hst hY pG wU
  go_wp2_with (first|(refine ah rfl 61 _ _ rfl _ _ rfl rfl wS.out ?_)|(refine aB rfl 61 _ rfl [] _ rfl Cm.out ?_)|(refine ah rfl 61 _ _ rfl _ _ rfl rfl HST.out ?_)|fail)
  refine bodyPost_ret (dz rfl rfl HE.out.1) rfl ?_
  rw[Aw.out.1,Aw.out.2,JC.out]
  exact⟨At.zero,rfl,HE.out.2⟩
theorem yZ (w:World)(x:Option Addr)(cx:Nat)(l:List UInt8)(hx:ag w x cx l)(hl:l.length<=140737488351232):Calls Tryz.prog 39 #[.slice x l.length cx] w λe w'=>SH w w' e (aX l) (iH l:Nat):=by
 by_cases h3:l.length<3
 ·rw[pF (by rw[nT h3];decide),nT h3]
  exact EJ w x cx l h3
 ·obtain⟨g,hg⟩:∃ g,iQ l=g:=⟨_,rfl⟩
  cases g
  ·rw[pF (by rw[sP h3 hg];decide),sP h3 hg]
   exact Nw w x cx l hx hl h3 hg
  ·exact JD w x cx l hx hl h3 hg hx.fits
theorem JE (w:World)(F:Fr)(A:At)(G:Fr)(B:At)(hF:Seen w F A)(hG:Seen w G B)(b:Bool)(hb:kW F G=b):Calls Tryz.prog 46 #[.agg (au F A),.agg (au G B)] w λe w'=>e=.returned (.bool b)/\Below w.heap.size w w':=by
 refine(M6 w F A G B hF hG).mono ?_
 rintro e w' ⟨he,hw⟩
 rw[hb] at he
 exact⟨he,by rw[hw];exact Go.Joins.below_alloc2 _ _ _⟩
end Go.Proofs.YtmffplhaclnehaaGreatDoor
