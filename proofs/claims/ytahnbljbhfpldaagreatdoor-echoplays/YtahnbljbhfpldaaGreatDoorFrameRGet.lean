/-
  The document's reader of frames: num, bytes, read.

  The document's reader of frames: read.

  The contract of the document's Get.
  The walk of FrameGets.
-/
import Derived.Deep.DeepCutAuto
import Derived.Test.YtahnbljbhfpldaaGreatDoorFrameGetP
import Derived.Test.YtahnbljbhfpldaaGreatDoorFrameRCheck
namespace Go.Proofs.YtahnbljbhfpldaaGreatDoor
set_option maxRecDepth 20000
set_option maxHeartbeats 6400000
open Go.ChangeShapes Go.WideShapes Go.ChangeAt Go.RowKit
structure DrM (x:Option Addr)(cx:Nat)(l:List UInt8)(c q:Nat)(w:World)(s:Rs):Prop where
 top:w.heap[q]?=some (.cells #[.pointer (some ⟨c,0,none⟩),.bool s.miss] 131 (0,0))
 bot:w.heap[c]?=some (.cells #[.slice x l.length cx,.int .i64 (s.at_:Int)] 129 (0,0))
 le:s.at_<=8*l.length
 ne:c≠q
 src:Sees w x cx l
 len:l.length<=140737488355328
def Two2 (c q:Nat)(k:Nat):Prop:=k=c\/k=q
theorem row_apart {w:World}{g:Nat}{cs:Array Value}{t:TypeId}{fr:Nat×Nat}(h:w.heap[g]?=some (.cells cs t fr))(hno:∀ (k:Nat) (z:Int),cs[k]?≠some (.int .u8 z)){x:Option Addr}{c:Nat}{l:List UInt8}(hs:Sees w x c l):∀ b off,x=some ⟨b,off,none⟩->l≠[]->b≠g:=by
 rintro b off rfl hne rfl
 obtain⟨b',off',he,hc⟩:=hs.at' hne
 simp only[Option.some.injEq,Addr.mk.injEq] at he
 obtain⟨rfl,rfl,_⟩:=he
 obtain⟨z,hz⟩:∃ z,l[0]?=some z:=⟨l[0]'(List.length_pos_iff.2 hne),by simp⟩
 have h1:=hc 0 z hz
 rw[cell_of_row w _ (off+0) _ _ _ h] at h1
 exact hno _ _ h1
theorem no8 (a b:Value)(ha:∀ z:Int,a≠.int .u8 z)(hb:∀ z:Int,b≠.int .u8 z):∀ (k:Nat) (z:Int),(#[a,b]:Array Value)[k]?≠some (.int .u8 z):=by
 intro k z
 match k with
 | 0=>simpa using ha z
 | 1=>simpa using hb z
 | k+2=>simp
theorem DrM.apart {x:Option Addr}{cx:Nat}{l:List UInt8}{c q:Nat}{w:World}{s:Rs}(h:DrM x cx l c q w s){y:Option Addr}{cy:Nat}{m:List UInt8}(hs:Sees w y cy m):∀ b off,y=some ⟨b,off,none⟩->m≠[]->¬ Two2 c q b:=by
 intro b off e hne hb
 rcases hb with rfl|rfl
 ·exact row_apart h.bot (no8 _ _ (by simp) (by simp)) hs _ off e hne rfl
 ·exact row_apart h.top (no8 _ _ (by simp) (by simp)) hs _ off e hne rfl
theorem DrM.rr {x:Option Addr}{cx:Nat}{l:List UInt8}{c q:Nat}{w:World}{s:Rs}(h:DrM x cx l c q w s):RR x cx l w c s.at_ (λk=>k=c):=⟨h.bot,rfl,λk hk=>by rw[hk];exact(Array.getElem?_eq_some_iff.1 h.bot).1⟩
theorem DrM.cells {x:Option Addr}{cx:Nat}{l:List UInt8}{c q:Nat}{w:World}{s:Rs}(h:DrM x cx l c q w s):w.cell? ⟨q,0,none⟩=some (.pointer (some ⟨c,0,none⟩))/\w.cell? ⟨q,1,none⟩=some (.bool s.miss)/\w.frozen? ⟨q,1,none⟩=false:=
 ⟨cell_of_row _ _ 0 _ _ _ h.top,cell_of_row _ _ 1 _ _ _ h.top,frozen_of_row _ _ 1 _ _ h.top⟩
theorem DrM.keep {x:Option Addr}{cx:Nat}{l:List UInt8}{c q:Nat}{w w':World}{s:Rs}(h:DrM x cx l c q w s)(h1:w'.heap[q]?=w.heap[q]?)(h2:w'.heap[c]?=w.heap[c]?)(h3:Sees w' x cx l):DrM x cx l c q w' s:=⟨h1.trans h.top,h2.trans h.bot,h.le,h.ne,h3,h.len⟩
theorem DrM.lt {x:Option Addr}{cx:Nat}{l:List UInt8}{c q:Nat}{w:World}{s:Rs}(h:DrM x cx l c q w s):c<w.heap.size/\q<w.heap.size:=⟨(Array.getElem?_eq_some_iff.1 h.bot).1,(Array.getElem?_eq_some_iff.1 h.top).1⟩
theorem DrM.went {x:Option Addr}{cx:Nat}{l:List UInt8}{c q:Nat}{w w1:World}{s:Rs}(h:DrM x cx l c q w s)(m:Nat)(hm:m<=8*l.length)(hL:Left (RR x cx l) w (λk=>k=c) c m w1)(t:Bool):
  (w1.cell? ⟨q,1,none⟩=some (.bool s.miss)/\w1.frozen? ⟨q,1,none⟩=false)/\DrM x cx l c q (w1.setCell ⟨q,1,none⟩ (.bool t)) ⟨m,t⟩/\Apart (Two2 c q) w (w1.setCell ⟨q,1,none⟩ (.bool t)):=by
 obtain⟨F',hr,ha,_⟩:=hL
 have h8:w1.heap[q]?=some (.cells #[.pointer (some ⟨c,0,none⟩),.bool s.miss] 131 (0,0)):=by rw[ha.block q h.lt.2 (λe=>h.ne e.symm)];exact h.top
 have hs1:Sees w1 x cx l:=ha.sees h.src (λb off e hne hb=>h.apart h.src b off e hne (.inl hb))
 refine⟨⟨cell_of_row _ _ 1 _ _ _ h8,frozen_of_row _ _ 1 _ _ h8⟩,⟨by rw[heap_setCell_same _ _ _ _ _ _ h8];rfl,?_,hm,h.ne,hs1.set _ (λb off e hne=>?_),h.len⟩,?_⟩
 ·rw[heap_setCell_other _ _ _ _ h.ne];exact hr.1
 ·exact row_apart h8 (no8 _ _ (by simp) (by simp)) hs1 b off e hne
 ·exact(ha.mono (λk hk=>.inl hk)).setCell (.inl (.inr rfl)) 1 _
theorem takeAt_le' (l:List UInt8)(at_:Nat)(n:Int)(h:at_<=8*l.length):takeAt l at_ n<=8*l.length:=by
 unfold takeAt
 by_cases h0:takeP (8*l.length-at_) n=0
 ·rw[if_pos h0]
  unfold takeP at h0
  by_cases h1:n<0\/1024<n
  ·rw[if_pos h1] at h0;cases h0
  ·rw[if_neg h1] at h0
   by_cases h2:((8*l.length-at_:Nat):Int)<8*n
   ·rw[if_pos h2] at h0;cases h0
   ·omega
 ·rw[if_neg h0];exact h
theorem dnum_ok (x:Option Addr)(cx:Nat)(l:List UInt8)(c q:Nat)(w:World)(s:Rs)(V:Nat)(hm:DrM x cx l c q w s):
  Calls Tryz.prog 106 #[.pointer (some ⟨q,0,none⟩),.int .i64 (V:Int)] w λe w'=>e=.returned (.int .u64 ((numN l s V:Nat):Int))/\DrM x cx l c q w' (numS l s V)/\Apart (Two2 c q) w w':=by
 obtain⟨c0,c1,f1⟩:=hm.cells
 have hc:=rget_any x cx l w c s.at_ (λk=>k=c) hm.rr hm.src (λb off e hne hb=>hm.apart hm.src b off e hne (.inl hb)) hm.len (V:Int) hm.le
 have hat:=getAt_le l s.at_ (V:Int) hm.le
 unfold numN numS
 obtain⟨N,hN⟩:∃ N,N=getN l s.at_ (V:Int):=⟨_,rfl⟩
 obtain⟨m,hm1⟩:∃ m,m=getAt l s.at_ (V:Int):=⟨_,rfl⟩
 obtain⟨P,hP⟩:∃ P,P=getP (8*l.length-s.at_) (V:Int):=⟨_,rfl⟩
 rw[<-hN,<-hm1,<-hP]
 rw[<-hN,<-hm1,<-hP] at hc
 rw[<-hm1] at hat
 have HW:Hid (∀ w1,Left (RR x cx l) w (λk=>k=c) c m w1->∀ t,(w1.cell? ⟨q,1,none⟩=some (.bool s.miss)/\w1.frozen? ⟨q,1,none⟩=false)/\DrM x cx l c q (w1.setCell ⟨q,1,none⟩ (.bool t)) ⟨m,t⟩/\Apart (Two2 c q) w (w1.setCell ⟨q,1,none⟩ (.bool t))):=λw1 hL t=>hm.went m hat hL t
 generalize s.miss=b at *
 clear hm hat hN hm1 hP f1
 cases b
 ·by_cases h0:P=0
  ·have g0:((P:Int) != 0)=false:=by simp[h0]
   have e0:(false||decide (P≠0))=false:=by simp[h0]
   rw[e0]
   clear h0 e0
   go_enter Tryz.func106,Tryz.ntmps106
   go_wp2_with fail
   refine hc.mono ?_
   rintro e w1 ⟨rfl,hL⟩
   obtain⟨⟨d1,z1⟩,hX⟩:=HW.out w1 hL false
   have HX:Hid (DrM x cx l c q (w1.setCell ⟨q,1,none⟩ (.bool false)) ⟨m,false⟩/\Apart (Two2 c q) w (w1.setCell ⟨q,1,none⟩ (.bool false))):=hX
   clear hc hL HW c0 c1 hX
   go_wp2
   go_ret
   exact⟨rfl,HX.out⟩
  ·have g0:((P:Int) != 0)=true:=by simp;omega
   have e0:(false||decide (P≠0))=true:=by simp[h0]
   rw[e0]
   clear h0 e0
   go_enter Tryz.func106,Tryz.ntmps106
   go_wp2_with fail
   refine hc.mono ?_
   rintro e w1 ⟨rfl,hL⟩
   obtain⟨⟨d1,z1⟩,hX⟩:=HW.out w1 hL true
   have HX:Hid (DrM x cx l c q (w1.setCell ⟨q,1,none⟩ (.bool true)) ⟨m,true⟩/\Apart (Two2 c q) w (w1.setCell ⟨q,1,none⟩ (.bool true))):=hX
   clear hc hL HW c0 c1 hX
   go_wp2
   go_ret
   exact⟨rfl,HX.out⟩
 ·rw[Bool.true_or]
  go_enter Tryz.func106,Tryz.ntmps106
  go_wp2_with fail
  refine hc.mono ?_
  rintro e w1 ⟨rfl,hL⟩
  obtain⟨⟨d1,z1⟩,hX⟩:=HW.out w1 hL true
  have HX:Hid (DrM x cx l c q (w1.setCell ⟨q,1,none⟩ (.bool true)) ⟨m,true⟩/\Apart (Two2 c q) w (w1.setCell ⟨q,1,none⟩ (.bool true))):=hX
  clear hc hL HW c0 c1 hX
  go_wp2
  go_ret
  exact⟨rfl,HX.out⟩
theorem dlst_ok (x:Option Addr)(cx:Nat)(l:List UInt8)(c q:Nat)(w:World)(s:Rs)(n:Nat)(hm:DrM x cx l c q w s):
  Calls Tryz.prog 107 #[.pointer (some ⟨q,0,none⟩),.int .i64 (n:Int)] w λe w'=>∃ d cd y,Hid (y=lstN l s n)/\e=.returned (.slice d y.length cd)/\Sees w' d cd y/\DrM x cx l c q w' (lstS l s n)/\Apart (Two2 c q) w w':=by
 obtain⟨c0,c1,f1⟩:=hm.cells
 have hc:=rtake_any x cx l w c s.at_ (λk=>k=c) hm.rr hm.src (λb off e hne hb=>hm.apart hm.src b off e hne (.inl hb)) hm.src.lt hm.len (n:Int) hm.le
 have hat:=takeAt_le' l s.at_ (n:Int) hm.le
 unfold lstN lstS
 obtain⟨N,hN⟩:∃ N,N=takeL l s.at_ (n:Int):=⟨_,rfl⟩
 obtain⟨m,hm1⟩:∃ m,m=takeAt l s.at_ (n:Int):=⟨_,rfl⟩
 obtain⟨P,hP⟩:∃ P,P=takeP (8*l.length-s.at_) (n:Int):=⟨_,rfl⟩
 rw[<-hN,<-hm1,<-hP]
 rw[<-hN,<-hm1,<-hP] at hc
 rw[<-hm1] at hat
 have HW:Hid (∀ w1 (d:Option Addr) (cd:Nat) (y:List UInt8),Left (RR x cx l) w (λk=>k=c) c m w1->Sees w1 d cd y->∀ t,(w1.cell? ⟨q,1,none⟩=some (.bool s.miss)/\w1.frozen? ⟨q,1,none⟩=false)/\Sees (w1.setCell ⟨q,1,none⟩ (.bool t)) d cd y/\DrM x cx l c q (w1.setCell ⟨q,1,none⟩ (.bool t)) ⟨m,t⟩/\Apart (Two2 c q) w (w1.setCell ⟨q,1,none⟩ (.bool t))):=λw1 d cd y hL hy t=>by
  obtain⟨h1,h2⟩:=hm.went m hat hL t
  obtain⟨_,_,ha,_⟩:=hL
  have h8:w1.heap[q]?=some (.cells #[.pointer (some ⟨c,0,none⟩),.bool s.miss] 131 (0,0)):=by rw[ha.block q hm.lt.2 (λe=>hm.ne e.symm)];exact hm.top
  exact⟨h1,hy.set _ (row_apart h8 (no8 _ _ (by simp) (by simp)) hy),h2⟩
 generalize s.miss=b at *
 clear hm hat hN hm1 hP f1
 cases b
 ·by_cases h0:P=0
  ·have g0:((P:Int) != 0)=false:=by simp[h0]
   have e0:(false||decide (P≠0))=false:=by simp[h0]
   rw[e0]
   clear h0 e0
   go_enter Tryz.func107,Tryz.ntmps107
   go_wp2_with fail
   refine hc.mono ?_
   rintro e w1 ⟨d,cd,y,hy,rfl,hsy,hL⟩
   obtain⟨⟨d1,z1⟩,hX⟩:=HW.out w1 d cd y hL hsy false
   have HX:Hid (Sees (w1.setCell ⟨q,1,none⟩ (.bool false)) d cd y/\DrM x cx l c q (w1.setCell ⟨q,1,none⟩ (.bool false)) ⟨m,false⟩/\Apart (Two2 c q) w (w1.setCell ⟨q,1,none⟩ (.bool false))):=hX
   clear hc hL HW c0 c1 hX hsy
   go_wp2
   go_ret
   exact⟨d,cd,y,hy,rfl,HX.out⟩
  ·have g0:((P:Int) != 0)=true:=by simp;omega
   have e0:(false||decide (P≠0))=true:=by simp[h0]
   rw[e0]
   clear h0 e0
   go_enter Tryz.func107,Tryz.ntmps107
   go_wp2_with fail
   refine hc.mono ?_
   rintro e w1 ⟨d,cd,y,hy,rfl,hsy,hL⟩
   obtain⟨⟨d1,z1⟩,hX⟩:=HW.out w1 d cd y hL hsy true
   have HX:Hid (Sees (w1.setCell ⟨q,1,none⟩ (.bool true)) d cd y/\DrM x cx l c q (w1.setCell ⟨q,1,none⟩ (.bool true)) ⟨m,true⟩/\Apart (Two2 c q) w (w1.setCell ⟨q,1,none⟩ (.bool true))):=hX
   clear hc hL HW c0 c1 hX hsy
   go_wp2
   go_ret
   exact⟨d,cd,y,hy,rfl,HX.out⟩
 ·rw[Bool.true_or]
  go_enter Tryz.func107,Tryz.ntmps107
  go_wp2_with fail
  refine hc.mono ?_
  rintro e w1 ⟨d,cd,y,hy,rfl,hsy,hL⟩
  obtain⟨⟨d1,z1⟩,hX⟩:=HW.out w1 d cd y hL hsy true
  have HX:Hid (Sees (w1.setCell ⟨q,1,none⟩ (.bool true)) d cd y/\DrM x cx l c q (w1.setCell ⟨q,1,none⟩ (.bool true)) ⟨m,true⟩/\Apart (Two2 c q) w (w1.setCell ⟨q,1,none⟩ (.bool true))):=hX
  clear hc hL HW c0 c1 hX hsy
  go_wp2
  go_ret
  exact⟨d,cd,y,hy,rfl,HX.out⟩
structure FDMid (x:Option Addr)(cx:Nat)(l:List UInt8)(c q:Nat)(w:World)(s:Rs)(G:Fr)(A:At)(W:World):Prop where
 res:FrAt W w.heap.size Fr.zero At.zero
 fr:FrAt W (w.heap.size+1) G A
 obj:DrM x cx l c q W s
 seen:Seen W G A
 apart:Apart (Two2 c q) w W
 lt:c<w.heap.size/\q<w.heap.size
theorem FDMid.call {x:Option Addr}{cx:Nat}{l:List UInt8}{c q:Nat}{w:World}{s s':Rs}{G:Fr}{A:At}{W W1:World}(h:FDMid x cx l c q w s G A W)(hd:DrM x cx l c q W1 s')(ha:Apart (Two2 c q) W W1):FDMid x cx l c q w s' G A W1:=by
 have hlt:=h.lt
 have no:∀ k,w.heap.size<=k->¬ Two2 c q k:=λk hk hb=>by rcases hb with hb|hb<;>omega
 exact⟨h.res.keep (ha.block _ h.res.lt (no _ (Nat.le_refl _))),h.fr.keep (ha.block _ h.fr.lt (no _ (by omega))),hd,
  ⟨ha.sees h.seen.key (h.obj.apart h.seen.key),ha.sees h.seen.body (h.obj.apart h.seen.body),ha.sees h.seen.tag (h.obj.apart h.seen.tag)⟩,h.apart.trans ha (λ_ hk=>.inl hk),h.lt⟩
theorem FDMid.set {x:Option Addr}{cx:Nat}{l:List UInt8}{c q:Nat}{w:World}{s:Rs}{G:Fr}{A:At}{W:World}(h:FDMid x cx l c q w s G A W)(j:Nat)(u:Value)(G':Fr)(A':At)(hl:(frL G A).set j u=frL G' A')(hs:Seen W G' A'):
  FDMid x cx l c q w s G' A' (W.setCell ⟨w.heap.size+1,j,none⟩ u):=by
 have hlt:=h.lt
 have ot:∀ k,k≠w.heap.size+1->(W.setCell ⟨w.heap.size+1,j,none⟩ u).heap[k]?=W.heap[k]?:=λk hk=>heap_setCell_other _ _ _ _ hk
 exact⟨h.res.keep (ot _ (by omega)),h.fr.put j u hl,h.obj.keep (ot _ (by omega)) (ot _ (by omega)) (h.obj.src.set u (h.fr.apart h.obj.src)),
  ⟨hs.key.set u (h.fr.apart hs.key),hs.body.set u (h.fr.apart hs.body),hs.tag.set u (h.fr.apart hs.tag)⟩,h.apart.setCell (.inr (by omega)) j u,h.lt⟩
theorem FDMid.mark {x:Option Addr}{cx:Nat}{l:List UInt8}{c q:Nat}{w:World}{s:Rs}{G:Fr}{A:At}{W:World}(h:FDMid x cx l c q w s G A W):FDMid x cx l c q w ⟨s.at_,true⟩ G A (W.setCell ⟨q,1,none⟩ (.bool true)):=by
 have hlt:=h.lt
 have ot:∀ k,k≠q->(W.setCell ⟨q,1,none⟩ (.bool true)).heap[k]?=W.heap[k]?:=λk hk=>heap_setCell_other _ _ _ _ hk
 have ap:∀ (y:Option Addr) (cy:Nat) (m:List UInt8),Sees W y cy m->Sees (W.setCell ⟨q,1,none⟩ (.bool true)) y cy m:=λy cy m hs=>hs.set _ (row_apart h.obj.top (no8 _ _ (by simp) (by simp)) hs)
 exact⟨h.res.keep (ot _ (by omega)),h.fr.keep (ot _ (by omega)),⟨by rw[heap_setCell_same _ _ _ _ _ _ h.obj.top];rfl,by rw[ot _ h.obj.ne];exact h.obj.bot,h.obj.le,h.obj.ne,ap _ _ _ h.obj.src,h.obj.len⟩,
  ⟨ap _ _ _ h.seen.key,ap _ _ _ h.seen.body,ap _ _ _ h.seen.tag⟩,h.apart.setCell (.inl (.inr rfl)) 1 _,h.lt⟩
theorem dread_laid (x:Option Addr)(cx:Nat)(l:List UInt8)(c q:Nat)(w:World)(s:Rs)(hm:DrM x cx l c q w s):∃ W,(Instr.storeAt 40 (.pointer (some ⟨w.heap.size+1,0,none⟩)) (.agg (frC Fr.zero At.zero))).run Tryz.prog ((w.alloc (.cells (frC Fr.zero At.zero) 40)).alloc (.cells (frC Fr.zero At.zero) 40))=.ok () W/\FDMid x cx l c q w s Fr.zero At.zero W:=by
 obtain⟨h1,h2⟩:=two_new' w Fr.zero At.zero Fr.zero At.zero
 have hb:Below w.heap.size w (((w.alloc (.cells (frC Fr.zero At.zero) 40)).alloc (.cells (frC Fr.zero At.zero) 40)).setRow (w.heap.size+1) (frC Fr.zero At.zero)):=below_setRow (Go.Joins.below_alloc2 _ _ _) (by omega) _
 exact⟨_,h2.stores _ _,h1.keep (setRow_other _ _ _ _ (by omega)),h2.stored _ _,hm.keep (hb.block _ hm.lt.2) (hb.block _ hm.lt.1) (hm.src.below hb),Seen.zero _,Apart.of_below hb,hm.lt⟩
theorem dread_done {x:Option Addr}{cx:Nat}{l:List UInt8}{c q:Nat}{w:World}{s:Rs}{G:Fr}{A:At}{W:World}(h:FDMid x cx l c q w s G A W):∃ W',(Instr.storeAt 40 (.pointer (some ⟨w.heap.size,0,none⟩)) (.agg (frC G A))).run Tryz.prog W=.ok () W'/\FrAt W' w.heap.size G A/\DrM x cx l c q W' s/\Seen W' G A/\Apart (Two2 c q) w W':=by
 have hlt:=h.lt
 have ot:∀ k,k≠w.heap.size->(W.setRow w.heap.size (frC G A)).heap[k]?=W.heap[k]?:=λk hk=>setRow_other _ _ _ _ hk
 have hb:∀ (y:Option Addr) (cy:Nat) (m:List UInt8),Sees W y cy m->Sees (W.setRow w.heap.size (frC G A)) y cy m:=λy cy m hs=>
  ⟨hs.fits, hs.room, hs.bare, fun hne => by
    obtain ⟨b', off, ha, hc⟩ := hs.at' hne
    refine ⟨b', off, ha, fun k z hz => ?_⟩
    rw [World.cell?_of_block (w := W) (ot b' (h.res.apart hs b' off ha hne)), hc k z hz]⟩
 refine⟨_,h.res.stores G A,h.res.stored G A,h.obj.keep (ot _ (by omega)) (ot _ (by omega)) (hb _ _ _ h.obj.src),⟨hb _ _ _ h.seen.key,hb _ _ _ h.seen.body,hb _ _ _ h.seen.tag⟩,h.apart.os,h.apart.tape,h.apart.output,Nat.le_trans h.apart.size (by simp),λk hk hn=>?_⟩
 rw[ot k (by omega)];exact h.apart.block k hk hn
def dmiss (l:List UInt8):Bool:=if (wholeR l).1.k=1\/(wholeR l).1.k=2\/(wholeR l).1.k=3 then (wholeR l).2.miss else true
def pingN {σ:Type}(fn:σ->Nat->Nat)(sn:σ->Nat->σ)(F:Fr)(s:σ):Fr×σ:=
 let s1:=sn s 4
 ({ F with t:=fn s 4,n:=fn s1 64 },sn s1 64)
def pongN {σ:Type}(fn:σ->Nat->Nat)(sn:σ->Nat->σ)(fl:σ->Nat->List UInt8)(sl:σ->Nat->σ)(F:Fr)(s:σ):Fr×σ:=
 let p:=pingN fn sn F s
 let s1:=sn p.2 48
 let s2:=sn s1 16
 let s3:=sn s2 24
 let s4:=sn s3 16
 ({ p.1 with m:=fn p.2 48,e:=fn s1 16,s:=fn s2 24,i:=fn s3 16,key:=fl s4 16 },sl s4 16)
def dataN' {σ:Type}(fn:σ->Nat->Nat)(sn:σ->Nat->σ)(fl:σ->Nat->List UInt8)(sl:σ->Nat->σ)(F:Fr)(s:σ):Fr×σ:=
 let s1:=sn s 16
 let s2:=sn s1 24
 let s3:=sn s2 8
 let s4:=sn s3 16
 let s5:=sl s4 16
 let s6:=sn s5 5
 ({ F with e:=fn s 16,r:=fn s1 24,v:=fn s2 8,i:=fn s3 16,key:=fl s4 16,body:=fl s6 (fn s5 5) },sl s6 (fn s5 5))
def coreN {σ:Type}(fn:σ->Nat->Nat)(sn:σ->Nat->σ)(fl:σ->Nat->List UInt8)(sl:σ->Nat->σ)(s0:σ):Fr×σ:=
 let s1:=sn s0 4
 let s2:=sn s1 4
 let F:Fr:={ Fr.zero with k:=fn s0 4,f:=fn s1 4 }
 if F.k=1 then dataN' fn sn fl sl F s2 else if F.k=2 then pingN fn sn F s2 else if F.k=3 then pongN fn sn fl sl F s2 else (F,s2)
def wholeN {σ:Type}(fn:σ->Nat->Nat)(sn:σ->Nat->σ)(fl:σ->Nat->List UInt8)(sl:σ->Nat->σ)(s0:σ):Fr×σ:=
 let p:=coreN fn sn fl sl s0
 ({ p.1 with tag:=fl p.2 8 },sl p.2 8)
theorem wholeN_eq (l:List UInt8):wholeN (numN l) (numS l) (lstN l) (lstS l) ⟨0,false⟩=wholeR l:=rfl
theorem chain_data {σ:Type}(fn:σ->Nat->Nat)(sn:σ->Nat->σ)(fl:σ->Nat->List UInt8)(sl:σ->Nat->σ){s0 s1 s2 s3 s4 s5 s6 s7 s8 s9 s10:σ}{x1 x2 x3 x4 x5 x6 x8:Nat}{q10 q7 q9:List UInt8}{G0 G1 G2 G3 G4 G5 G6 G7 G9 G10:Fr}(h0:G0=Fr.zero)(h1:x1=fn s0 4/\s1=sn s0 4/\G1={ G0 with k:=x1 })(h2:x2=fn s1 4/\s2=sn s1 4/\G2={ G1 with f:=x2 })(h3:x3=fn s2 16/\s3=sn s2 16/\G3={ G2 with e:=x3 })(h4:x4=fn s3 24/\s4=sn s3 24/\G4={ G3 with r:=x4 })(h5:x5=fn s4 8/\s5=sn s4 8/\G5={ G4 with v:=x5 })(h6:x6=fn s5 16/\s6=sn s5 16/\G6={ G5 with i:=x6 })(h7:q7=fl s6 16/\s7=sl s6 16/\G7={ G6 with key:=q7 })(h8:x8=fn s7 5/\s8=sn s7 5)(h9:q9=fl s8 x8/\s9=sl s8 x8/\G9={ G7 with body:=q9 })(h10:q10=fl s9 8/\s10=sl s9 8/\G10={ G9 with tag:=q10 })(k1:G2.k=1):G10=(wholeN fn sn fl sl s0).1/\s10=(wholeN fn sn fl sl s0).2:=by
 obtain⟨a1,b1,c1⟩:=h1
 obtain⟨a2,b2,c2⟩:=h2
 obtain⟨a3,b3,c3⟩:=h3
 obtain⟨a4,b4,c4⟩:=h4
 obtain⟨a5,b5,c5⟩:=h5
 obtain⟨a6,b6,c6⟩:=h6
 obtain⟨a7,b7,c7⟩:=h7
 obtain⟨a8,b8⟩:=h8
 obtain⟨a9,b9,c9⟩:=h9
 obtain⟨a10,b10,c10⟩:=h10
 subst c10 b10 a10 c9 b9 a9 b8 a8 c7 b7 a7 c6 b6 a6 c5 b5 a5 c4 b4 a4 c3 b3 a3 c2 b2 a2 c1 b1 a1 h0
 unfold wholeN coreN
 dsimp only at *
 rw[if_pos k1]
 exact⟨rfl,rfl⟩
theorem chain_ping {σ:Type}(fn:σ->Nat->Nat)(sn:σ->Nat->σ)(fl:σ->Nat->List UInt8)(sl:σ->Nat->σ){s0 s1 s2 s3 s4 s5:σ}{x1 x2 x3 x4:Nat}{q5:List UInt8}{G0 G1 G2 G3 G4 G5:Fr}(h0:G0=Fr.zero)(h1:x1=fn s0 4/\s1=sn s0 4/\G1={ G0 with k:=x1 })(h2:x2=fn s1 4/\s2=sn s1 4/\G2={ G1 with f:=x2 })(h3:x3=fn s2 4/\s3=sn s2 4/\G3={ G2 with t:=x3 })(h4:x4=fn s3 64/\s4=sn s3 64/\G4={ G3 with n:=x4 })(h5:q5=fl s4 8/\s5=sl s4 8/\G5={ G4 with tag:=q5 })(k1:¬ G2.k=1)(k2:G2.k=2):G5=(wholeN fn sn fl sl s0).1/\s5=(wholeN fn sn fl sl s0).2:=by
 obtain⟨a1,b1,c1⟩:=h1
 obtain⟨a2,b2,c2⟩:=h2
 obtain⟨a3,b3,c3⟩:=h3
 obtain⟨a4,b4,c4⟩:=h4
 obtain⟨a5,b5,c5⟩:=h5
 subst c5 b5 a5 c4 b4 a4 c3 b3 a3 c2 b2 a2 c1 b1 a1 h0
 unfold wholeN coreN
 dsimp only at *
 rw[if_neg k1,if_pos k2]
 exact⟨rfl,rfl⟩
theorem chain_pong {σ:Type}(fn:σ->Nat->Nat)(sn:σ->Nat->σ)(fl:σ->Nat->List UInt8)(sl:σ->Nat->σ){s0 s1 s2 s3 s4 s5 s6 s7 s8 s9 s10:σ}{x1 x2 x3 x4 x5 x6 x7 x8:Nat}{q10 q9:List UInt8}{G0 G1 G2 G3 G4 G5 G6 G7 G8 G9 G10:Fr}(h0:G0=Fr.zero)(h1:x1=fn s0 4/\s1=sn s0 4/\G1={ G0 with k:=x1 })(h2:x2=fn s1 4/\s2=sn s1 4/\G2={ G1 with f:=x2 })(h3:x3=fn s2 4/\s3=sn s2 4/\G3={ G2 with t:=x3 })(h4:x4=fn s3 64/\s4=sn s3 64/\G4={ G3 with n:=x4 })(h5:x5=fn s4 48/\s5=sn s4 48/\G5={ G4 with m:=x5 })(h6:x6=fn s5 16/\s6=sn s5 16/\G6={ G5 with e:=x6 })(h7:x7=fn s6 24/\s7=sn s6 24/\G7={ G6 with s:=x7 })(h8:x8=fn s7 16/\s8=sn s7 16/\G8={ G7 with i:=x8 })(h9:q9=fl s8 16/\s9=sl s8 16/\G9={ G8 with key:=q9 })(h10:q10=fl s9 8/\s10=sl s9 8/\G10={ G9 with tag:=q10 })(k1:¬ G2.k=1)(k2:¬ G2.k=2)(k3:G2.k=3):G10=(wholeN fn sn fl sl s0).1/\s10=(wholeN fn sn fl sl s0).2:=by
 obtain⟨a1,b1,c1⟩:=h1
 obtain⟨a2,b2,c2⟩:=h2
 obtain⟨a3,b3,c3⟩:=h3
 obtain⟨a4,b4,c4⟩:=h4
 obtain⟨a5,b5,c5⟩:=h5
 obtain⟨a6,b6,c6⟩:=h6
 obtain⟨a7,b7,c7⟩:=h7
 obtain⟨a8,b8,c8⟩:=h8
 obtain⟨a9,b9,c9⟩:=h9
 obtain⟨a10,b10,c10⟩:=h10
 subst c10 b10 a10 c9 b9 a9 c8 b8 a8 c7 b7 a7 c6 b6 a6 c5 b5 a5 c4 b4 a4 c3 b3 a3 c2 b2 a2 c1 b1 a1 h0
 unfold wholeN coreN
 dsimp only at *
 rw[if_neg k1,if_neg k2,if_pos k3]
 exact⟨rfl,rfl⟩
theorem dread_ok (x:Option Addr)(cx:Nat)(l:List UInt8)(c q:Nat)(w:World)(hm:DrM x cx l c q w ⟨0,false⟩):
  Calls Tryz.prog 69 #[.pointer (some ⟨q,0,none⟩)] w λe w'=>∃ A s,e=.returned (.agg (frC (wholeR l).1 A))/\DrM x cx l c q w' s/\Seen w' (wholeR l).1 A/\Apart (Two2 c q) w w'/\s.at_=(wholeR l).2.at_/\s.miss=dmiss l:=by
 obtain⟨X0,hst0,hM0⟩:=dread_laid x cx l c q w ⟨0,false⟩ hm
 have HBZ:Hid ((Instr.build 40 #[]).run Tryz.prog (w.alloc (.cells (frC Fr.zero At.zero) 40))=.ok (.agg (frC Fr.zero At.zero)) (w.alloc (.cells (frC Fr.zero At.zero) 40))):=run_build _ 40 _ _ (by kernel_rfl)
 have HST0:Hid ((Instr.storeAt 40 (.pointer (some ⟨w.heap.size+1,0,none⟩)) (.agg (frC Fr.zero At.zero))).run Tryz.prog ((w.alloc (.cells (frC Fr.zero At.zero) 40)).alloc (.cells (frC Fr.zero At.zero) 40))=.ok () X0):=hst0
 obtain⟨s0,hs0⟩:∃ s0:Rs,s0=⟨0,false⟩:=⟨_,rfl⟩
 obtain⟨G0,hG0⟩:∃ G0:Fr,G0=Fr.zero:=⟨_,rfl⟩
 obtain⟨A0,hA0⟩:∃ A0:At,A0=At.zero:=⟨_,rfl⟩
 have HM0:Hid (FDMid x cx l c q w s0 G0 A0 X0):=by rw[hs0,hG0,hA0];exact hM0
 have EQ0:Hid (s0=⟨0,false⟩/\G0=Fr.zero):=⟨hs0,hG0⟩
 clear hst0 hM0 hm hs0 hG0 hA0
 go_enter Tryz.func69,Tryz.ntmps69
 go_upto_region 2 with (first|(refine wpList_build_run rfl 40 _ rfl [] _ rfl HBZ.out ?_)|(refine wpList_store_run rfl 40 _ _ rfl _ _ rfl rfl HST0.out ?_)|fail)
 clear HBZ HST0
 have hc:=dnum_ok x cx l c q X0 s0 4 HM0.out.obj
 have bx1:=num_lt2 l s0 4
 obtain⟨x1,ex1⟩:∃ z,z=numN l s0 4:=⟨_,rfl⟩
 obtain⟨s1,es1⟩:∃ z,z=numS l s0 4:=⟨_,rfl⟩
 obtain⟨G1,eG1⟩:∃ g:Fr,g={ G0 with k:=x1 }:=⟨_,rfl⟩
 rw[<-ex1] at hc bx1
 rw[<-es1] at hc
 have lx1:x1<16:=bx1
 have EQ1:Hid (x1=numN l s0 4/\s1=numS l s0 4/\G1={ G0 with k:=x1 }):=⟨ex1,es1,eG1⟩
 clear ex1 es1 eG1 bx1
 go_wp2_with fail
 refine hc.mono ?_
 rintro e V1 ⟨rfl,hd,ha⟩
 have hM:=HM0.out.call hd ha
 have d0:=hM.fr.c0
 have z0:=hM.fr.fz 0
 have HM1:Hid (FDMid x cx l c q w s1 G1 A0 (V1.setCell ⟨w.heap.size+1,0,none⟩ (.int .i64 (x1:Int)))):=
  hM.set 0 _ G1 A0 (by rw[EQ1.out.2.2];rfl) (by rw[EQ1.out.2.2];exact⟨hM.seen.key,hM.seen.body,hM.seen.tag⟩)
 clear hc hd ha hM
 go_upto_region 3 with fail
 clear d0 z0 lx1
 generalize V1.setCell ⟨w.heap.size+1,0,none⟩ (.int .i64 (x1:Int))=X1 at *
 have hc:=dnum_ok x cx l c q X1 s1 4 HM1.out.obj
 have bx2:=num_lt2 l s1 4
 obtain⟨x2,ex2⟩:∃ z,z=numN l s1 4:=⟨_,rfl⟩
 obtain⟨s2,es2⟩:∃ z,z=numS l s1 4:=⟨_,rfl⟩
 obtain⟨G2,eG2⟩:∃ g:Fr,g={ G1 with f:=x2 }:=⟨_,rfl⟩
 rw[<-ex2] at hc bx2
 rw[<-es2] at hc
 have lx2:x2<16:=bx2
 have EQ2:Hid (x2=numN l s1 4/\s2=numS l s1 4/\G2={ G1 with f:=x2 }):=⟨ex2,es2,eG2⟩
 clear ex2 es2 eG2 bx2
 go_wp2_with fail
 refine hc.mono ?_
 rintro e V2 ⟨rfl,hd,ha⟩
 have hM:=HM1.out.call hd ha
 have d1:=hM.fr.c1
 have z1:=hM.fr.fz 1
 have HM2:Hid (FDMid x cx l c q w s2 G2 A0 (V2.setCell ⟨w.heap.size+1,1,none⟩ (.int .i64 (x2:Int)))):=
  hM.set 1 _ G2 A0 (by rw[EQ2.out.2.2];rfl) (by rw[EQ2.out.2.2];exact⟨hM.seen.key,hM.seen.body,hM.seen.tag⟩)
 clear hc hd ha hM
 go_upto_region 4 with fail
 clear d1 z1 lx2
 generalize V2.setCell ⟨w.heap.size+1,1,none⟩ (.int .i64 (x2:Int))=X2 at *
 have c0:=HM2.out.fr.c0
 have HK:Hid ((wholeR l).1.k=G2.k):=by
  obtain⟨a1,b1,c1⟩:=EQ1.out
  obtain⟨a2,b2,c2⟩:=EQ2.out
  obtain⟨p1,p2⟩:=EQ0.out
  subst c2 b2 a2 c1 b1 a1 p1 p2
  show (wholeR l).1.k=_
  unfold wholeR coreR
  dsimp only
  split
  ·rfl
  ·split
   ·rfl
   ·split<;>rfl
 by_cases k1:G2.k=1
 ·have g1:(G2.k==1)=true:=by simp[k1]
  have K:Hid (G2.k=1):=k1
  clear k1
  go_upto_region 7 with fail
  clear c0
  have hc:=dnum_ok x cx l c q X2 s2 16 HM2.out.obj
  have bx3:=num_lt2 l s2 16
  obtain⟨x3,ex3⟩:∃ z,z=numN l s2 16:=⟨_,rfl⟩
  obtain⟨s3,es3⟩:∃ z,z=numS l s2 16:=⟨_,rfl⟩
  obtain⟨G3,eG3⟩:∃ g:Fr,g={ G2 with e:=x3 }:=⟨_,rfl⟩
  rw[<-ex3] at hc bx3
  rw[<-es3] at hc
  have lx3:x3<65536:=bx3
  have EQ3:Hid (x3=numN l s2 16/\s3=numS l s2 16/\G3={ G2 with e:=x3 }):=⟨ex3,es3,eG3⟩
  clear ex3 es3 eG3 bx3
  go_wp2_with fail
  refine hc.mono ?_
  rintro e V3 ⟨rfl,hd,ha⟩
  have hM:=HM2.out.call hd ha
  have d3:=hM.fr.c3
  have z3:=hM.fr.fz 3
  have HM3:Hid (FDMid x cx l c q w s3 G3 A0 (V3.setCell ⟨w.heap.size+1,3,none⟩ (.int .i64 (x3:Int)))):=
   hM.set 3 _ G3 A0 (by rw[EQ3.out.2.2];rfl) (by rw[EQ3.out.2.2];exact⟨hM.seen.key,hM.seen.body,hM.seen.tag⟩)
  clear hc hd ha hM
  go_upto_region 8 with fail
  clear d3 z3 lx3
  generalize V3.setCell ⟨w.heap.size+1,3,none⟩ (.int .i64 (x3:Int))=X3 at *
  have hc:=dnum_ok x cx l c q X3 s3 24 HM3.out.obj
  have bx4:=num_lt2 l s3 24
  obtain⟨x4,ex4⟩:∃ z,z=numN l s3 24:=⟨_,rfl⟩
  obtain⟨s4,es4⟩:∃ z,z=numS l s3 24:=⟨_,rfl⟩
  obtain⟨G4,eG4⟩:∃ g:Fr,g={ G3 with r:=x4 }:=⟨_,rfl⟩
  rw[<-ex4] at hc bx4
  rw[<-es4] at hc
  have lx4:x4<16777216:=bx4
  have EQ4:Hid (x4=numN l s3 24/\s4=numS l s3 24/\G4={ G3 with r:=x4 }):=⟨ex4,es4,eG4⟩
  clear ex4 es4 eG4 bx4
  go_wp2_with fail
  refine hc.mono ?_
  rintro e V4 ⟨rfl,hd,ha⟩
  have hM:=HM3.out.call hd ha
  have d5:=hM.fr.c5
  have z5:=hM.fr.fz 5
  have HM4:Hid (FDMid x cx l c q w s4 G4 A0 (V4.setCell ⟨w.heap.size+1,5,none⟩ (.int .i64 (x4:Int)))):=
   hM.set 5 _ G4 A0 (by rw[EQ4.out.2.2];rfl) (by rw[EQ4.out.2.2];exact⟨hM.seen.key,hM.seen.body,hM.seen.tag⟩)
  clear hc hd ha hM
  go_upto_region 9 with fail
  clear d5 z5 lx4
  generalize V4.setCell ⟨w.heap.size+1,5,none⟩ (.int .i64 (x4:Int))=X4 at *
  have hc:=dnum_ok x cx l c q X4 s4 8 HM4.out.obj
  have bx5:=num_lt2 l s4 8
  obtain⟨x5,ex5⟩:∃ z,z=numN l s4 8:=⟨_,rfl⟩
  obtain⟨s5,es5⟩:∃ z,z=numS l s4 8:=⟨_,rfl⟩
  obtain⟨G5,eG5⟩:∃ g:Fr,g={ G4 with v:=x5 }:=⟨_,rfl⟩
  rw[<-ex5] at hc bx5
  rw[<-es5] at hc
  have lx5:x5<256:=bx5
  have EQ5:Hid (x5=numN l s4 8/\s5=numS l s4 8/\G5={ G4 with v:=x5 }):=⟨ex5,es5,eG5⟩
  clear ex5 es5 eG5 bx5
  go_wp2_with fail
  refine hc.mono ?_
  rintro e V5 ⟨rfl,hd,ha⟩
  have hM:=HM4.out.call hd ha
  have d8:=hM.fr.c8
  have z8:=hM.fr.fz 8
  have HM5:Hid (FDMid x cx l c q w s5 G5 A0 (V5.setCell ⟨w.heap.size+1,8,none⟩ (.int .i64 (x5:Int)))):=
   hM.set 8 _ G5 A0 (by rw[EQ5.out.2.2];rfl) (by rw[EQ5.out.2.2];exact⟨hM.seen.key,hM.seen.body,hM.seen.tag⟩)
  clear hc hd ha hM
  go_upto_region 10 with fail
  clear d8 z8 lx5
  generalize V5.setCell ⟨w.heap.size+1,8,none⟩ (.int .i64 (x5:Int))=X5 at *
  have hc:=dnum_ok x cx l c q X5 s5 16 HM5.out.obj
  have bx6:=num_lt2 l s5 16
  obtain⟨x6,ex6⟩:∃ z,z=numN l s5 16:=⟨_,rfl⟩
  obtain⟨s6,es6⟩:∃ z,z=numS l s5 16:=⟨_,rfl⟩
  obtain⟨G6,eG6⟩:∃ g:Fr,g={ G5 with i:=x6 }:=⟨_,rfl⟩
  rw[<-ex6] at hc bx6
  rw[<-es6] at hc
  have lx6:x6<65536:=bx6
  have EQ6:Hid (x6=numN l s5 16/\s6=numS l s5 16/\G6={ G5 with i:=x6 }):=⟨ex6,es6,eG6⟩
  clear ex6 es6 eG6 bx6
  go_wp2_with fail
  refine hc.mono ?_
  rintro e V6 ⟨rfl,hd,ha⟩
  have hM:=HM5.out.call hd ha
  have d9:=hM.fr.c9
  have z9:=hM.fr.fz 9
  have HM6:Hid (FDMid x cx l c q w s6 G6 A0 (V6.setCell ⟨w.heap.size+1,9,none⟩ (.int .i64 (x6:Int)))):=
   hM.set 9 _ G6 A0 (by rw[EQ6.out.2.2];rfl) (by rw[EQ6.out.2.2];exact⟨hM.seen.key,hM.seen.body,hM.seen.tag⟩)
  clear hc hd ha hM
  go_upto_region 11 with fail
  clear d9 z9 lx6
  generalize V6.setCell ⟨w.heap.size+1,9,none⟩ (.int .i64 (x6:Int))=X6 at *
  have hc:=dlst_ok x cx l c q X6 s6 16 HM6.out.obj
  obtain⟨s7,es7⟩:∃ z,z=lstS l s6 16:=⟨_,rfl⟩
  rw[<-es7] at hc
  have ES7:Hid (s7=lstS l s6 16):=es7
  clear es7
  go_wp2_with fail
  refine hc.mono ?_
  rintro e V7 ⟨a7,ca7,q7,eq7,rfl,hq,hd,ha⟩
  obtain⟨G7,eG7⟩:∃ g:Fr,g={ G6 with key:=q7 }:=⟨_,rfl⟩
  have hM:=HM6.out.call hd ha
  have EQ7:Hid (q7=lstN l s6 16/\s7=lstS l s6 16/\G7={ G6 with key:=q7 }):=⟨eq7.out,ES7.out,eG7⟩
  have d10:=hM.fr.c10
  have z10:=hM.fr.fz 10
  have HM7:Hid (FDMid x cx l c q w s7 G7 { A0 with ka:=a7,kc:=ca7 } (V7.setCell ⟨w.heap.size+1,10,none⟩ (.slice a7 q7.length ca7))):=
   hM.set 10 _ G7 { A0 with ka:=a7,kc:=ca7 } (by rw[EQ7.out.2.2];rfl) (by rw[EQ7.out.2.2];exact⟨hq,hM.seen.body,hM.seen.tag⟩)
  clear hc hd ha hM hq eG7 eq7 ES7
  go_upto_region 12 with fail
  clear d10 z10
  generalize V7.setCell ⟨w.heap.size+1,10,none⟩ (.slice a7 q7.length ca7)=X7 at *
  generalize ({ A0 with ka:=a7,kc:=ca7 }:At)=A7 at *
  have hc:=dnum_ok x cx l c q X7 s7 5 HM7.out.obj
  have bx8:=num_lt2 l s7 5
  obtain⟨x8,ex8⟩:∃ z,z=numN l s7 5:=⟨_,rfl⟩
  obtain⟨s8,es8⟩:∃ z,z=numS l s7 5:=⟨_,rfl⟩
  rw[<-ex8] at hc bx8
  rw[<-es8] at hc
  have lx8:x8<32:=bx8
  have EQ8:Hid (x8=numN l s7 5/\s8=numS l s7 5):=⟨ex8,es8⟩
  clear ex8 es8 bx8
  go_wp2_with fail
  refine hc.mono ?_
  rintro e X8 ⟨rfl,hd,ha⟩
  have HM8:Hid (FDMid x cx l c q w s8 G7 A7 X8):=HM7.out.call hd ha
  clear hc hd ha
  have hc:=dlst_ok x cx l c q X8 s8 x8 HM8.out.obj
  obtain⟨s9,es9⟩:∃ z,z=lstS l s8 x8:=⟨_,rfl⟩
  rw[<-es9] at hc
  have ES9:Hid (s9=lstS l s8 x8):=es9
  clear es9
  go_wp2_with fail
  refine hc.mono ?_
  rintro e V9 ⟨a9,ca9,q9,eq9,rfl,hq,hd,ha⟩
  obtain⟨G9,eG9⟩:∃ g:Fr,g={ G7 with body:=q9 }:=⟨_,rfl⟩
  have hM:=HM8.out.call hd ha
  have EQ9:Hid (q9=lstN l s8 x8/\s9=lstS l s8 x8/\G9={ G7 with body:=q9 }):=⟨eq9.out,ES9.out,eG9⟩
  have d11:=hM.fr.c11
  have z11:=hM.fr.fz 11
  have HM9:Hid (FDMid x cx l c q w s9 G9 { A7 with ba:=a9,bc:=ca9 } (V9.setCell ⟨w.heap.size+1,11,none⟩ (.slice a9 q9.length ca9))):=
   hM.set 11 _ G9 { A7 with ba:=a9,bc:=ca9 } (by rw[EQ9.out.2.2];rfl) (by rw[EQ9.out.2.2];exact⟨hM.seen.key,hq,hM.seen.tag⟩)
  clear hc hd ha hM hq eG9 eq9 ES9
  go_upto_region 24 with fail
  clear d11 z11
  generalize V9.setCell ⟨w.heap.size+1,11,none⟩ (.slice a9 q9.length ca9)=X9 at *
  generalize ({ A7 with ba:=a9,bc:=ca9 }:At)=A9 at *
  have hc:=dlst_ok x cx l c q X9 s9 8 HM9.out.obj
  obtain⟨s10,es10⟩:∃ z,z=lstS l s9 8:=⟨_,rfl⟩
  rw[<-es10] at hc
  have ES10:Hid (s10=lstS l s9 8):=es10
  clear es10
  go_wp2_with fail
  refine hc.mono ?_
  rintro e V10 ⟨a10,ca10,q10,eq10,rfl,hq,hd,ha⟩
  obtain⟨G10,eG10⟩:∃ g:Fr,g={ G9 with tag:=q10 }:=⟨_,rfl⟩
  have hM:=HM9.out.call hd ha
  have EQ10:Hid (q10=lstN l s9 8/\s10=lstS l s9 8/\G10={ G9 with tag:=q10 }):=⟨eq10.out,ES10.out,eG10⟩
  have d12:=hM.fr.c12
  have z12:=hM.fr.fz 12
  have HM10:Hid (FDMid x cx l c q w s10 G10 { A9 with ta:=a10,tc:=ca10 } (V10.setCell ⟨w.heap.size+1,12,none⟩ (.slice a10 q10.length ca10))):=
   hM.set 12 _ G10 { A9 with ta:=a10,tc:=ca10 } (by rw[EQ10.out.2.2];rfl) (by rw[EQ10.out.2.2];exact⟨hM.seen.key,hM.seen.body,hq⟩)
  clear hc hd ha hM hq eG10 eq10 ES10
  go_upto_region 25 with fail
  clear d12 z12
  generalize V10.setCell ⟨w.heap.size+1,12,none⟩ (.slice a10 q10.length ca10)=X10 at *
  generalize ({ A9 with ta:=a10,tc:=ca10 }:At)=A10 at *
  obtain⟨hF,hSS⟩:=chain_data (numN l) (numS l) (lstN l) (lstS l) EQ0.out.2 EQ1.out EQ2.out EQ3.out EQ4.out EQ5.out EQ6.out EQ7.out EQ8.out EQ9.out EQ10.out K.out
  have hEE:G10=(wholeR l).1/\s10.at_=(wholeR l).2.at_/\s10.miss=dmiss l:=by
   rw[EQ0.out.1,wholeN_eq] at hF hSS
   refine⟨hF,by rw[hSS],?_⟩
   rw[hSS]
   unfold dmiss
   rw[HK.out]
   exact(if_pos (.inl K.out)).symm
  clear hF hSS
  obtain⟨hE1,hE2,hE3⟩:=hEE
  obtain⟨Y,hst,hY,hdY,hsY,haY⟩:=dread_done HM10.out
  have HL:Hid ((Instr.loadAt 40 (.pointer (some ⟨w.heap.size+1,0,none⟩))).run Tryz.prog X10=.ok (.agg (frC G10 A10)) X10):=HM10.out.fr.loads
  have HST:Hid ((Instr.storeAt 40 (.pointer (some ⟨w.heap.size,0,none⟩)) (.agg (frC G10 A10))).run Tryz.prog X10=.ok () Y):=hst
  have HE:Hid (FrAt Y w.heap.size G10 A10/\DrM x cx l c q Y s10/\Seen Y G10 A10/\Apart (Two2 c q) w Y/\G10=(wholeR l).1/\s10.at_=(wholeR l).2.at_/\s10.miss=dmiss l):=⟨hY,hdY,hsY,haY,hE1,hE2,hE3⟩
  clear hst hY hdY hsY haY hE1 hE2 hE3
  go_wp2_with (first|(refine wpList_gload_run rfl 40 _ rfl _ _ rfl HL.out ?_)|(refine wpList_store_run rfl 40 _ _ rfl _ _ rfl rfl HST.out ?_)|fail)
  refine bodyPost_ret (res_fr rfl rfl HE.out.1) rfl ?_
  obtain⟨h1,h2,h3,h4,h5,h6,h7⟩:=HE.out
  exact⟨A10,s10,by rw[h5],h2,by rw[<-h5];exact h3,h4,h6,h7⟩
 ·have g1:(G2.k==1)=false:=by simp[k1]
  by_cases k2:G2.k=2
  ·have g2:(G2.k==2)=true:=by simp[k2]
   have K1:Hid (¬ G2.k=1):=k1
   have K:Hid (G2.k=2):=k2
   clear k1 k2
   go_upto_region 14 with fail
   clear c0
   have hc:=dnum_ok x cx l c q X2 s2 4 HM2.out.obj
   have bx3:=num_lt2 l s2 4
   obtain⟨x3,ex3⟩:∃ z,z=numN l s2 4:=⟨_,rfl⟩
   obtain⟨s3,es3⟩:∃ z,z=numS l s2 4:=⟨_,rfl⟩
   obtain⟨G3,eG3⟩:∃ g:Fr,g={ G2 with t:=x3 }:=⟨_,rfl⟩
   rw[<-ex3] at hc bx3
   rw[<-es3] at hc
   have lx3:x3<16:=bx3
   have EQ3:Hid (x3=numN l s2 4/\s3=numS l s2 4/\G3={ G2 with t:=x3 }):=⟨ex3,es3,eG3⟩
   clear ex3 es3 eG3 bx3
   go_wp2_with fail
   refine hc.mono ?_
   rintro e V3 ⟨rfl,hd,ha⟩
   have hM:=HM2.out.call hd ha
   have d2:=hM.fr.c2
   have z2:=hM.fr.fz 2
   have HM3:Hid (FDMid x cx l c q w s3 G3 A0 (V3.setCell ⟨w.heap.size+1,2,none⟩ (.int .i64 (x3:Int)))):=
    hM.set 2 _ G3 A0 (by rw[EQ3.out.2.2];rfl) (by rw[EQ3.out.2.2];exact⟨hM.seen.key,hM.seen.body,hM.seen.tag⟩)
   clear hc hd ha hM
   go_upto_region 15 with fail
   clear d2 z2 lx3
   generalize V3.setCell ⟨w.heap.size+1,2,none⟩ (.int .i64 (x3:Int))=X3 at *
   have hc:=dnum_ok x cx l c q X3 s3 64 HM3.out.obj
   have bx4:=num_lt2 l s3 64
   obtain⟨x4,ex4⟩:∃ z,z=numN l s3 64:=⟨_,rfl⟩
   obtain⟨s4,es4⟩:∃ z,z=numS l s3 64:=⟨_,rfl⟩
   obtain⟨G4,eG4⟩:∃ g:Fr,g={ G3 with n:=x4 }:=⟨_,rfl⟩
   rw[<-ex4] at hc bx4
   rw[<-es4] at hc
   have lx4:x4<18446744073709551616:=bx4
   have EQ4:Hid (x4=numN l s3 64/\s4=numS l s3 64/\G4={ G3 with n:=x4 }):=⟨ex4,es4,eG4⟩
   clear ex4 es4 eG4 bx4
   go_wp2_with fail
   refine hc.mono ?_
   rintro e V4 ⟨rfl,hd,ha⟩
   have hM:=HM3.out.call hd ha
   have d6:=hM.fr.c6
   have z6:=hM.fr.fz 6
   have HM4:Hid (FDMid x cx l c q w s4 G4 A0 (V4.setCell ⟨w.heap.size+1,6,none⟩ (.int .u64 (x4:Int)))):=
    hM.set 6 _ G4 A0 (by rw[EQ4.out.2.2];rfl) (by rw[EQ4.out.2.2];exact⟨hM.seen.key,hM.seen.body,hM.seen.tag⟩)
   clear hc hd ha hM
   go_upto_region 24 with fail
   clear d6 z6 lx4
   generalize V4.setCell ⟨w.heap.size+1,6,none⟩ (.int .u64 (x4:Int))=X4 at *
   have hc:=dlst_ok x cx l c q X4 s4 8 HM4.out.obj
   obtain⟨s5,es5⟩:∃ z,z=lstS l s4 8:=⟨_,rfl⟩
   rw[<-es5] at hc
   have ES5:Hid (s5=lstS l s4 8):=es5
   clear es5
   go_wp2_with fail
   refine hc.mono ?_
   rintro e V5 ⟨a5,ca5,q5,eq5,rfl,hq,hd,ha⟩
   obtain⟨G5,eG5⟩:∃ g:Fr,g={ G4 with tag:=q5 }:=⟨_,rfl⟩
   have hM:=HM4.out.call hd ha
   have EQ5:Hid (q5=lstN l s4 8/\s5=lstS l s4 8/\G5={ G4 with tag:=q5 }):=⟨eq5.out,ES5.out,eG5⟩
   have d12:=hM.fr.c12
   have z12:=hM.fr.fz 12
   have HM5:Hid (FDMid x cx l c q w s5 G5 { A0 with ta:=a5,tc:=ca5 } (V5.setCell ⟨w.heap.size+1,12,none⟩ (.slice a5 q5.length ca5))):=
    hM.set 12 _ G5 { A0 with ta:=a5,tc:=ca5 } (by rw[EQ5.out.2.2];rfl) (by rw[EQ5.out.2.2];exact⟨hM.seen.key,hM.seen.body,hq⟩)
   clear hc hd ha hM hq eG5 eq5 ES5
   go_upto_region 25 with fail
   clear d12 z12
   generalize V5.setCell ⟨w.heap.size+1,12,none⟩ (.slice a5 q5.length ca5)=X5 at *
   generalize ({ A0 with ta:=a5,tc:=ca5 }:At)=A5 at *
   obtain⟨hF,hSS⟩:=chain_ping (numN l) (numS l) (lstN l) (lstS l) EQ0.out.2 EQ1.out EQ2.out EQ3.out EQ4.out EQ5.out K1.out K.out
   have hEE:G5=(wholeR l).1/\s5.at_=(wholeR l).2.at_/\s5.miss=dmiss l:=by
    rw[EQ0.out.1,wholeN_eq] at hF hSS
    refine⟨hF,by rw[hSS],?_⟩
    rw[hSS]
    unfold dmiss
    rw[HK.out]
    exact(if_pos (.inr (.inl K.out))).symm
   clear hF hSS
   obtain⟨hE1,hE2,hE3⟩:=hEE
   obtain⟨Y,hst,hY,hdY,hsY,haY⟩:=dread_done HM5.out
   have HL:Hid ((Instr.loadAt 40 (.pointer (some ⟨w.heap.size+1,0,none⟩))).run Tryz.prog X5=.ok (.agg (frC G5 A5)) X5):=HM5.out.fr.loads
   have HST:Hid ((Instr.storeAt 40 (.pointer (some ⟨w.heap.size,0,none⟩)) (.agg (frC G5 A5))).run Tryz.prog X5=.ok () Y):=hst
   have HE:Hid (FrAt Y w.heap.size G5 A5/\DrM x cx l c q Y s5/\Seen Y G5 A5/\Apart (Two2 c q) w Y/\G5=(wholeR l).1/\s5.at_=(wholeR l).2.at_/\s5.miss=dmiss l):=⟨hY,hdY,hsY,haY,hE1,hE2,hE3⟩
   clear hst hY hdY hsY haY hE1 hE2 hE3
   go_wp2_with (first|(refine wpList_gload_run rfl 40 _ rfl _ _ rfl HL.out ?_)|(refine wpList_store_run rfl 40 _ _ rfl _ _ rfl rfl HST.out ?_)|fail)
   refine bodyPost_ret (res_fr rfl rfl HE.out.1) rfl ?_
   obtain⟨h1,h2,h3,h4,h5,h6,h7⟩:=HE.out
   exact⟨A5,s5,by rw[h5],h2,by rw[<-h5];exact h3,h4,h6,h7⟩
  ·have g2:(G2.k==2)=false:=by simp[k2]
   by_cases k3:G2.k=3
   ·have g3:(G2.k==3)=true:=by simp[k3]
    have K1:Hid (¬ G2.k=1):=k1
    have K2:Hid (¬ G2.k=2):=k2
    have K:Hid (G2.k=3):=k3
    clear k1 k2 k3
    go_upto_region 17 with fail
    clear c0
    have hc:=dnum_ok x cx l c q X2 s2 4 HM2.out.obj
    have bx3:=num_lt2 l s2 4
    obtain⟨x3,ex3⟩:∃ z,z=numN l s2 4:=⟨_,rfl⟩
    obtain⟨s3,es3⟩:∃ z,z=numS l s2 4:=⟨_,rfl⟩
    obtain⟨G3,eG3⟩:∃ g:Fr,g={ G2 with t:=x3 }:=⟨_,rfl⟩
    rw[<-ex3] at hc bx3
    rw[<-es3] at hc
    have lx3:x3<16:=bx3
    have EQ3:Hid (x3=numN l s2 4/\s3=numS l s2 4/\G3={ G2 with t:=x3 }):=⟨ex3,es3,eG3⟩
    clear ex3 es3 eG3 bx3
    go_wp2_with fail
    refine hc.mono ?_
    rintro e V3 ⟨rfl,hd,ha⟩
    have hM:=HM2.out.call hd ha
    have d2:=hM.fr.c2
    have z2:=hM.fr.fz 2
    have HM3:Hid (FDMid x cx l c q w s3 G3 A0 (V3.setCell ⟨w.heap.size+1,2,none⟩ (.int .i64 (x3:Int)))):=
     hM.set 2 _ G3 A0 (by rw[EQ3.out.2.2];rfl) (by rw[EQ3.out.2.2];exact⟨hM.seen.key,hM.seen.body,hM.seen.tag⟩)
    clear hc hd ha hM
    go_upto_region 18 with fail
    clear d2 z2 lx3
    generalize V3.setCell ⟨w.heap.size+1,2,none⟩ (.int .i64 (x3:Int))=X3 at *
    have hc:=dnum_ok x cx l c q X3 s3 64 HM3.out.obj
    have bx4:=num_lt2 l s3 64
    obtain⟨x4,ex4⟩:∃ z,z=numN l s3 64:=⟨_,rfl⟩
    obtain⟨s4,es4⟩:∃ z,z=numS l s3 64:=⟨_,rfl⟩
    obtain⟨G4,eG4⟩:∃ g:Fr,g={ G3 with n:=x4 }:=⟨_,rfl⟩
    rw[<-ex4] at hc bx4
    rw[<-es4] at hc
    have lx4:x4<18446744073709551616:=bx4
    have EQ4:Hid (x4=numN l s3 64/\s4=numS l s3 64/\G4={ G3 with n:=x4 }):=⟨ex4,es4,eG4⟩
    clear ex4 es4 eG4 bx4
    go_wp2_with fail
    refine hc.mono ?_
    rintro e V4 ⟨rfl,hd,ha⟩
    have hM:=HM3.out.call hd ha
    have d6:=hM.fr.c6
    have z6:=hM.fr.fz 6
    have HM4:Hid (FDMid x cx l c q w s4 G4 A0 (V4.setCell ⟨w.heap.size+1,6,none⟩ (.int .u64 (x4:Int)))):=
     hM.set 6 _ G4 A0 (by rw[EQ4.out.2.2];rfl) (by rw[EQ4.out.2.2];exact⟨hM.seen.key,hM.seen.body,hM.seen.tag⟩)
    clear hc hd ha hM
    go_upto_region 19 with fail
    clear d6 z6 lx4
    generalize V4.setCell ⟨w.heap.size+1,6,none⟩ (.int .u64 (x4:Int))=X4 at *
    have hc:=dnum_ok x cx l c q X4 s4 48 HM4.out.obj
    have bx5:=num_lt2 l s4 48
    obtain⟨x5,ex5⟩:∃ z,z=numN l s4 48:=⟨_,rfl⟩
    obtain⟨s5,es5⟩:∃ z,z=numS l s4 48:=⟨_,rfl⟩
    obtain⟨G5,eG5⟩:∃ g:Fr,g={ G4 with m:=x5 }:=⟨_,rfl⟩
    rw[<-ex5] at hc bx5
    rw[<-es5] at hc
    have lx5:x5<281474976710656:=bx5
    have EQ5:Hid (x5=numN l s4 48/\s5=numS l s4 48/\G5={ G4 with m:=x5 }):=⟨ex5,es5,eG5⟩
    clear ex5 es5 eG5 bx5
    go_wp2_with fail
    refine hc.mono ?_
    rintro e V5 ⟨rfl,hd,ha⟩
    have hM:=HM4.out.call hd ha
    have d7:=hM.fr.c7
    have z7:=hM.fr.fz 7
    have HM5:Hid (FDMid x cx l c q w s5 G5 A0 (V5.setCell ⟨w.heap.size+1,7,none⟩ (.int .i64 (x5:Int)))):=
     hM.set 7 _ G5 A0 (by rw[EQ5.out.2.2];rfl) (by rw[EQ5.out.2.2];exact⟨hM.seen.key,hM.seen.body,hM.seen.tag⟩)
    clear hc hd ha hM
    go_upto_region 20 with fail
    clear d7 z7 lx5
    generalize V5.setCell ⟨w.heap.size+1,7,none⟩ (.int .i64 (x5:Int))=X5 at *
    have hc:=dnum_ok x cx l c q X5 s5 16 HM5.out.obj
    have bx6:=num_lt2 l s5 16
    obtain⟨x6,ex6⟩:∃ z,z=numN l s5 16:=⟨_,rfl⟩
    obtain⟨s6,es6⟩:∃ z,z=numS l s5 16:=⟨_,rfl⟩
    obtain⟨G6,eG6⟩:∃ g:Fr,g={ G5 with e:=x6 }:=⟨_,rfl⟩
    rw[<-ex6] at hc bx6
    rw[<-es6] at hc
    have lx6:x6<65536:=bx6
    have EQ6:Hid (x6=numN l s5 16/\s6=numS l s5 16/\G6={ G5 with e:=x6 }):=⟨ex6,es6,eG6⟩
    clear ex6 es6 eG6 bx6
    go_wp2_with fail
    refine hc.mono ?_
    rintro e V6 ⟨rfl,hd,ha⟩
    have hM:=HM5.out.call hd ha
    have d3:=hM.fr.c3
    have z3:=hM.fr.fz 3
    have HM6:Hid (FDMid x cx l c q w s6 G6 A0 (V6.setCell ⟨w.heap.size+1,3,none⟩ (.int .i64 (x6:Int)))):=
     hM.set 3 _ G6 A0 (by rw[EQ6.out.2.2];rfl) (by rw[EQ6.out.2.2];exact⟨hM.seen.key,hM.seen.body,hM.seen.tag⟩)
    clear hc hd ha hM
    go_upto_region 21 with fail
    clear d3 z3 lx6
    generalize V6.setCell ⟨w.heap.size+1,3,none⟩ (.int .i64 (x6:Int))=X6 at *
    have hc:=dnum_ok x cx l c q X6 s6 24 HM6.out.obj
    have bx7:=num_lt2 l s6 24
    obtain⟨x7,ex7⟩:∃ z,z=numN l s6 24:=⟨_,rfl⟩
    obtain⟨s7,es7⟩:∃ z,z=numS l s6 24:=⟨_,rfl⟩
    obtain⟨G7,eG7⟩:∃ g:Fr,g={ G6 with s:=x7 }:=⟨_,rfl⟩
    rw[<-ex7] at hc bx7
    rw[<-es7] at hc
    have lx7:x7<16777216:=bx7
    have EQ7:Hid (x7=numN l s6 24/\s7=numS l s6 24/\G7={ G6 with s:=x7 }):=⟨ex7,es7,eG7⟩
    clear ex7 es7 eG7 bx7
    go_wp2_with fail
    refine hc.mono ?_
    rintro e V7 ⟨rfl,hd,ha⟩
    have hM:=HM6.out.call hd ha
    have d4:=hM.fr.c4
    have z4:=hM.fr.fz 4
    have HM7:Hid (FDMid x cx l c q w s7 G7 A0 (V7.setCell ⟨w.heap.size+1,4,none⟩ (.int .i64 (x7:Int)))):=
     hM.set 4 _ G7 A0 (by rw[EQ7.out.2.2];rfl) (by rw[EQ7.out.2.2];exact⟨hM.seen.key,hM.seen.body,hM.seen.tag⟩)
    clear hc hd ha hM
    go_upto_region 22 with fail
    clear d4 z4 lx7
    generalize V7.setCell ⟨w.heap.size+1,4,none⟩ (.int .i64 (x7:Int))=X7 at *
    have hc:=dnum_ok x cx l c q X7 s7 16 HM7.out.obj
    have bx8:=num_lt2 l s7 16
    obtain⟨x8,ex8⟩:∃ z,z=numN l s7 16:=⟨_,rfl⟩
    obtain⟨s8,es8⟩:∃ z,z=numS l s7 16:=⟨_,rfl⟩
    obtain⟨G8,eG8⟩:∃ g:Fr,g={ G7 with i:=x8 }:=⟨_,rfl⟩
    rw[<-ex8] at hc bx8
    rw[<-es8] at hc
    have lx8:x8<65536:=bx8
    have EQ8:Hid (x8=numN l s7 16/\s8=numS l s7 16/\G8={ G7 with i:=x8 }):=⟨ex8,es8,eG8⟩
    clear ex8 es8 eG8 bx8
    go_wp2_with fail
    refine hc.mono ?_
    rintro e V8 ⟨rfl,hd,ha⟩
    have hM:=HM7.out.call hd ha
    have d9:=hM.fr.c9
    have z9:=hM.fr.fz 9
    have HM8:Hid (FDMid x cx l c q w s8 G8 A0 (V8.setCell ⟨w.heap.size+1,9,none⟩ (.int .i64 (x8:Int)))):=
     hM.set 9 _ G8 A0 (by rw[EQ8.out.2.2];rfl) (by rw[EQ8.out.2.2];exact⟨hM.seen.key,hM.seen.body,hM.seen.tag⟩)
    clear hc hd ha hM
    go_upto_region 23 with fail
    clear d9 z9 lx8
    generalize V8.setCell ⟨w.heap.size+1,9,none⟩ (.int .i64 (x8:Int))=X8 at *
    have hc:=dlst_ok x cx l c q X8 s8 16 HM8.out.obj
    obtain⟨s9,es9⟩:∃ z,z=lstS l s8 16:=⟨_,rfl⟩
    rw[<-es9] at hc
    have ES9:Hid (s9=lstS l s8 16):=es9
    clear es9
    go_wp2_with fail
    refine hc.mono ?_
    rintro e V9 ⟨a9,ca9,q9,eq9,rfl,hq,hd,ha⟩
    obtain⟨G9,eG9⟩:∃ g:Fr,g={ G8 with key:=q9 }:=⟨_,rfl⟩
    have hM:=HM8.out.call hd ha
    have EQ9:Hid (q9=lstN l s8 16/\s9=lstS l s8 16/\G9={ G8 with key:=q9 }):=⟨eq9.out,ES9.out,eG9⟩
    have d10:=hM.fr.c10
    have z10:=hM.fr.fz 10
    have HM9:Hid (FDMid x cx l c q w s9 G9 { A0 with ka:=a9,kc:=ca9 } (V9.setCell ⟨w.heap.size+1,10,none⟩ (.slice a9 q9.length ca9))):=
     hM.set 10 _ G9 { A0 with ka:=a9,kc:=ca9 } (by rw[EQ9.out.2.2];rfl) (by rw[EQ9.out.2.2];exact⟨hq,hM.seen.body,hM.seen.tag⟩)
    clear hc hd ha hM hq eG9 eq9 ES9
    go_upto_region 24 with fail
    clear d10 z10
    generalize V9.setCell ⟨w.heap.size+1,10,none⟩ (.slice a9 q9.length ca9)=X9 at *
    generalize ({ A0 with ka:=a9,kc:=ca9 }:At)=A9 at *
    have hc:=dlst_ok x cx l c q X9 s9 8 HM9.out.obj
    obtain⟨s10,es10⟩:∃ z,z=lstS l s9 8:=⟨_,rfl⟩
    rw[<-es10] at hc
    have ES10:Hid (s10=lstS l s9 8):=es10
    clear es10
    go_wp2_with fail
    refine hc.mono ?_
    rintro e V10 ⟨a10,ca10,q10,eq10,rfl,hq,hd,ha⟩
    obtain⟨G10,eG10⟩:∃ g:Fr,g={ G9 with tag:=q10 }:=⟨_,rfl⟩
    have hM:=HM9.out.call hd ha
    have EQ10:Hid (q10=lstN l s9 8/\s10=lstS l s9 8/\G10={ G9 with tag:=q10 }):=⟨eq10.out,ES10.out,eG10⟩
    have d12:=hM.fr.c12
    have z12:=hM.fr.fz 12
    have HM10:Hid (FDMid x cx l c q w s10 G10 { A9 with ta:=a10,tc:=ca10 } (V10.setCell ⟨w.heap.size+1,12,none⟩ (.slice a10 q10.length ca10))):=
     hM.set 12 _ G10 { A9 with ta:=a10,tc:=ca10 } (by rw[EQ10.out.2.2];rfl) (by rw[EQ10.out.2.2];exact⟨hM.seen.key,hM.seen.body,hq⟩)
    clear hc hd ha hM hq eG10 eq10 ES10
    go_upto_region 25 with fail
    clear d12 z12
    generalize V10.setCell ⟨w.heap.size+1,12,none⟩ (.slice a10 q10.length ca10)=X10 at *
    generalize ({ A9 with ta:=a10,tc:=ca10 }:At)=A10 at *
    obtain⟨hF,hSS⟩:=chain_pong (numN l) (numS l) (lstN l) (lstS l) EQ0.out.2 EQ1.out EQ2.out EQ3.out EQ4.out EQ5.out EQ6.out EQ7.out EQ8.out EQ9.out EQ10.out K1.out K2.out K.out
    have hEE:G10=(wholeR l).1/\s10.at_=(wholeR l).2.at_/\s10.miss=dmiss l:=by
     rw[EQ0.out.1,wholeN_eq] at hF hSS
     refine⟨hF,by rw[hSS],?_⟩
     rw[hSS]
     unfold dmiss
     rw[HK.out]
     exact(if_pos (.inr (.inr K.out))).symm
    clear hF hSS
    obtain⟨hE1,hE2,hE3⟩:=hEE
    obtain⟨Y,hst,hY,hdY,hsY,haY⟩:=dread_done HM10.out
    have HL:Hid ((Instr.loadAt 40 (.pointer (some ⟨w.heap.size+1,0,none⟩))).run Tryz.prog X10=.ok (.agg (frC G10 A10)) X10):=HM10.out.fr.loads
    have HST:Hid ((Instr.storeAt 40 (.pointer (some ⟨w.heap.size,0,none⟩)) (.agg (frC G10 A10))).run Tryz.prog X10=.ok () Y):=hst
    have HE:Hid (FrAt Y w.heap.size G10 A10/\DrM x cx l c q Y s10/\Seen Y G10 A10/\Apart (Two2 c q) w Y/\G10=(wholeR l).1/\s10.at_=(wholeR l).2.at_/\s10.miss=dmiss l):=⟨hY,hdY,hsY,haY,hE1,hE2,hE3⟩
    clear hst hY hdY hsY haY hE1 hE2 hE3
    go_wp2_with (first|(refine wpList_gload_run rfl 40 _ rfl _ _ rfl HL.out ?_)|(refine wpList_store_run rfl 40 _ _ rfl _ _ rfl rfl HST.out ?_)|fail)
    refine bodyPost_ret (res_fr rfl rfl HE.out.1) rfl ?_
    obtain⟨h1,h2,h3,h4,h5,h6,h7⟩:=HE.out
    exact⟨A10,s10,by rw[h5],h2,by rw[<-h5];exact h3,h4,h6,h7⟩
   ·have g3:(G2.k==3)=false:=by simp[k3]
    have K1:Hid (¬ G2.k=1):=k1
    have K2:Hid (¬ G2.k=2):=k2
    have K3:Hid (¬ G2.k=3):=k3
    obtain⟨_,q1,f1⟩:=HM2.out.obj.cells
    obtain⟨s3,es3⟩:∃ z:Rs,z=⟨s2.at_,true⟩:=⟨_,rfl⟩
    have HM3:Hid (FDMid x cx l c q w s3 G2 A0 (X2.setCell ⟨q,1,none⟩ (.bool true))):=by rw[es3];exact HM2.out.mark
    have EQ3:Hid (s3=⟨s2.at_,true⟩):=es3
    clear k1 k2 k3 es3
    go_upto_region 24 with fail
    clear c0 q1 f1
    generalize X2.setCell ⟨q,1,none⟩ (.bool true)=X3 at *
    have hc:=dlst_ok x cx l c q X3 s3 8 HM3.out.obj
    obtain⟨s4,es4⟩:∃ z,z=lstS l s3 8:=⟨_,rfl⟩
    rw[<-es4] at hc
    have ES4:Hid (s4=lstS l s3 8):=es4
    clear es4
    go_wp2_with fail
    refine hc.mono ?_
    rintro e V4 ⟨a4,ca4,q4,eq4,rfl,hq,hd,ha⟩
    obtain⟨G4,eG4⟩:∃ g:Fr,g={ G2 with tag:=q4 }:=⟨_,rfl⟩
    have hM:=HM3.out.call hd ha
    have EQ4:Hid (q4=lstN l s3 8/\s4=lstS l s3 8/\G4={ G2 with tag:=q4 }):=⟨eq4.out,ES4.out,eG4⟩
    have d12:=hM.fr.c12
    have z12:=hM.fr.fz 12
    have HM4:Hid (FDMid x cx l c q w s4 G4 { A0 with ta:=a4,tc:=ca4 } (V4.setCell ⟨w.heap.size+1,12,none⟩ (.slice a4 q4.length ca4))):=
     hM.set 12 _ G4 { A0 with ta:=a4,tc:=ca4 } (by rw[EQ4.out.2.2];rfl) (by rw[EQ4.out.2.2];exact⟨hM.seen.key,hM.seen.body,hq⟩)
    clear hc hd ha hM hq eG4 eq4 ES4
    go_upto_region 25 with fail
    clear d12 z12
    generalize V4.setCell ⟨w.heap.size+1,12,none⟩ (.slice a4 q4.length ca4)=X4 at *
    generalize ({ A0 with ta:=a4,tc:=ca4 }:At)=A4 at *
    have hEE:G4=(wholeR l).1/\s4.at_=(wholeR l).2.at_/\s4.miss=dmiss l:=by
     obtain⟨a1,b1,c1⟩:=EQ1.out
     obtain⟨a2,b2,c2⟩:=EQ2.out
     have b3:=EQ3.out
     obtain⟨a4,b4,c4⟩:=EQ4.out
     have kk1:=K1.out
     have kk2:=K2.out
     have kk3:=K3.out
     have HKK:=HK.out
     subst c4 b4 a4 b3 c2 b2 a2 c1 b1 a1
     obtain⟨p1,p2⟩:=EQ0.out
     subst p1 p2
     have hw:wholeR l=({ ({ Fr.zero with k:=numN l ⟨0,false⟩ 4,f:=numN l (numS l ⟨0,false⟩ 4) 4 }:Fr) with tag:=lstN l (numS l (numS l ⟨0,false⟩ 4) 4) 8 },lstS l (numS l (numS l ⟨0,false⟩ 4) 4) 8):=by
      unfold wholeR
      have hcr:coreR l=({ Fr.zero with k:=numN l ⟨0,false⟩ 4,f:=numN l (numS l ⟨0,false⟩ 4) 4 },numS l (numS l ⟨0,false⟩ 4) 4):=by
       unfold coreR
       dsimp only
       rw[if_neg kk1,if_neg kk2,if_neg kk3]
      rw[hcr]
     have hdm:dmiss l=true:=by
      unfold dmiss;rw[HKK];exact if_neg (by intro h;rcases h with h|h|h;exact kk1 h;exact kk2 h;exact kk3 h)
     rw[hdm,hw]
     exact⟨rfl,rfl,rfl⟩
    obtain⟨hE1,hE2,hE3⟩:=hEE
    obtain⟨Y,hst,hY,hdY,hsY,haY⟩:=dread_done HM4.out
    have HL:Hid ((Instr.loadAt 40 (.pointer (some ⟨w.heap.size+1,0,none⟩))).run Tryz.prog X4=.ok (.agg (frC G4 A4)) X4):=HM4.out.fr.loads
    have HST:Hid ((Instr.storeAt 40 (.pointer (some ⟨w.heap.size,0,none⟩)) (.agg (frC G4 A4))).run Tryz.prog X4=.ok () Y):=hst
    have HE:Hid (FrAt Y w.heap.size G4 A4/\DrM x cx l c q Y s4/\Seen Y G4 A4/\Apart (Two2 c q) w Y/\G4=(wholeR l).1/\s4.at_=(wholeR l).2.at_/\s4.miss=dmiss l):=⟨hY,hdY,hsY,haY,hE1,hE2,hE3⟩
    clear hst hY hdY hsY haY hE1 hE2 hE3
    go_wp2_with (first|(refine wpList_gload_run rfl 40 _ rfl _ _ rfl HL.out ?_)|(refine wpList_store_run rfl 40 _ _ rfl _ _ rfl rfl HST.out ?_)|fail)
    refine bodyPost_ret (res_fr rfl rfl HE.out.1) rfl ?_
    obtain⟨h1,h2,h3,h4,h5,h6,h7⟩:=HE.out
    exact⟨A4,s4,by rw[h5],h2,by rw[<-h5];exact h3,h4,h6,h7⟩
theorem rget_short (w:World)(x:Option Addr)(cx:Nat)(l:List UInt8)(h3:l.length<3):Calls Tryz.prog 41 #[.slice x l.length cx] w λe w'=>Got w w' e Fr.zero 3:=by
 obtain⟨N,hN⟩:∃ N,N=l.length:=⟨_,rfl⟩
 rw[<-hN] at h3 ⊢
 have d3:decide ((N:Int)<3)=true:=by simp;omega
 have h0:FrAt (w.alloc (.cells (frC Fr.zero At.zero) 40)) w.heap.size Fr.zero At.zero:=FrAt.new w _ _
 obtain⟨W,hst,hW,hs,hb⟩:=got_stored h0 (Go.Joins.below_alloc1 _ _) Fr.zero At.zero (Seen.zero _)
 have HB:Hid ((Instr.build 40 #[]).run Tryz.prog (w.alloc (.cells (frC Fr.zero At.zero) 40))=.ok (.agg (frC Fr.zero At.zero)) (w.alloc (.cells (frC Fr.zero At.zero) 40))):=build_zero _
 have HST:Hid ((Instr.storeAt 40 (.pointer (some ⟨w.heap.size,0,none⟩)) (.agg (frC Fr.zero At.zero))).run Tryz.prog (w.alloc (.cells (frC Fr.zero At.zero) 40))=.ok () W):=hst
 have HE:Hid (FrAt W w.heap.size Fr.zero At.zero/\Seen W Fr.zero At.zero/\Below w.heap.size w W):=⟨hW,hs,hb⟩
 clear hN h0 hst hW hs hb
 go_enter Tryz.func41,Tryz.ntmps41
 go_wp2_with (first|(refine wpList_build_run rfl 40 _ rfl [] _ rfl HB.out ?_)|(refine wpList_store_run rfl 40 _ _ rfl _ _ rfl rfl HST.out ?_)|fail)
 refine bodyPost_ret (res_fr_tmp rfl rfl HE.out.1) rfl ?_
 exact⟨At.zero,rfl,HE.out.2⟩
theorem rget_sum (w:World)(x:Option Addr)(cx:Nat)(l:List UInt8)(hx:Sees w x cx l)(hl:l.length<=140737488351232)(h3:¬ l.length<3)(hg:goodL l=false):Calls Tryz.prog 41 #[.slice x l.length cx] w λe w'=>Got w w' e Fr.zero 8:=by
 have h0:FrAt (w.alloc (.cells (frC Fr.zero At.zero) 40)) w.heap.size Fr.zero At.zero:=FrAt.new w _ _
 have hb0:Below w.heap.size w (w.alloc (.cells (frC Fr.zero At.zero) 40)):=Go.Joins.below_alloc1 _ _
 have hgo:=rgood_any (w.alloc (.cells (frC Fr.zero At.zero) 40)) x cx l (hx.below hb0) (by omega)
 rw[hg] at hgo
 obtain⟨N,hN⟩:∃ N,N=l.length:=⟨_,rfl⟩
 rw[<-hN] at h3 hgo hl ⊢
 have d3:decide ((N:Int)<3)=false:=by simp;omega
 have H0:Hid (∀ w1,Below (w.alloc (.cells (frC Fr.zero At.zero) 40)).heap.size (w.alloc (.cells (frC Fr.zero At.zero) 40)) w1->FrAt w1 w.heap.size Fr.zero At.zero/\Below w.heap.size w w1):=λw1 hb1=>⟨h0.below hb1,hb0.trans (hb1.mono hb0.size)⟩
 clear hN h0 hb0 hx hg
 go_enter Tryz.func41,Tryz.ntmps41
 go_wp2_with fail
 refine hgo.mono ?_
 rintro e w1 ⟨rfl,hb1⟩
 obtain⟨h1,hb⟩:=H0.out w1 hb1
 obtain⟨W,hst,hW,hs,hbW⟩:=got_stored h1 hb Fr.zero At.zero (Seen.zero _)
 have HB:Hid ((Instr.build 40 #[]).run Tryz.prog w1=.ok (.agg (frC Fr.zero At.zero)) w1):=build_zero _
 have HST:Hid ((Instr.storeAt 40 (.pointer (some ⟨w.heap.size,0,none⟩)) (.agg (frC Fr.zero At.zero))).run Tryz.prog w1=.ok () W):=hst
 have HE:Hid (FrAt W w.heap.size Fr.zero At.zero/\Seen W Fr.zero At.zero/\Below w.heap.size w W):=⟨hW,hs,hbW⟩
 clear hgo hb1 H0 h1 hb hst hW hs hbW
 go_wp2_with (first|(refine wpList_build_run rfl 40 _ rfl [] _ rfl HB.out ?_)|(refine wpList_store_run rfl 40 _ _ rfl _ _ rfl rfl HST.out ?_)|fail)
 refine bodyPost_ret (res_fr_tmp rfl rfl HE.out.1) rfl ?_
 exact⟨At.zero,rfl,HE.out.2⟩
theorem drm_laid (x:Option Addr)(cx:Nat)(l:List UInt8)(w:World)(hx:Sees w x cx l)(hl:l.length<=140737488355328):
  DrM x cx l w.heap.size (w.heap.size+1) ((w.alloc (.cells #[.slice x l.length cx,.int .i64 0] 129)).alloc (.cells #[.pointer (some ⟨w.heap.size,0,none⟩),.bool false] 131)) ⟨0,false⟩:=by
 have hb:Below w.heap.size w ((w.alloc (.cells #[.slice x l.length cx,.int .i64 0] 129)).alloc (.cells #[.pointer (some ⟨w.heap.size,0,none⟩),.bool false] 131)):=Go.Joins.below_alloc2 _ _ _
 refine⟨?_,?_,Nat.zero_le _,by omega,hx.below hb,hl⟩
 ·have:=heap_alloc_new (w.alloc (.cells #[.slice x l.length cx,.int .i64 0] 129)) (.cells #[.pointer (some ⟨w.heap.size,0,none⟩),.bool false] 131)
  simpa using this
 ·have h1:=heap_alloc_new w (.cells #[.slice x l.length cx,.int .i64 0] 129)
  rw[(Go.Joins.below_alloc1 (w.alloc (.cells #[.slice x l.length cx,.int .i64 0] 129)) _).block _ (by simp)]
  exact h1
structure RRead (w:World)(x:Option Addr)(cx:Nat)(l:List UInt8)(c q v:Nat)(F:Fr)(s:Rs)(A:At)(W:World):Prop where
 res:FrAt W w.heap.size Fr.zero At.zero
 fr:FrAt W v F A
 obj:DrM x cx l c q W s
 seen:Seen W F A
 bel:Below w.heap.size w W
theorem RRead.below {w:World}{x:Option Addr}{cx:Nat}{l:List UInt8}{c q v:Nat}{F:Fr}{s:Rs}{A:At}{W W':World}(h:RRead w x cx l c q v F s A W)(hb:Below W.heap.size W W'):RRead w x cx l c q v F s A W':=
 ⟨h.res.below hb,h.fr.below hb,h.obj.keep (hb.block _ h.obj.lt.2) (hb.block _ h.obj.lt.1) (h.obj.src.below hb),h.seen.below hb,h.bel.trans (hb.mono h.bel.size)⟩
theorem rread_laid {w W:World}{x:Option Addr}{cx:Nat}{l:List UInt8}{c q:Nat}{F:Fr}{s:Rs}{A:At}(h0:FrAt W w.heap.size Fr.zero At.zero)(hG:DrM x cx l c q W s)(hs:Seen W F A)(hb:Below w.heap.size w W):
  ∃ W',(Instr.storeAt 40 (.pointer (some ⟨W.heap.size,0,none⟩)) (.agg (frC F A))).run Tryz.prog (W.alloc (.cells (frC Fr.zero At.zero) 40))=.ok () W'/\RRead w x cx l c q W.heap.size F s A W':=by
 have h1:FrAt (W.alloc (.cells (frC Fr.zero At.zero) 40)) W.heap.size Fr.zero At.zero:=FrAt.new W _ _
 have hbb:Below W.heap.size W ((W.alloc (.cells (frC Fr.zero At.zero) 40)).setRow W.heap.size (frC F A)):=below_setRow (Go.Joins.below_alloc1 _ _) (Nat.le_refl _) _
 exact⟨_,h1.stores F A,h0.below hbb,h1.stored F A,hG.keep (hbb.block _ hG.lt.2) (hbb.block _ hG.lt.1) (hG.src.below hbb),hs.below hbb,hb.trans (hbb.mono hb.size)⟩
theorem fine_d (l:List UInt8):fineB l=(!dmiss l&&decide (endP l (wholeR l).2.at_=0)&&rightB (wholeR l).1):=by
 unfold fineB dmiss
 by_cases h:(wholeR l).1.k=1\/(wholeR l).1.k=2\/(wholeR l).1.k=3
 ·rw[if_pos h]
 ·rw[if_neg h]
  have hr:rightB (wholeR l).1=false:=by
   unfold rightB coreB
   rw[if_neg (λe=>h (.inl e)),if_neg (λe=>h (.inr (.inl e))),if_neg (λe=>h (.inr (.inr e)))]
   simp
  rw[hr];simp
theorem rget_good (w:World)(x:Option Addr)(cx:Nat)(l:List UInt8)(hx:Sees w x cx l)(hl:l.length<=140737488351232)(h3:¬ l.length<3)(hg:goodL l=true)(hcx:l.length<=cx):Calls Tryz.prog 41 #[.slice x l.length cx] w λe w'=>Got w w' e (getF l) (getE l:Nat):=by
 obtain⟨t,ht⟩:∃ t,t=l.take (l.length-3):=⟨_,rfl⟩
 have hgE:getE l=if fineB t=false then 4 else 0:=by unfold getE;rw[if_neg h3,if_neg (by rw[hg];decide),ht]
 have hgF:getF l=if fineB t=false then Fr.zero else (wholeR t).1:=by
  unfold getF;rw[hgE,<-ht]
  by_cases hf:fineB t=false
  ·rw[if_pos hf,if_pos hf];rfl
  ·rw[if_neg hf,if_neg hf];rfl
 obtain⟨RE,hRE⟩:∃ RE:Int,RE=((getE l:Nat):Int):=⟨_,rfl⟩
 obtain⟨RF,hRF⟩:∃ RF,RF=getF l:=⟨_,rfl⟩
 rw[<-hRE,<-hRF]
 have HRE:Hid (RE=((if fineB t=false then 4 else 0:Nat):Int)/\RF=if fineB t=false then Fr.zero else (wholeR t).1):=⟨by rw[hRE,hgE],by rw[hRF,hgF]⟩
 clear hgE hgF hRE hRF
 have h0:FrAt (w.alloc (.cells (frC Fr.zero At.zero) 40)) w.heap.size Fr.zero At.zero:=FrAt.new w _ _
 have hb0:Below w.heap.size w (w.alloc (.cells (frC Fr.zero At.zero) 40)):=Go.Joins.below_alloc1 _ _
 have hgo:=rgood_any (w.alloc (.cells (frC Fr.zero At.zero) 40)) x cx l (hx.below hb0) (by omega)
 rw[hg] at hgo
 obtain⟨m,hm⟩:∃ m,m=l.length-3:=⟨_,rfl⟩
 obtain⟨N,hN⟩:∃ N,N=l.length:=⟨_,rfl⟩
 have htl:t.length=m:=by rw[ht,List.length_take];omega
 have hxt:Sees w x cx t:=by rw[ht];exact hx.take _
 rw[<-hN] at h3 hgo hl hm hcx ⊢
 have d3:decide ((N:Int)<3)=false:=by simp;omega
 have e1:(N:Int)-3=(m:Int):=by omega
 have g3:(0:Int)<=(m:Int):=Int.natCast_nonneg _
 have g4:(m:Int)<=(cx:Int):=by omega
 have g5:m<=cx:=by omega
 have H0:Hid (∀ w1,Below (w.alloc (.cells (frC Fr.zero At.zero) 40)).heap.size (w.alloc (.cells (frC Fr.zero At.zero) 40)) w1->FrAt w1 w.heap.size Fr.zero At.zero/\Below w.heap.size w w1):=λw1 hb1=>⟨h0.below hb1,hb0.trans (hb1.mono hb0.size)⟩
 have HT:Hid (Sees w x cx t/\t.length=m/\m<=140737488351232):=⟨hxt,htl,by omega⟩
 clear hN h0 hb0 hx hg ht hm htl hxt
 go_enter Tryz.func41,Tryz.ntmps41
 go_wp2_with fail
 refine hgo.mono ?_
 rintro e w1 ⟨rfl,hb1⟩
 obtain⟨h1,hb⟩:=H0.out w1 hb1
 have hdm:=drm_laid x cx t w1 (HT.out.1.below hb) (by have:=HT.out.2;omega)
 rw[HT.out.2.1] at hdm
 have hbq:Below w1.heap.size w1 ((w1.alloc (.cells #[.slice x m cx,.int .i64 0] 129)).alloc (.cells #[.pointer (some ⟨w1.heap.size,0,none⟩),.bool false] 131)):=Go.Joins.below_alloc2 _ _ _
 have H3:Hid (FrAt ((w1.alloc (.cells #[.slice x m cx,.int .i64 0] 129)).alloc (.cells #[.pointer (some ⟨w1.heap.size,0,none⟩),.bool false] 131)) w.heap.size Fr.zero At.zero/\Below w.heap.size w ((w1.alloc (.cells #[.slice x m cx,.int .i64 0] 129)).alloc (.cells #[.pointer (some ⟨w1.heap.size,0,none⟩),.bool false] 131))/\w.heap.size<w1.heap.size):=⟨h1.below hbq,hb.trans (hbq.mono hb.size),h1.lt⟩
 have hrd:=dread_ok x cx t w1.heap.size (w1.heap.size+1) _ hdm
 have HFB:Hid (fineB t=(!dmiss t&&decide (endP t (wholeR t).2.at_=0)&&rightB (wholeR t).1)):=fine_d t
 obtain⟨P1,hP1⟩:∃ P1,P1=(wholeR t).1:=⟨_,rfl⟩
 obtain⟨a2,ha2⟩:∃ a2,a2=(wholeR t).2.at_:=⟨_,rfl⟩
 obtain⟨ms,hms⟩:∃ ms,ms=dmiss t:=⟨_,rfl⟩
 rw[<-hP1,<-ha2,<-hms] at hrd HFB
 rw[<-hP1] at HRE
 clear hgo hb1 H0 h1 hb hdm hbq hP1 ha2 hms
 go_wp2_with fail
 refine hrd.mono ?_
 rintro e w5 ⟨A5,s5,rfl,hM5,hsn5,hap5,hat5,hms5⟩
 have hno:∀ k,Two2 w1.heap.size (w1.heap.size+1) k->w.heap.size<k:=λk hk=>by
  have:=H3.out.2.2
  rcases hk with hk|hk<;>omega
 have hr5:FrAt w5 w.heap.size Fr.zero At.zero:=H3.out.1.keep (hap5.block _ H3.out.1.lt (λhk=>by have:=hno _ hk;omega))
 have hb5:Below w.heap.size w w5:=hap5.below H3.out.2.1 (λk hk=>Nat.le_of_lt (hno k hk)) H3.out.2.1.size
 obtain⟨W6,hst6,hR6⟩:=rread_laid hr5 hM5 hsn5 hb5
 have HST6:Hid ((Instr.storeAt 40 (.pointer (some ⟨w5.heap.size,0,none⟩)) (.agg (frC P1 A5))).run Tryz.prog (w5.alloc (.cells (frC Fr.zero At.zero) 40))=.ok () W6):=hst6
 obtain⟨q0,q1,_⟩:=hR6.obj.cells
 rw[hms5] at q1
 have HR6:Hid (RRead w x cx t w1.heap.size (w1.heap.size+1) w5.heap.size P1 s5 A5 W6):=hR6
 have hend:=rend_any x cx t W6 w1.heap.size s5.at_ (λk=>k=w1.heap.size) hR6.obj.rr hR6.obj.src hR6.obj.src.lt hR6.obj.len hR6.obj.le
 rw[hat5] at hend
 obtain⟨E,hE⟩:∃ E,E=endP t a2:=⟨_,rfl⟩
 rw[<-hE] at hend HFB
 clear hrd hM5 hsn5 hap5 hat5 hms5 hno hr5 hb5 hst6 hR6 H3 hE
 cases ms
 ·by_cases hE0:E=0
  ·have hend0:Calls Tryz.prog 70 #[.pointer (some ⟨w1.heap.size,0,none⟩)] W6 λe w'=>e=.returned (.int .i64 0)/\Below W6.heap.size W6 w':=by
    rw[hE0] at hend;exact hend
   have HFB2:Hid (fineB t=rightB P1):=by show _=_;rw[HFB.out,hE0];rfl
   clear hE0 hend
   go_wp2_with (first|(refine wpList_store_run rfl 40 _ _ rfl _ _ rfl rfl HST6.out ?_)|fail)
   refine hend0.mono ?_
   rintro e w7 ⟨rfl,hw7⟩
   have HR7:Hid (RRead w x cx t w1.heap.size (w1.heap.size+1) w5.heap.size P1 s5 A5 w7):=HR6.out.below hw7
   have HL7:Hid ((Instr.loadAt 40 (.pointer (some ⟨w5.heap.size,0,none⟩))).run Tryz.prog w7=.ok (.agg (frC P1 A5)) w7):=HR7.out.fr.loads
   have hck:=rcheck_ok w7 P1 A5 HR7.out.seen
   clear hend0 hw7 q0 q1 HR6 HST6
   obtain⟨rb,hrb⟩:∃ rb,rightB P1=rb:=⟨_,rfl⟩
   have HFN:Hid (fineB t=rb):=by show _=_;rw[HFB2.out,hrb]
   rw[hrb] at hck
   clear hrb HFB HFB2
   cases rb
   ·rw[if_neg (by decide)] at hck
    go_wp2_with (first|(refine wpList_gload_run rfl 40 _ rfl _ _ rfl HL7.out ?_)|fail)
    refine hck.mono ?_
    rintro e w8 ⟨rfl,hb8⟩
    have hR8:FrAt w8 w.heap.size Fr.zero At.zero/\Below w.heap.size w w8:=⟨HR7.out.res.below hb8,HR7.out.bel.trans (hb8.mono HR7.out.bel.size)⟩
    obtain⟨Y,hst,hY,hsY,hbY⟩:=got_stored (w:=w) hR8.1 hR8.2 Fr.zero At.zero (Seen.zero _)
    have HBZ:Hid ((Instr.build 40 #[]).run Tryz.prog w8=.ok (.agg (frC Fr.zero At.zero)) w8):=build_zero _
    have HST:Hid ((Instr.storeAt 40 (.pointer (some ⟨w.heap.size,0,none⟩)) (.agg (frC Fr.zero At.zero))).run Tryz.prog w8=.ok () Y):=hst
    have HE:Hid (FrAt Y w.heap.size Fr.zero At.zero/\Seen Y Fr.zero At.zero/\Below w.heap.size w Y):=⟨hY,hsY,hbY⟩
    clear hst hY hsY hbY hck hb8 hR8 HL7
    go_wp2_with (first|(refine wpList_build_run rfl 40 _ rfl [] _ rfl HBZ.out ?_)|(refine wpList_store_run rfl 40 _ _ rfl _ _ rfl rfl HST.out ?_)|fail)
    refine bodyPost_ret (res_fr_tmp rfl rfl HE.out.1) rfl ?_
    rw[HRE.out.1,HRE.out.2,HFN.out]
    exact⟨At.zero,rfl,HE.out.2⟩
   ·rw[if_pos rfl] at hck
    go_wp2_with (first|(refine wpList_gload_run rfl 40 _ rfl _ _ rfl HL7.out ?_)|fail)
    refine hck.mono ?_
    rintro e w8 ⟨rfl,hb8⟩
    have hL8:=(HR7.out.fr.below hb8).loads
    obtain⟨Y,hst,hY,hsY,hbY⟩:=got_stored (w:=w) (HR7.out.res.below hb8) (HR7.out.bel.trans (hb8.mono HR7.out.bel.size)) P1 A5 (HR7.out.seen.below hb8)
    have HL8:Hid ((Instr.loadAt 40 (.pointer (some ⟨w5.heap.size,0,none⟩))).run Tryz.prog w8=.ok (.agg (frC P1 A5)) w8):=hL8
    have HST:Hid ((Instr.storeAt 40 (.pointer (some ⟨w.heap.size,0,none⟩)) (.agg (frC P1 A5))).run Tryz.prog w8=.ok () Y):=hst
    have HE:Hid (FrAt Y w.heap.size P1 A5/\Seen Y P1 A5/\Below w.heap.size w Y):=⟨hY,hsY,hbY⟩
    clear hst hY hsY hbY hck hb8 hL8 HL7
    go_wp2_with (first|(refine wpList_gload_run rfl 40 _ rfl _ _ rfl HL8.out ?_)|(refine wpList_store_run rfl 40 _ _ rfl _ _ rfl rfl HST.out ?_)|fail)
    refine bodyPost_ret (res_fr_tmp rfl rfl HE.out.1) rfl ?_
    rw[HRE.out.1,HRE.out.2,HFN.out]
    exact⟨A5,rfl,HE.out.2⟩
  ·have ge:((E:Int) != 0)=true:=by simp;omega
   have HFN:Hid (fineB t=false):=by show _=_;rw[HFB.out];simp[hE0]
   clear hE0 HFB
   go_wp2_with (first|(refine wpList_store_run rfl 40 _ _ rfl _ _ rfl rfl HST6.out ?_)|fail)
   refine hend.mono ?_
   rintro e w7 ⟨rfl,hw7⟩
   have HR7:Hid (RRead w x cx t w1.heap.size (w1.heap.size+1) w5.heap.size P1 s5 A5 w7):=HR6.out.below hw7
   clear hend hw7 q0 q1 HR6 HST6
   obtain⟨Y,hst,hY,hsY,hbY⟩:=got_stored (w:=w) HR7.out.res HR7.out.bel Fr.zero At.zero (Seen.zero _)
   have HBZ:Hid ((Instr.build 40 #[]).run Tryz.prog w7=.ok (.agg (frC Fr.zero At.zero)) w7):=build_zero _
   have HST:Hid ((Instr.storeAt 40 (.pointer (some ⟨w.heap.size,0,none⟩)) (.agg (frC Fr.zero At.zero))).run Tryz.prog w7=.ok () Y):=hst
   have HE:Hid (FrAt Y w.heap.size Fr.zero At.zero/\Seen Y Fr.zero At.zero/\Below w.heap.size w Y):=⟨hY,hsY,hbY⟩
   clear hst hY hsY hbY
   go_wp2_with (first|(refine wpList_build_run rfl 40 _ rfl [] _ rfl HBZ.out ?_)|(refine wpList_store_run rfl 40 _ _ rfl _ _ rfl rfl HST.out ?_)|fail)
   refine bodyPost_ret (res_fr_tmp rfl rfl HE.out.1) rfl ?_
   rw[HRE.out.1,HRE.out.2,HFN.out]
   exact⟨At.zero,rfl,HE.out.2⟩
 ·have HFN:Hid (fineB t=false):=by show _=_;rw[HFB.out];rfl
  clear HFB
  obtain⟨Y,hst,hY,hsY,hbY⟩:=got_stored (w:=w) HR6.out.res HR6.out.bel Fr.zero At.zero (Seen.zero _)
  have HBZ:Hid ((Instr.build 40 #[]).run Tryz.prog W6=.ok (.agg (frC Fr.zero At.zero)) W6):=build_zero _
  have HST:Hid ((Instr.storeAt 40 (.pointer (some ⟨w.heap.size,0,none⟩)) (.agg (frC Fr.zero At.zero))).run Tryz.prog W6=.ok () Y):=hst
  have HE:Hid (FrAt Y w.heap.size Fr.zero At.zero/\Seen Y Fr.zero At.zero/\Below w.heap.size w Y):=⟨hY,hsY,hbY⟩
  clear hst hY hsY hbY
  go_wp2_with (first|(refine wpList_store_run rfl 40 _ _ rfl _ _ rfl rfl HST6.out ?_)|(refine wpList_build_run rfl 40 _ rfl [] _ rfl HBZ.out ?_)|(refine wpList_store_run rfl 40 _ _ rfl _ _ rfl rfl HST.out ?_)|fail)
  refine bodyPost_ret (res_fr_tmp rfl rfl HE.out.1) rfl ?_
  rw[HRE.out.1,HRE.out.2,HFN.out]
  exact⟨At.zero,rfl,HE.out.2⟩
theorem rget_any2 (w:World)(x:Option Addr)(cx:Nat)(l:List UInt8)(hx:Sees w x cx l)(hl:l.length<=140737488351232):Calls Tryz.prog 41 #[.slice x l.length cx] w λe w'=>Got w w' e (getF l) (getE l:Nat):=by
 by_cases h3:l.length<3
 ·rw[getF_bad (by rw[getE_short h3];decide),getE_short h3]
  exact rget_short w x cx l h3
 ·obtain⟨g,hg⟩:∃ g,goodL l=g:=⟨_,rfl⟩
  cases g
  ·rw[getF_bad (by rw[getE_sum h3 hg];decide),getE_sum h3 hg]
   exact rget_sum w x cx l hx hl h3 hg
  ·exact rget_good w x cx l hx hl h3 hg hx.fits
theorem rsame_any (w:World)(F:Fr)(A:At)(G:Fr)(B:At)(hF:Seen w F A)(hG:Seen w G B)(b:Bool)(hb:sameB F G=b):Calls Tryz.prog 17 #[.agg (frC F A),.agg (frC G B)] w λe w'=>e=.returned (.bool b)/\Below w.heap.size w w':=by
 refine(rsame_ok w F A G B hF hG).mono ?_
 rintro e w' ⟨he,hw⟩
 rw[hb] at he
 exact⟨he,by rw[hw];exact Go.Joins.below_alloc2 _ _ _⟩
end Go.Proofs.YtahnbljbhfpldaaGreatDoor
