/-
  Bytes that are read out lie in a block of the call's own make.
-/
import Derived.Test.YthogohkieiogiaaGreatDoorFrameC
namespace Go.Proofs.YthogohkieiogiaaGreatDoor
set_option maxRecDepth 20000
set_option maxHeartbeats 3200000
open Go.ChangeShapes Go.WideShapes Go.ChangeAt Go.RowKit
def Bare (w:World)(a:Option Addr):Prop:=∀ g o,a=some ⟨g,o,none⟩->∃ cur,w.heap[g]?=some (.cells cur 5 (0,0))
theorem Bare.nil' (w:World):Bare w none:=λ_ _ h=>by cases h
theorem Bare.below {w w':World}{a:Option Addr}(h:Bare w a)(hb:Below w.heap.size w w'):Bare w' a:=λg o e=>by
 obtain⟨cur,hc⟩:=h g o e
 exact⟨cur,(hb.block g (Array.getElem?_eq_some_iff.1 hc).1).trans hc⟩
theorem Bare.keep {w w':World}{a:Option Addr}(h:Bare w a)(hk:∀ g o,a=some ⟨g,o,none⟩->w'.heap[g]?=w.heap[g]?):Bare w' a:=λg o e=>by
 obtain⟨cur,hc⟩:=h g o e
 exact⟨cur,(hk g o e).trans hc⟩
theorem Bare.frozen {w:World}{a:Option Addr}(h:Bare w a){g o:Nat}(e:a=some ⟨g,o,none⟩)(i:Nat):w.frozen? ⟨g,i,none⟩=false:=by
 obtain⟨cur,hc⟩:=h g o e
 exact frozen_of_row w g i cur 5 hc
theorem Bare.setCell {w:World}{a:Option Addr}(h:Bare w a)(b i:Nat)(v:Value):Bare (w.setCell ⟨b,i,none⟩ v) a:=λg o e=>by
 obtain⟨cur,hc⟩:=h g o e
 by_cases hb:g=b
 ·subst hb
  exact⟨_,heap_setCell_same w g i cur 5 v hc⟩
 ·exact⟨cur,(heap_setCell_other _ _ _ _ hb).trans hc⟩
theorem Bare.own {w:World}{B:Nat}{g n c m:Nat}{xs:List Value}(h:w.ownsRow B 5 1 (.slice (some ⟨g,0,none⟩) n c) m xs):Bare w (some ⟨g,0,none⟩):=by
 rcases h.2 with ⟨h1,_⟩|⟨g1,c1,cur,he,_,hq1,_⟩
 ·cases h1
 ·simp only[Value.slice.injEq,Option.some.injEq,Addr.mk.injEq,and_true] at he
  obtain⟨rfl,_,rfl⟩:=he
  intro g2 o e
  simp only[Option.some.injEq,Addr.mk.injEq,and_true] at e
  obtain⟨rfl,_⟩:=e
  exact⟨cur,hq1⟩
theorem Bare.at {w:World}{g:Nat}{cur:Array Value}(h:w.heap[g]?=some (.cells cur 5 (0,0))):Bare w (some ⟨g,0,none⟩):=λg2 o e=>by
 simp only[Option.some.injEq,Addr.mk.injEq,and_true] at e
 obtain⟨rfl,_⟩:=e
 exact⟨cur,h⟩
theorem part_own (l:List UInt8)(w:World)(b:Nat)(d:Option Addr)(cd:Nat)(hc:w.cell? ⟨b,1,none⟩=some (.slice d l.length cd))(hs:Sees w d cd l)(hd:d=none\/∃ g o,d=some ⟨g,o,none⟩)(hl:l.length<=140737488355328)(A n:Nat)(hat:A+8*n<=8*l.length):
  Calls Tryz.prog 83 #[.pointer (some ⟨b,0,none⟩),.int .i64 (A:Int),.int .i64 (n:Int)] w λe w'=>∃ cc r,Hid (r=packL (nextB l A (8*n)))/\e=.returned (.slice (some ⟨w.heap.size,0,none⟩) r.length cc)/\Sees w' (some ⟨w.heap.size,0,none⟩) cc r/\Below w.heap.size w w'/\Bare w' (some ⟨w.heap.size,0,none⟩):=by
 obtain⟨i5,hi,hz0,hz1,hz2⟩:=info_parts Tryz.info5
 have hnl:n<=l.length:=by omega
 have hbl:b<w.heap.size:=World.block_lt_of_cell? w _ hc
 have HS:Hid (Sees w d cd l):=hs
 have HA:Hid (A+8*n<=8*l.length):=hat
 have hA:A<=1125899906842624:=by omega
 obtain⟨q,hq⟩:∃ q,q=A/8:=⟨_,rfl⟩
 obtain⟨u,hu⟩:∃ u,u=A%8:=⟨_,rfl⟩
 have q1:(A:Int)/8=(q:Int):=by omega
 have q2:(A:Int).tdiv 8=(q:Int):=by rw[Int.tdiv_eq_ediv_of_nonneg (by omega)];exact q1
 have u1:(A:Int)%8=(u:Int):=by omega
 have u2:(A:Int).tmod 8=(u:Int):=by rw[Int.tmod_eq_emod_of_nonneg (by omega)];exact u1
 have HQ:Hid (A=8*q+u/\u<8):=⟨by omega,by omega⟩
 have hqn:q+n<=l.length:=by omega
 clear hs hat hq hu
 go_enter Tryz.func83,Tryz.ntmps83
 go_wp2_with (at_make;refine wpList_make_full _ rfl _ _ 22 rfl w.heap.size 5 i5 (.int .u8 0) 1 Tryz.underlying22 hi hz0 hz1 .i64 .i64 _ _ n rfl rfl rfl rfl ?b2 ?b3 ?b4 ?_)
 case b2=>rw[hz2];omega
 case b3=>unfold maxLen;omega
 case b4=>exact Nat.le_refl _
 intro w1 hown hgrow
 have hbel:Below w.heap.size w w1:=(Below.refl _ _).grown hgrow (Nat.le_refl _) (by intro k h;cases h)
 have ho0:w1.ownsRow w.heap.size 5 1 (.slice (some ⟨w.heap.size,0,none⟩) n n) n ((List.replicate n (0:UInt8)).map cellOf):=by rw[<-made_bytes];simpa using hown
 have HZ1:Hid (Bare w1 (some ⟨w.heap.size,0,none⟩)):=Bare.own ho0
 have hc1:w1.cell? ⟨b,1,none⟩=some (.slice d l.length cd):=by rw[hbel.cell (p:=⟨b,1,none⟩) hbl];exact hc
 have HS1:Hid (Sees w1 d cd l):=HS.out.below hbel
 clear hgrow hown hc
 by_cases h0:u=0
 ·subst h0
  have hpk:packL (nextB l A (8*n))=(l.drop q).take n:=by rw[HQ.out.1,Nat.add_zero];exact part_even l q n hqn
  obtain⟨r,hr⟩:∃ r,r=(l.drop q).take n:=⟨_,rfl⟩
  have hrl:r.length=n:=by rw[hr,List.length_take,List.length_drop];omega
  have HR:Hid (r=packL (nextB l A (8*n))):=by rw[hpk];exact hr
  have hmod:(0:Int)=((0:Nat):Int):=rfl
  have hrs:r=[]->Sees w1 (some ⟨w.heap.size,0,none⟩) 0 r:=by rintro rfl;exact⟨by simp,by simp,(λh0=>by cases h0),λh=>absurd rfl h⟩
  rcases hd with rfl|⟨g,o,rfl⟩
  ·have hl0:l.length=0:=by have h1:=HS.out.bare rfl;have h2:=HS.out.fits;omega
   obtain rfl:n=0:=by omega
   obtain rfl:q=0:=by omega
   have hc0:cd=0:=HS.out.bare rfl
   subst hc0
   rw[hl0] at hc1
   have hr0:r=[]:=List.eq_nil_of_length_eq_zero hrl
   have HE:=hrs hr0
   have HRL:Hid (r.length=0):=hrl
   have HCP:Hid ((Builtin.copy_ #[22,22] 3 #[.slice (some ⟨w.heap.size,0,none⟩) 0 0,.slice none 0 0]).run Tryz.prog w1=.ok (.int .i64 0) w1):=copy_nil _ _ _ _ _ _
   clear ho0 hr hpk hrl hmod hi hz0 hz1 hz2 hrs hr0
   go_wp2_with (first|refine wpList_copy_run rfl _ _ 22 rfl _ _ _ rfl rfl HCP.out ?_)
   go_ret
   exact⟨_,r,HR,by rw[HRL.out];rfl,HE,hbel,HZ1.out⟩
  by_cases hcq:cd=q
  ·subst hcq
   have hf:=HS.out.fits
   obtain rfl:n=0:=by omega
   have hr0:r=[]:=List.eq_nil_of_length_eq_zero hrl
   have HE:=hrs hr0
   have HRL:Hid (r.length=0):=hrl
   have hz:l.length-cd=0:=by omega
   have hd1:cd<=l.length:=by omega
   have HCP:Hid ((Builtin.copy_ #[22,22] 3 #[.slice (some ⟨w.heap.size,0,none⟩) 0 0,.slice (some ⟨g,o,none⟩) 0 0]).run Tryz.prog w1=.ok (.int .i64 0) w1):=copy_nil _ _ _ _ _ _
   clear ho0 hr hpk hrl hmod hi hz0 hz1 hz2 hrs hr0
   go_wp2_with (first|refine wpList_copy_run rfl _ _ 22 rfl _ _ _ rfl rfl HCP.out ?_)
   go_ret
   exact⟨_,r,HR,by rw[HRL.out];rfl,HE,hbel,HZ1.out⟩
  ·obtain⟨cur,hg,hcs⟩:∃ cur:Array Value,w1.heap[w.heap.size]?=some (.cells cur 5 (0,0))/\cur.size=n:=by
    rcases ho0.2 with ⟨h1,_⟩|⟨g1,c1,cur,he,_,hq1,_,_,hsz,_⟩
    ·cases h1
    ·simp only[Value.slice.injEq,Option.some.injEq,Addr.mk.injEq,and_true] at he
     obtain⟨rfl,_,rfl⟩:=he
     exact⟨cur,hq1,by simpa using hsz⟩
   obtain⟨w2,hrun,hg2,hap,_⟩:=copy_row w1 w.heap.size 0 n n cur hg (by omega) _ _ _ (HS1.out.tail q (by omega)) n (by rw[List.length_drop];omega)
   rw[List.length_drop] at hrun
   have HCP:Hid ((Builtin.copy_ #[22,22] 3 #[.slice (some ⟨w.heap.size,0,none⟩) n n,.slice (some ⟨g,o+q,none⟩) (l.length-q) (cd-q)]).run Tryz.prog w1=.ok (.int .i64 (n:Int)) w2):=hrun
   clear hrun
   have HZ2:Hid (Bare w2 (some ⟨w.heap.size,0,none⟩)):=Bare.at hg2
   have HE:Hid (Sees w2 (some ⟨w.heap.size,0,none⟩) n r/\Below w.heap.size w w2):=by
    refine⟨⟨by omega,by unfold maxLen;omega,(λh0=>by cases h0),λ_=>⟨w.heap.size,0,rfl,λi x hx=>?_⟩⟩,hap.below hbel (λk hk=>by rw[hk];exact Nat.le_refl _) hbel.size⟩
    rw[<-hr,List.take_zero,List.nil_append] at hg2
    have hi':i<r.length:=(List.getElem?_eq_some_iff.1 hx).1
    rw[cell_of_row _ _ _ _ _ _ hg2]
    simp[List.getElem?_append,hi',cellOf,(List.getElem?_eq_some_iff.1 hx).2]
   have HRL:Hid (r.length=n):=hrl
   have hd1:q<=l.length:=by omega
   clear hg2 hap hg hcs ho0 hr hpk hrl hmod hi hz0 hz1 hz2
   go_wp2_with (first|refine wpList_copy_run rfl _ _ 22 rfl _ _ _ rfl rfl HCP.out ?_)
   go_ret
   exact⟨_,r,HR,by rw[HRL.out];rfl,HE.out.1,HE.out.2,HZ2.out⟩
 ·have dmod:((u:Int)==0)=false:=by simp[h0]
  have HP0:Hid (w1.ownsRow w.heap.size 5 1 (.slice (some ⟨w.heap.size,0,none⟩) n n) n ((packL (nextB l A (8*0))++List.replicate (n-0) (0:UInt8)).map cellOf)):=by
   have:packL (nextB l A (8*0))=[]:=by simp[nextB,packL,packN]
   rw[this];exact ho0
  clear hi hz0 hz1 hz2 ho0
  go_wp2
  go_loopw [8,26] (λ_ i wr=>∃ k:Nat,k<=n/\i=.int .i64 k/\wr.ownsRow w.heap.size 5 1 (.slice (some ⟨w.heap.size,0,none⟩) n n) n ((packL (nextB l A (8*k))++List.replicate (n-k) (0:UInt8)).map cellOf)/\Below w.heap.size w wr) (λ_ i _=>n-(intOf i).toNat)
  case atStart=>exact⟨0,Nat.zero_le _,rfl,HP0.out,hbel⟩
  case round=>
   obtain⟨k,hk,rfl,ho,hbl2⟩:=hrel
   clear HP0
   by_cases hlt:k<n
   ·have hkn:A+8*(k+1)<=8*l.length:=by have:=HA.out;omega
    have hc2:wr.cell? ⟨b,1,none⟩=some (.slice d l.length cd):=by rw[hbl2.cell (p:=⟨b,1,none⟩) hbl,<-hbel.cell (p:=⟨b,1,none⟩) hbl];exact hc1
    have hnum:=number_ok l wr b d cd hc2 (HS.out.below hbl2) hl (A+8*k) 8 (by omega) (by omega)
    obtain⟨T,hT⟩:∃ T,T=num (nextB l (A+8*k) 8):=⟨_,rfl⟩
    have hT8:T<256:=by
     have h1:=num_lt (nextB l (A+8*k) 8)
     rw[nextB_length _ _ _ (by omega),<-hT] at h1
     exact h1
    have hstep:=pack_step l A k hkn
    have hlen:(packL (nextB l A (8*k))).length=k:=by rw[packL_length,nextB_length _ _ _ (by omega)];omega
    have hset:(packL (nextB l A (8*k))++List.replicate (n-k) (0:UInt8)).set k (UInt8.ofNat T)=packL (nextB l A (8*(k+1)))++List.replicate (n-(k+1)) 0:=by
     rw[hstep,<-hT,show n-k=(n-(k+1))+1 by omega,List.replicate_succ,List.set_append_right _ _ (by omega),hlen,Nat.sub_self,List.set_cons_zero,List.append_assoc];rfl
    rw[<-hT] at hnum
    have hTu:(UInt8.ofNat T).toNat=T:=by rw[UInt8.toNat_ofNat'];omega
    have HST:Hid (∀ m,((wr.drewN m).setCell ⟨w.heap.size,k,none⟩ (.int .u8 (T:Int))).ownsRow w.heap.size 5 1 (.slice (some ⟨w.heap.size,0,none⟩) n n) n ((packL (nextB l A (8*(k+1)))++List.replicate (n-(k+1)) (0:UInt8)).map cellOf)):=λm=>by
     have h1:(wr.drewN m).ownsRow w.heap.size 5 1 (.slice (some ⟨w.heap.size,0,none⟩) n n) n ((packL (nextB l A (8*k))++List.replicate (n-k) (0:UInt8)).map cellOf):=ho
     obtain⟨h2,_⟩:=h1.stored k (.int .u8 (T:Int))
     rw[<-hset,List.map_set]
     unfold cellOf
     rw[hTu];exact h2
    have HBL:Hid (∀ m,Below w.heap.size w ((wr.drewN m).setCell ⟨w.heap.size,k,none⟩ (.int .u8 (T:Int)))):=λm=>(below_drewN hbl2 m).setCell (p:=⟨w.heap.size,k,none⟩) (Nat.le_refl _) _
    have hcx:∃ z,Hid (∀ m,(wr.drewN m).cell? ⟨w.heap.size,k,none⟩=some (.int .u8 z)/\(wr.drewN m).frozen? ⟨w.heap.size,k,none⟩=false):=by
     obtain⟨z,hz⟩:∃ z,(packL (nextB l A (8*k))++List.replicate (n-k) (0:UInt8))[k]?=some z:=by
      have:k<(packL (nextB l A (8*k))++List.replicate (n-k) (0:UInt8)).length:=by rw[List.length_append,hlen,List.length_replicate];omega
      exact⟨_,List.getElem?_eq_getElem this⟩
     refine⟨(z.toNat:Int),λm=>⟨?_,?_⟩⟩
     ·have h3:wr.cell? ⟨w.heap.size,k,none⟩=some (.int .u8 (z.toNat:Int)):=by rw[ho.cellAt k (by omega),List.getElem?_map,hz];rfl
      exact h3
     ·have h3:wr.frozen? ⟨w.heap.size,k,none⟩=false:=ho.frozenAt k
      exact h3
    obtain⟨z,hcx⟩:=hcx
    have wT:IntKind.u8.wrap (T:Int)=(T:Int):=by rw[IntKind.wrap_u8];omega
    have hnum2:Calls Tryz.prog 78 #[.pointer (some ⟨b,0,none⟩),.int .i64 ((A:Int)+8*(k:Int)),.int .i64 8] wr λe w'=>e=.returned (.int .u64 (T:Int))/\∃ m,w'=wr.drewN m:=by
     have e1:((A+8*k:Nat):Int)=(A:Int)+8*(k:Int):=by omega
     rw[e1] at hnum;exact hnum
    clear hnum hset hstep hTu ho hbl2 hc2 hT hbel hc1
    go_wp2_with fail
    refine hnum2.mono ?_
    rintro e w2 ⟨rfl,m,rfl⟩
    obtain⟨hcz,hfz⟩:=hcx.out m
    clear hnum2
    go_wp2
    go_roundw
    case rel=>exact⟨k+1,by omega,by go_num,HST.out _,HBL.out _⟩
    case measure=>simp[intOf];omega
   ·obtain rfl:k=n:=by omega
    rw[Nat.sub_self,List.replicate_zero,List.append_nil] at ho
    obtain⟨r,hr⟩:∃ r,r=packL (nextB l A (8*k)):=⟨_,rfl⟩
    have hrl:r.length=k:=by rw[hr,packL_length,nextB_length _ _ _ HA.out];omega
    rw[<-hr] at ho
    have HZ3:Hid (Bare wr (some ⟨w.heap.size,0,none⟩)):=Bare.own ho
    have ho2:wr.ownsRow w.heap.size 5 1 (.slice (some ⟨w.heap.size,0,none⟩) k k) r.length (r.map cellOf):=by rw[hrl];exact ho
    obtain⟨c,cc,hv,hs⟩:=Sees.of_own ho
    simp only[Value.slice.injEq] at hv
    rw[<-hv.1,<-hv.2.2] at hs
    have HR:Hid (r=packL (nextB l A (8*k))):=hr
    have HPL:Hid (r.length=k):=hrl
    clear hv ho ho2 hr hrl
    go_wp2
    go_ret
    exact⟨_,r,HR,by rw[HPL.out];rfl,hs,hbl2,HZ3.out⟩
theorem rdtake_own (l:List UInt8)(w:World)(b at_:Nat)(F:Nat->Prop)(h:RdM l w b at_ F)(hl:l.length<=140737488355328)(n:Int)(hat:at_<=8*l.length):
  Calls Tryz.prog 113 #[.pointer (some ⟨b,0,none⟩),.int .i64 n] w λe w'=>∃ d cd r,Hid (r=takeL l at_ n)/\e=.returned (.tuple #[.slice d r.length cd,.int .i64 ((takeP (8*l.length-at_) n:Nat):Int)])/\Sees w' d cd r/\Stay (RdM l) w F b (takeAt l at_ n) w'/\(∀ g o,d=some ⟨g,o,none⟩->w.heap.size<=g)/\Bare w' d:=by
 obtain⟨d,cd,c0,c1,c2,c3,f3,hs,hd⟩:=h.reads
 have hst:=rstands_yes w b c0
 have hlf:=rdleft_ok l w b at_ F h hl hat
 obtain⟨R,hR⟩:∃ R,R=8*l.length-at_:=⟨_,rfl⟩
 rw[<-hR] at hlf ⊢
 have hRm:R<=1125899906842624:=by omega
 have hsame:∀ m,Stay (RdM l) w F b at_ (w.drewN m):=λm=>h.same m
 by_cases hbad:n<0\/1024<n
 ·have e1:takeP R n=1:=by unfold takeP;rw[if_pos hbad]
  have e2:takeL l at_ n=[]:=by unfold takeL;rw[<-hR,e1];rfl
  have e3:takeAt l at_ n=at_:=by unfold takeAt;rw[<-hR,e1];rfl
  rw[e1,e2,e3]
  clear h hs hd c0 c1 c2 c3 f3 hR e1 e2 e3 hat hlf
  by_cases hneg:n<0
  ·clear hbad
   go_enter Tryz.func113,Tryz.ntmps113
   go_wp2_with fail
   refine hst.mono ?_
   rintro e w1 ⟨rfl,hw1⟩
   subst hw1
   clear hst
   go_wp2
   go_ret2
   exact⟨none,0,[],rfl,rfl,Sees.nil' _,hsame 0,(λ_ _ h=>by cases h),Bare.nil' _⟩
  ·have hbig:1024<n:=by omega
   clear hbad
   go_enter Tryz.func113,Tryz.ntmps113
   go_wp2_with fail
   refine hst.mono ?_
   rintro e w1 ⟨rfl,hw1⟩
   subst hw1
   clear hst
   go_wp2
   go_ret2
   exact⟨none,0,[],rfl,rfl,Sees.nil' _,hsame 0,(λ_ _ h=>by cases h),Bare.nil' _⟩
 ·obtain⟨V,rfl⟩:∃ V:Nat,n=(V:Int):=⟨n.toNat,by omega⟩
  have hV:V<=1024:=by omega
  by_cases h1:8*V<=R
  ·have e1:takeP R (V:Int)=0:=by unfold takeP;rw[if_neg (by omega),if_neg (by omega)]
   have e2:takeL l at_ (V:Int)=packL (nextB l at_ (8*V)):=by unfold takeL;rw[<-hR,e1];rfl
   have e3:takeAt l at_ (V:Int)=at_+8*V:=by unfold takeAt;rw[<-hR,e1];rfl
   rw[e1,e2,e3]
   have HPART:Hid (∀ k,Calls Tryz.prog 83 #[.pointer (some ⟨b,0,none⟩),.int .i64 (at_:Int),.int .i64 (V:Int)] (w.drewN k) λe w'=>∃ cc r,Hid (r=packL (nextB l at_ (8*V)))/\e=.returned (.slice (some ⟨w.heap.size,0,none⟩) r.length cc)/\Sees w' (some ⟨w.heap.size,0,none⟩) cc r/\Below w.heap.size w w'/\Bare w' (some ⟨w.heap.size,0,none⟩)):=λk=>by
    refine(part_own l (w.drewN k) b d cd c1 (hs.drewN k) hd hl at_ V (by omega)).mono ?_
    rintro e w' ⟨cc,r,hr,he,hs',hb,hz⟩
    exact⟨cc,r,hr,he,hs',⟨hb.os,hb.tape,hb.output,hb.size,hb.block⟩,hz⟩
   obtain⟨A2,hA2⟩:∃ A2,A2=at_+8*V:=⟨_,rfl⟩
   have HE:Hid (∀ w',Below w.heap.size w w'->Stay (RdM l) w F b (at_+8*V) (w'.setCell ⟨b,3,none⟩ (.int .i64 (A2:Int)))/\w'.cell? ⟨b,3,none⟩=some (.int .i64 (at_:Int))/\w'.frozen? ⟨b,3,none⟩=false):=λw' hb=>by
    have h2:=(rd_kept l).below h hb
    obtain⟨_,_,_,_,_,k3,g3,_⟩:=RdM.reads h2
    exact⟨by rw[hA2];exact h.left hb (at_+8*V),k3,g3⟩
   have HC:Hid (∀ m,(w.drewN m).cell? ⟨b,3,none⟩=some (.int .i64 (at_:Int))/\(w.drewN m).frozen? ⟨b,3,none⟩=false):=λm=>⟨c3,f3⟩
   have hVs:A2<=1125899906842624:=by omega
   have a2:(at_:Int)+8*(V:Int)=(A2:Int):=by omega
   have HB:Hid (b<w.heap.size):=World.block_lt_of_cell? w _ c0
   have HF:Hid (F b):=by obtain⟨_,_,_,h3,_⟩:=h;exact h3
   clear h hs hd c0 c1 c2 hsame hR e1 e2 e3 hat hbad hA2
   go_enter Tryz.func113,Tryz.ntmps113
   go_wp2_with fail
   refine hst.mono ?_
   rintro e w1 ⟨rfl,hw1⟩
   subst hw1
   go_wp2_with fail
   refine hlf.mono ?_
   rintro e w2 ⟨rfl,m,hw2⟩
   clear hst hlf c3 f3
   obtain⟨c3,f3⟩:=HC.out m
   have HN2:=HPART.out (m+1)
   rw[<-hw2] at c3 f3
   rw[<-drewN_add,<-hw2] at HN2
   clear hw2 HPART
   go_wp2
   go_region_held3 (λw'=>w'.cell? ⟨b,3,none⟩=some (.int .i64 (at_:Int)))
    (first|go_keep|exact(HE.out _ hb9).2.1)
    (first|(go_at_call 83;refine HN2.mono ?_;rintro e w9 ⟨cc,r,hr,rfl,hs9,hb9,hz9⟩;obtain⟨_,c9,f9⟩:=HE.out w9 hb9))
   go_wp2
   go_ret2
   refine⟨_,cc,r,hr,rfl,?_,(HE.out w9 hb9).1,(λg o he=>by simp only[Option.some.injEq,Addr.mk.injEq] at he;omega),hz9.setCell _ _ _⟩
   refine((Apart.refl (λk=>k=b) w9).setCell (.inl rfl) 3 _).sees hs9 (λb' off he _ hb'=>?_)
   have h1:=HB.out
   simp only[Option.some.injEq,Addr.mk.injEq] at he
   omega
  ·have e1:takeP R (V:Int)=3:=by unfold takeP;rw[if_neg (by omega),if_pos (by omega)]
   have e2:takeL l at_ (V:Int)=[]:=by unfold takeL;rw[<-hR,e1];rfl
   have e3:takeAt l at_ (V:Int)=at_:=by unfold takeAt;rw[<-hR,e1];rfl
   rw[e1,e2,e3]
   clear h hs hd c0 c1 c2 c3 f3 hR e1 e2 e3 hat hbad
   go_enter Tryz.func113,Tryz.ntmps113
   go_wp2_with fail
   refine hst.mono ?_
   rintro e w1 ⟨rfl,hw1⟩
   subst hw1
   go_wp2_with fail
   refine hlf.mono ?_
   rintro e w2 ⟨rfl,m,rfl⟩
   clear hst hlf
   go_wp2
   go_ret2
   exact⟨none,0,[],rfl,rfl,Sees.nil' _,hsame m,(λ_ _ h=>by cases h),Bare.nil' _⟩
theorem rlist_own (l:List UInt8)(c:Nat)(w:World)(q:Nat)(s:Rs)(F:Nat->Prop)(x:Value)(n:Nat)(hm:FrM l c w q s F):
  Calls Tryz.prog 74 #[.pointer (some ⟨q,0,none⟩),x,.int .i64 (n:Int)] w λe w'=>∃ d cd y,Hid (y=lstN l s n)/\e=.returned (.slice d y.length cd)/\Sees w' d cd y/\(∀ g o,d=some ⟨g,o,none⟩->w.heap.size<=g)/\FrM l c w' q (lstS l s n) F/\Apart F w w'/\Bare w' d:=by
 obtain⟨c0,c1,f1⟩:=hm.cells
 have hm0:=hm
 obtain⟨_,hle,hl,F',hr,hn,hs,hFq,hFlt⟩:=hm
 have hc:=rdtake_own l w c s.at_ F' hr hl (n:Int) hle
 have hat:=takeAt_le l s.at_ (n:Int) hle
 unfold lstN lstS
 obtain⟨N,hN⟩:∃ N,N=takeL l s.at_ (n:Int):=⟨_,rfl⟩
 obtain⟨m,hm1⟩:∃ m,m=takeAt l s.at_ (n:Int):=⟨_,rfl⟩
 obtain⟨P,hP⟩:∃ P,P=takeP (8*l.length-s.at_) (n:Int):=⟨_,rfl⟩
 rw[<-hN,<-hm1,<-hP]
 rw[<-hN,<-hm1,<-hP] at hc
 rw[<-hm1] at hat
 have HW:Hid (∀ w1 (d:Option Addr) (cd:Nat) (y:List UInt8),Stay (RdM l) w F' c m w1->Sees w1 d cd y->(∀ g o,d=some ⟨g,o,none⟩->w.heap.size<=g)->∀ t,(w1.cell? ⟨q,1,none⟩=some (.bool s.miss)/\w1.frozen? ⟨q,1,none⟩=false)/\Sees (w1.setCell ⟨q,1,none⟩ (.bool t)) d cd y/\FrM l c (w1.setCell ⟨q,1,none⟩ (.bool t)) q ⟨m,t⟩ F/\Apart F w (w1.setCell ⟨q,1,none⟩ (.bool t))):=λw1 d cd y hL hy hd t=>by
  obtain⟨h1,h2⟩:=hm0.went hn hs m hat hL t
  refine⟨h1,hy.set _ (λb off e _=>?_),h2⟩
  have:=hd b off e
  have:=hFlt q hFq
  omega
 generalize s.miss=b at *
 clear hm0 hr hn hs hat hN hm1 hP hle hl f1 hFq hFlt
 cases b
 ·by_cases h0:P=0
  ·have g0:((P:Int) != 0)=false:=by simp[h0]
   have e0:(false||decide (P≠0))=false:=by simp[h0]
   rw[e0]
   clear h0 e0
   go_enter Tryz.func74,Tryz.ntmps74
   go_wp2_with fail
   refine hc.mono ?_
   rintro e w1 ⟨d,cd,y,hy,rfl,hsy,hL,hd,hz⟩
   obtain⟨⟨d1,z1⟩,hX⟩:=HW.out w1 d cd y hL hsy hd false
   have HX:Hid ((∀ g o,d=some ⟨g,o,none⟩->w.heap.size<=g)/\Sees (w1.setCell ⟨q,1,none⟩ (.bool false)) d cd y/\FrM l c (w1.setCell ⟨q,1,none⟩ (.bool false)) q ⟨m,false⟩ F/\Apart F w (w1.setCell ⟨q,1,none⟩ (.bool false))):=⟨hd,hX⟩
   have HZ:Hid (Bare (w1.setCell ⟨q,1,none⟩ (.bool false)) d):=hz.setCell _ _ _
   clear hc hL HW c0 c1 hX hsy hd hz
   go_wp2
   go_ret
   exact⟨d,cd,y,hy,rfl,HX.out.2.1,HX.out.1,HX.out.2.2.1,HX.out.2.2.2,HZ.out⟩
  ·have g0:((P:Int) != 0)=true:=by simp;omega
   have e0:(false||decide (P≠0))=true:=by simp[h0]
   rw[e0]
   clear h0 e0
   go_enter Tryz.func74,Tryz.ntmps74
   go_wp2_with fail
   refine hc.mono ?_
   rintro e w1 ⟨d,cd,y,hy,rfl,hsy,hL,hd,hz⟩
   obtain⟨⟨d1,z1⟩,hX⟩:=HW.out w1 d cd y hL hsy hd true
   have HX:Hid ((∀ g o,d=some ⟨g,o,none⟩->w.heap.size<=g)/\Sees (w1.setCell ⟨q,1,none⟩ (.bool true)) d cd y/\FrM l c (w1.setCell ⟨q,1,none⟩ (.bool true)) q ⟨m,true⟩ F/\Apart F w (w1.setCell ⟨q,1,none⟩ (.bool true))):=⟨hd,hX⟩
   have HZ:Hid (Bare (w1.setCell ⟨q,1,none⟩ (.bool true)) d):=hz.setCell _ _ _
   clear hc hL HW c0 c1 hX hsy hd hz
   go_wp2
   go_ret
   exact⟨d,cd,y,hy,rfl,HX.out.2.1,HX.out.1,HX.out.2.2.1,HX.out.2.2.2,HZ.out⟩
 ·rw[Bool.true_or]
  go_enter Tryz.func74,Tryz.ntmps74
  go_wp2_with fail
  refine hc.mono ?_
  rintro e w1 ⟨d,cd,y,hy,rfl,hsy,hL,hd,hz⟩
  obtain⟨⟨d1,z1⟩,hX⟩:=HW.out w1 d cd y hL hsy hd true
  have HX:Hid ((∀ g o,d=some ⟨g,o,none⟩->w.heap.size<=g)/\Sees (w1.setCell ⟨q,1,none⟩ (.bool true)) d cd y/\FrM l c (w1.setCell ⟨q,1,none⟩ (.bool true)) q ⟨m,true⟩ F/\Apart F w (w1.setCell ⟨q,1,none⟩ (.bool true))):=⟨hd,hX⟩
  have HZ:Hid (Bare (w1.setCell ⟨q,1,none⟩ (.bool true)) d):=hz.setCell _ _ _
  clear hc hL HW c0 c1 hX hsy hd hz
  go_wp2
  go_ret
  exact⟨d,cd,y,hy,rfl,HX.out.2.1,HX.out.1,HX.out.2.2.1,HX.out.2.2.2,HZ.out⟩
end Go.Proofs.YthogohkieiogiaaGreatDoor
