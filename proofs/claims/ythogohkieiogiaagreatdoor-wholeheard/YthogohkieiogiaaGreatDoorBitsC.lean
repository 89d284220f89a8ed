/-
  What package bits must say of a writer, as a proposition.

  Bits that lie in one byte: taken as a number, and put. No program here.

  The contract of row.number.

  The contract of slices.Grow over bytes.

  The contract of row.part.
  A row of bits in memory, at the head of an object; what an append and the stores leave. No contract here.

  The contract of row.add.
-/
import Derived.Test.YthogohkieiogiaaGreatDoorBitsA
import Derived.Lib.AppendZeros
namespace Go.Proofs.YthogohkieiogiaaGreatDoor
set_option maxRecDepth 20000
set_option maxHeartbeats 6400000
open Go.ChangeShapes Go.WideShapes Go.ChangeAt Go.RowKit
theorem putB_len (bs:List Bool)(n:Nat)(W:Int)(h:bs.length<=8192):(putB bs n W).length<=8192:=by
 unfold putB
 by_cases h0:putP bs.length n W=0
 ·rw[if_pos h0,List.length_append,bitsN_length]
  unfold putP at h0
  by_cases h1:W<0\/64<W\/¬ n<2^W.toNat
  ·rw[if_pos h1] at h0;cases h0
  ·rw[if_neg h1] at h0
   by_cases h2:8192<bs.length+W.toNat
   ·rw[if_pos h2] at h0;cases h0
   ·omega
 ·rw[if_neg h0];exact h
theorem bytesB_len (bs:List Bool)(l:List UInt8)(h:bs.length<=8192):(bytesB bs l).length<=8192:=by
 unfold bytesB
 by_cases h0:bytesP bs.length l.length=0
 ·rw[if_pos h0,List.length_append,bitsOf_length]
  unfold bytesP at h0
  by_cases h1:1024<l.length\/8192<bs.length+8*l.length
  ·rw[if_pos h1] at h0;cases h0
  ·omega
 ·rw[if_neg h0];exact h
theorem bitsN_drop (n:Nat):∀ (w u:Nat),(bitsN n w).drop u=bitsN n (w-u)
 | w,0=>rfl
 | 0,u+1=>by simp[bitsN]
 | w+1,u+1=>by rw[bitsN,List.drop_succ_cons,bitsN_drop n w u];congr 1;omega
theorem bitsN_first (n:Nat):∀ (w s:Nat),s<=w->(bitsN n w).take s=bitsN (n/2^(w-s)) s
 | w,0,_=>by simp[bitsN]
 | 0,s+1,h=>by omega
 | w + 1, s + 1, h => by
   rw [bitsN, List.take_succ_cons, bitsN_first n w s (by omega), bitsN, Nat.testBit_div_two_pow]
   congr 2
   · congr 1; omega
   · congr 2; omega
theorem num_app (l m:List Bool):num (l++m)=num l*2^m.length+num m:=by
 have h1:=num_foldl m (num l)
 rw[<-h1];unfold num;rw[List.foldl_append]
theorem byte_mid (x u s:Nat)(h:u+s<=8):(x*2^u%256)/2^(8-s)=x/2^(8-u-s)%2^s:=by
 have e1:256=2^(8-u)*2^u:=by rw[<-Nat.pow_add,Nat.sub_add_cancel (by omega)]
 have e2:2^(8-s)=2^(8-u-s)*2^u:=by rw[<-Nat.pow_add];congr 1;omega
 have e3:2^(8-u)=2^(8-u-s)*2^s:=by rw[<-Nat.pow_add];congr 1;omega
 rw[e1,Nat.mul_mod_mul_right,e2,Nat.mul_div_mul_right _ _ (Nat.two_pow_pos u),e3,Nat.mod_mul_right_div_self]
theorem nextB_byte (l:List UInt8)(p s:Nat)(x:UInt8)(hx:l[p/8]?=some x)(h:p%8+s<=8):num (nextB l p s)=(x.toNat*2^(p%8)%256)/2^(8-s):=by
 have hq:p/8<l.length:=(List.getElem?_eq_some_iff.1 hx).1
 have e1:nextB l p s=((bitsU x).drop (p%8)).take s:=by
  have e2:bitsOf l=bitsOf (l.take (p/8))++(bitsU x++bitsOf (l.drop (p/8+1))):=by
   have e0:l.drop (p/8)=x::l.drop (p/8+1):=by rw[List.drop_eq_getElem_cons hq,(List.getElem?_eq_some_iff.1 hx).2]
   have e3:l=l.take (p/8)++x::l.drop (p/8+1):=by rw[<-e0,List.take_append_drop]
   conv=>lhs;rw[e3]
   rw[bitsOf_app];rfl
  have e4:(bitsOf (l.take (p/8))).length=8*(p/8):=by rw[bitsOf_length,List.length_take,Nat.min_eq_left (by omega)]
  unfold nextB
  rw[e2,List.drop_append,List.drop_eq_nil_of_le (by rw[e4];omega),List.nil_append,e4,show p-8*(p/8)=p%8 by omega,List.drop_append_of_le_length (by rw[bitsU_length];omega),List.take_append_of_le_length (by rw[List.length_drop,bitsU_length];omega)]
 rw[e1,<-bitsN_byte,bitsN_drop,bitsN_first _ _ _ (by omega),num_bitsN,byte_mid _ _ _ h]
theorem number_ok (l:List UInt8)(w:World)(b:Nat)(d:Option Addr)(cd:Nat)(hc:w.cell? ⟨b,1,none⟩=some (.slice d l.length cd))(hs:Sees w d cd l)(hl:l.length<=140737488355328)(A V:Nat)(hV:V<=64)(hat:A+V<=8*l.length):
  Calls Tryz.prog 78 #[.pointer (some ⟨b,0,none⟩),.int .i64 (A:Int),.int .i64 (V:Int)] w λe w'=>e=.returned (.int .u64 ((num (nextB l A V):Nat):Int))/\∃ m,w'=w.drewN m:=by
 have HS:Hid (Sees w d cd l):=hs
 have HA:Hid (A+V<=8*l.length):=hat
 have hA:A<=1125899906842624:=by omega
 clear hs hat
 go_enter Tryz.func78,Tryz.ntmps78
 go_wp2
 go_loopw [1,2,7,8,9] (λa v n _ _ wr=>∃ k:Nat,k<=V/\a=.int .i64 ((A+k:Nat):Int)/\v=.int .i64 ((V-k:Nat):Int)/\n=.int .u64 ((num (nextB l A k):Nat):Int)/\∃ m,wr=w.drewN m) (λ_ v _ _ _ _=>(intOf v).toNat)
 case atStart=>exact⟨0,Nat.zero_le _,rfl,rfl,by simp[nextB,num],0,rfl⟩
 case round=>
  obtain⟨k,hk,rfl,rfl,rfl,m,rfl⟩:=hrel
  by_cases hlt:k<V
  ·obtain⟨p,hp⟩:∃ p,p=A+k:=⟨_,rfl⟩
   obtain⟨v,hv⟩:∃ v,v=V-k:=⟨_,rfl⟩
   obtain⟨q,hq⟩:∃ q,q=p/8:=⟨_,rfl⟩
   obtain⟨u,hu⟩:∃ u,u=p%8:=⟨_,rfl⟩
   obtain⟨y,hy⟩:∃ y,y=8-u:=⟨_,rfl⟩
   obtain⟨s,hs⟩:∃ s,s=min y v:=⟨_,rfl⟩
   obtain⟨t,ht⟩:∃ t,t=8-s:=⟨_,rfl⟩
   have hql:q<l.length:=by have:=HA.out;omega
   obtain⟨x,hx⟩:∃ x,l[q]?=some x:=⟨l[q],by simp[hql]⟩
   obtain⟨b1,o1,rfl,hc1⟩:=HS.out.get hx
   obtain⟨N,hN⟩:∃ N,N=num (nextB l A k):=⟨_,rfl⟩
   obtain⟨T,hT⟩:∃ T,T=num (nextB l p s):=⟨_,rfl⟩
   rw[<-hN,<-hp,<-hv]
   have hsv:s<=v:=by omega
   have hs8:s<=8:=by omega
   have hs0:0<s:=by omega
   have hTb:T=(x.toNat*2^u%256)/2^t:=by rw[hT,hu,ht];exact nextB_byte l p s x (by rw[<-hq];exact hx) (by omega)
   have hTl:T<2^s:=by
    rw[hT]
    refine Nat.lt_of_lt_of_le (num_lt _) (Nat.pow_le_pow_right (by omega) (nextB_len l p s))
   have hps:p+s<=8*l.length:=by have:=HA.out;omega
   have hnext:num (nextB l A (k+s))=N*2^s+T:=by
    rw[nextB_add,num_app,nextB_length l (A+k) s (by rw[<-hp];exact hps),<-hN,<-hp,<-hT]
   have hNl:N*2^s+T<18446744073709551616:=by
    rw[<-hnext]
    have h1:=num_lt (nextB l A (k+s))
    have h2:2^(nextB l A (k+s)).length<=2^64:=Nat.pow_le_pow_right (by omega) (by have:=nextB_len l A (k+s);omega)
    omega
   obtain⟨M,hM⟩:∃ M,M=N*2^s:=⟨_,rfl⟩
   obtain⟨N2,hN2⟩:∃ N2,N2=M+T:=⟨_,rfl⟩
   have hM1:(N:Int)*2^s=(M:Int):=by rw[hM];simp
   have wN:IntKind.u64.wrap ((N:Int)*2^s)=(M:Int):=by rw[hM1,IntKind.wrap_u64];omega
   obtain⟨X,hX⟩:∃ X,X=x.toNat*2^u%256:=⟨_,rfl⟩
   have wX:IntKind.u8.wrap ((x.toNat:Int)*2^u)=(X:Int):=by
    have h1:(x.toNat:Int)*2^u=((x.toNat*2^u:Nat):Int):=by simp
    rw[h1,IntKind.wrap_u8,hX];omega
   have dT:(X:Int)/2^t=(T:Int):=by
    have h1:(X:Int)/2^t=((X/2^t:Nat):Int):=by simp
    rw[h1,hX,<-hTb]
   have eor:bits .or .u64 (M:Int) (T:Int)=(N2:Int):=by
    rw[u64_or_nat M T (by omega) (by omega),hN2,hM]
    congr 1
    have h2:=Nat.shiftLeft_add_eq_or_of_lt (a:=N) (i:=s) (b:=T) hTl
    rw[Nat.shiftLeft_eq] at h2
    exact h2.symm
   have wT:IntKind.u64.wrap (T:Int)=(T:Int):=by rw[IntKind.wrap_u64];omega
   have q1:(p:Int)/8=(q:Int):=by omega
   have q2:(p:Int).tdiv 8=(q:Int):=by rw[Int.tdiv_eq_ediv_of_nonneg (by omega)];exact q1
   have u1:(p:Int)%8=(u:Int):=by omega
   have u2:(p:Int).tmod 8=(u:Int):=by rw[Int.tmod_eq_emod_of_nonneg (by omega)];exact u1
   have y1:8-(u:Int)=(y:Int):=by omega
   have y2:IntKind.i64.wrap (8-(u:Int))=(y:Int):=by rw[IntKind.wrap_i64];omega
   have t1:8-(s:Int)=(t:Int):=by omega
   have t2:IntKind.i64.wrap (8-(s:Int))=(t:Int):=by rw[IntKind.wrap_i64];omega
   have hv64:v<=64:=by omega
   have hpm:p<=1125899906842700:=by omega
   have hv0:0<v:=by omega
   have hu8:u<8:=by omega
   have m1:min s 64=s:=by omega
   have m2:min u 8=u:=by omega
   have m3:min t 8=t:=by omega
   have gq0:(0:Int)<=(q:Int):=Int.natCast_nonneg _
   have gq1:(q:Int)<(l.length:Int):=by omega
   have HNX:Hid (num (nextB l A (k+s))=N2):=by rw[hnext,hN2,hM];exact rfl
   have HP:Hid (p=A+k/\v=V-k):=⟨hp,hv⟩
   have hsc:s=y/\y<=v\/s=v/\¬ y<=v:=by omega
   clear hp hv hq hu hy hs ht hx hN hT hTb hTl hps hnext hNl hM hN2 hX hM1 hk hlt
   rcases hsc with ⟨rfl,hyv⟩|⟨rfl,hyv⟩
   all_goals
    go_wp2
    go_quiet (fail)
    go_wp2
    go_roundw
    case rel=>
     have h1:=HP.out
     exact⟨k+s,by omega,by first|go_num|(congr 1;omega),by first|go_num|(congr 1;omega),by rw[HNX.out],_,rfl⟩
    case measure=>simp[intOf];omega
  ·obtain rfl:k=V:=by omega
   have hz:k-k=0:=by omega
   rw[hz]
   go_wp2
   go_ret
   exact⟨rfl,_,rfl⟩
theorem run_append_grow_zeros {P:Program}(w:World)(t tn ty e:TypeId)(i:TypeInfo)(z:Value)(k kn:IntKind)(ht:P.underlying t=some (.slice e))(htn:P.underlying tn=some (.int kn))(hi:P.info? e=some i)(hz:i.zero=some z)(b:Addr)(sLen sCap:Nat)(olds:List Value)(hlo:olds.length=sLen*i.size)(holds:∀ j v,olds[j]?=some v->w.cell? (b.add j)=some v)(n:Nat)(hs:0<i.size)(hg:sCap<sLen+n)(h0:0<n)(h63:((sLen+n:Nat):Int)<=9223372036854775807)(h48:n*i.bytes<=281474976710656)(hfit:Builtin.nextslicecap (sLen+n) sCap*i.bytes<=281474976710656):
  (Builtin.append_ #[t, tn] ty #[.slice (some b) sLen sCap, .int k n]).run P w =
    .ok (.slice (some ⟨w.heap.size, 0, none⟩) (sLen + n) (grownCap w (sLen + n) sCap e))
      (w.drew.alloc (.cells (olds.toArray ++ Builtin.zeroCells z.cells n ++ Builtin.zeroCells z.cells (grownCap w (sLen + n) sCap e - (sLen + n))) e)) := by
 have hn:¬ (sLen+n<=sCap):=by omega
 have hw:IntKind.i64.wrap (n:Int)=n:=by rw[IntKind.wrap_i64];omega
 have h63':¬ (9223372036854775807<((sLen:Int)+(n:Int))):=by omega
 have h48':¬ (281474976710656<Builtin.nextslicecap (sLen+n) sCap*i.bytes):=by omega
 have h48i:¬ (281474976710656<(n:Int)*(i.bytes:Int)):=by rw[<-Int.natCast_mul];omega
 have hneg:¬ ((n:Int)<0):=by omega
 have hns:¬ (n*i.size=0):=Nat.mul_ne_zero (by omega) (by omega)
 have hfo:=run_firstCells_some (P:=P) w.drew i.size sLen b sLen sCap olds hlo (by simpa using holds)
 simp[Builtin.append_,run_underlying ht,run_underlying htn,sizeOf,typeInfo,zeroValue,hi,hz,asInt,asIntOf,hw,hneg,hns,hn,h63',h48',h48i,Question.forced,hfo,newRow,grownCap]
def Roomy (w:World)(v:Value)(l:List UInt8)(m:Nat):Prop:=
 (v=.slice none 0 0/\l=[]/\m=0)\/∃ g cap cur,v=.slice (some ⟨g,0,none⟩) l.length cap/\w.heap[g]?=some (.cells cur 5 (0,0))/\l.length+m<=cap/\cap<=maxLen/\cur.size=cap/\cur.toList.take l.length=l.map cellOf
theorem grow_ok (w:World)(base:Nat)(v:Value)(l:List UInt8)(ho:w.ownsRow base 5 1 v l.length (l.map cellOf))(n:Nat)(hn:l.length+n<=140737488355328):
  Calls Tryz.prog 111 #[v,.int .i64 (n:Int)] w λe w'=>∃ v',e=.returned v'/\Roomy w' v' l n/\(v'=v\/v'.ownBlock=some w.heap.size)/\Below w.heap.size w w':=by
 obtain⟨i5,hi,hz0,hz1,hz2⟩:=info_parts Tryz.info5
 rcases ho.2 with ⟨rfl,h0⟩|⟨g,cap,cur,rfl,hlow,hg,hlc,hcm,hcs,htk⟩
 ·obtain rfl:l=[]:=List.eq_nil_of_length_eq_zero h0
  by_cases hn0:n=0
  ·subst hn0
   clear ho hi hz0 hz1 hz2 h0
   go_enter Tryz.func111,Tryz.ntmps111
   go_wp2
   go_ret
   exact⟨_,rfl,.inl ⟨rfl,rfl,rfl⟩,.inl rfl,Below.refl _ _⟩
  ·have hrun:=Lib.run_append_nil_zeros (P:=Tryz.prog) w 22 3 22 5 i5 (.int .u8 0) .i64 .i64 Tryz.underlying22 Tryz.underlying3 hi hz0 n (by omega) (by rw[hz1];omega) (by simp at hn;omega) (by rw[hz2];simp at hn;omega)
   obtain⟨c,hc⟩:∃ c,c=grownCap w n 0 5:=⟨_,rfl⟩
   rw[<-hc] at hrun
   have hcn:n<=c:=by rw[hc];exact grownCap_ge w n 0 5
   have hcm:c<=maxLen:=by rw[hc];exact grownCap_le_maxLen w n 0 5 (by unfold maxLen;simp at hn;omega)
   obtain⟨cur,hcur⟩:∃ cur,cur=Builtin.zeroCells (Value.int .u8 0).cells n++Builtin.zeroCells (Value.int .u8 0).cells (c-n):=⟨_,rfl⟩
   rw[<-hcur] at hrun
   have hsz:cur.size=c:=by rw[hcur];simp[Builtin.zeroCells,Value.cells];omega
   obtain⟨w1,hw1⟩:∃ w1,w1=w.drew.alloc (.cells cur 5):=⟨_,rfl⟩
   rw[<-hw1] at hrun
   have HE:Hid (Roomy w1 (.slice (some ⟨w.heap.size,0,none⟩) 0 c) [] n/\Below w.heap.size w w1):=
    ⟨.inr ⟨w.heap.size,c,cur,rfl,by rw[hw1];exact heap_alloc_new w.drew _,by simpa using hcn,hcm,hsz,rfl⟩,by rw[hw1];exact(Below.refl _ w).drew.alloc (Nat.le_refl _) _⟩
   have HR:Hid ((Builtin.append_ #[22,3] 22 #[.slice none 0 0,.int .i64 (n:Int)]).run Tryz.prog w=.ok (.slice (some ⟨w.heap.size,0,none⟩) n c) w1):=hrun
   have hn1:0<n:=by omega
   have hn2:n<=140737488355328:=by simpa using hn
   clear ho hi hz0 hz1 hz2 h0 hrun hw1 hc hcur hsz hn
   go_enter Tryz.func111,Tryz.ntmps111
   go_wp2_with (at_builtin;refine Lib.wpList_append_run _ rfl _ _ 22 3 rfl _ _ rfl rfl _ _ HR.out ?_)
   go_ret
   exact⟨_,rfl,HE.out.1,.inr rfl,HE.out.2⟩
 ·have hcm1:cap<=9223372036854775807:=by unfold maxLen at hcm;omega
  by_cases hr:l.length+n<=cap
  ·have HE:Hid (Roomy w (.slice (some ⟨g,0,none⟩) l.length cap) l n):=.inr ⟨g,cap,cur,rfl,hg,hr,hcm,by simpa using hcs,by simpa using htk⟩
   clear ho hi hz0 hz1 hz2 hg hcs htk
   go_enter Tryz.func111,Tryz.ntmps111
   go_wp2
   go_ret
   exact⟨_,rfl,HE.out,.inl rfl,Below.refl _ _⟩
  ·obtain⟨m,hm⟩:∃ m,m=n-(cap-l.length):=⟨_,rfl⟩
   have hm0:0<m:=by omega
   have hmt:cap+m=l.length+n:=by omega
   have hcs':cur.size=cap:=by simpa using hcs
   have hrun:=run_append_grow_zeros (P:=Tryz.prog) w 22 3 22 5 i5 (.int .u8 0) .i64 .i64 Tryz.underlying22 Tryz.underlying3 hi hz0 ⟨g,0,none⟩ cap cap cur.toList (by rw[hz1];simpa using hcs) (World.news_of_block hg) m (by rw[hz1];omega) (by omega) hm0 (by omega) (by rw[hz2];omega) (growslice_fits (by omega) (by rw[hz2];omega))
   obtain⟨c,hc⟩:∃ c,c=grownCap w (cap+m) cap 5:=⟨_,rfl⟩
   rw[<-hc] at hrun
   have hcn:cap+m<=c:=by rw[hc];exact grownCap_ge w _ _ 5
   have hcm2:c<=maxLen:=by rw[hc];exact grownCap_le_maxLen w _ _ 5 (by unfold maxLen;omega)
   obtain⟨cr,hcr⟩:∃ cr,cr=cur.toList.toArray++Builtin.zeroCells (Value.int .u8 0).cells m++Builtin.zeroCells (Value.int .u8 0).cells (c-(cap+m)):=⟨_,rfl⟩
   rw[<-hcr] at hrun
   have hsz:cr.size=c:=by rw[hcr];simp[Builtin.zeroCells,Value.cells,hcs'];omega
   have htk2:cr.toList.take l.length=l.map cellOf:=by
    rw[hcr,Array.toList_append,Array.toList_append,List.append_assoc,List.take_append_of_le_length (by simp[hcs'];exact hlc)]
    simpa using htk
   obtain⟨w1,hw1⟩:∃ w1,w1=w.drew.alloc (.cells cr 5):=⟨_,rfl⟩
   rw[<-hw1] at hrun
   have HE:Hid (Roomy w1 (.slice (some ⟨w.heap.size,0,none⟩) l.length c) l n/\Below w.heap.size w w1):=
    ⟨.inr ⟨w.heap.size,c,cr,rfl,by rw[hw1];exact heap_alloc_new w.drew _,by omega,hcm2,hsz,htk2⟩,by rw[hw1];exact(Below.refl _ w).drew.alloc (Nat.le_refl _) _⟩
   have HR:Hid ((Builtin.append_ #[22,3] 22 #[.slice (some ⟨g,0,none⟩) cap cap,.int .i64 (m:Int)]).run Tryz.prog w=.ok (.slice (some ⟨w.heap.size,0,none⟩) (cap+m) c) w1):=hrun
   have em:(n:Int)-((cap:Int)-(l.length:Int))=(m:Int):=by omega
   have hlm:l.length<=cap+m:=by omega
   have hlm2:l.length<=c:=by omega
   have hn2:n<=140737488355328:=by omega
   clear ho hi hz0 hz1 hz2 hg hcs htk hcs' hsz htk2 hw1 hcr hc hrun hm hr
   go_enter Tryz.func111,Tryz.ntmps111
   go_wp2_with (at_builtin;refine Lib.wpList_append_run _ rfl _ _ 22 3 rfl _ _ rfl rfl _ _ HR.out ?_)
   go_ret
   exact⟨_,rfl,HE.out.1,.inr rfl,HE.out.2⟩
theorem part_even (l:List UInt8)(q n:Nat)(h:q+n<=l.length):packL (nextB l (8*q) (8*n))=(l.drop q).take n:=by
 have e1:nextB l (8*q) (8*n)=bitsOf ((l.drop q).take n):=by
  have e2:bitsOf l=bitsOf (l.take q)++(bitsOf ((l.drop q).take n)++bitsOf ((l.drop q).drop n)):=by
   rw[<-bitsOf_app,<-bitsOf_app,List.take_append_drop,List.take_append_drop]
  have e3:(bitsOf (l.take q)).length=8*q:=by rw[bitsOf_length,List.length_take,Nat.min_eq_left (by omega)]
  have e4:(bitsOf ((l.drop q).take n)).length=8*n:=by rw[bitsOf_length,List.length_take,List.length_drop,Nat.min_eq_left (by omega)]
  unfold nextB
  rw[e2,<-e3,List.drop_left,<-e4,List.take_left]
 rw[e1,packL_bytes]
theorem part_ok (l:List UInt8)(w:World)(b:Nat)(d:Option Addr)(cd:Nat)(hc:w.cell? ⟨b,1,none⟩=some (.slice d l.length cd))(hs:Sees w d cd l)(hd:d=none\/∃ g o,d=some ⟨g,o,none⟩)(hl:l.length<=140737488355328)(A n:Nat)(hat:A+8*n<=8*l.length):
  Calls Tryz.prog 83 #[.pointer (some ⟨b,0,none⟩),.int .i64 (A:Int),.int .i64 (n:Int)] w λe w'=>∃ cc r,Hid (r=packL (nextB l A (8*n)))/\e=.returned (.slice (some ⟨w.heap.size,0,none⟩) r.length cc)/\Sees w' (some ⟨w.heap.size,0,none⟩) cc r/\Below w.heap.size w w':=by
 obtain⟨i5,hi,hz0,hz1,hz2⟩:=info_parts Tryz.info5
 have hnl:n<=l.length:=by omega
 have hbl:b<w.heap.size:=World.block_lt_of_cell? w _ hc
 have HS:Hid (Sees w d cd l):=hs
 have HA:Hid (A+8*n<=8*l.length):=hat
 have hA:A<=1125899906842624:=by omega
 obtain⟨q,hq⟩:∃ q,q=A/8:=⟨_,rfl⟩
 obtain⟨u,hu⟩:∃ u,u=A%8:=⟨_,rfl⟩
 have q1:(A:Int)/8=(q:Int):=by omega
 have q2:(A:Int).tdiv 8=(q:Int):=by rw[Int.tdiv_eq_ediv_of_nonneg (by omega)];exact q1
 have u1:(A:Int)%8=(u:Int):=by omega
 have u2:(A:Int).tmod 8=(u:Int):=by rw[Int.tmod_eq_emod_of_nonneg (by omega)];exact u1
 have HQ:Hid (A=8*q+u/\u<8):=⟨by omega,by omega⟩
 have hqn:q+n<=l.length:=by omega
 clear hs hat hq hu
 go_enter Tryz.func83,Tryz.ntmps83
 go_wp2_with (at_make;refine wpList_make_full _ rfl _ _ 22 rfl w.heap.size 5 i5 (.int .u8 0) 1 Tryz.underlying22 hi hz0 hz1 .i64 .i64 _ _ n rfl rfl rfl rfl ?b2 ?b3 ?b4 ?_)
 case b2=>rw[hz2];omega
 case b3=>unfold maxLen;omega
 case b4=>exact Nat.le_refl _
 intro w1 hown hgrow
 have hbel:Below w.heap.size w w1:=(Below.refl _ _).grown hgrow (Nat.le_refl _) (by intro k h;cases h)
 have ho0:w1.ownsRow w.heap.size 5 1 (.slice (some ⟨w.heap.size,0,none⟩) n n) n ((List.replicate n (0:UInt8)).map cellOf):=by rw[<-made_bytes];simpa using hown
 have hc1:w1.cell? ⟨b,1,none⟩=some (.slice d l.length cd):=by rw[hbel.cell (p:=⟨b,1,none⟩) hbl];exact hc
 have HS1:Hid (Sees w1 d cd l):=HS.out.below hbel
 clear hgrow hown hc
 by_cases h0:u=0
 ·subst h0
  have hpk:packL (nextB l A (8*n))=(l.drop q).take n:=by rw[HQ.out.1,Nat.add_zero];exact part_even l q n hqn
  obtain⟨r,hr⟩:∃ r,r=(l.drop q).take n:=⟨_,rfl⟩
  have hrl:r.length=n:=by rw[hr,List.length_take,List.length_drop];omega
  have HR:Hid (r=packL (nextB l A (8*n))):=by rw[hpk];exact hr
  have hmod:(0:Int)=((0:Nat):Int):=rfl
  have hrs:r=[]->Sees w1 (some ⟨w.heap.size,0,none⟩) 0 r:=by rintro rfl;exact⟨by simp,by simp,(λh0=>by cases h0),λh=>absurd rfl h⟩
  rcases hd with rfl|⟨g,o,rfl⟩
  ·have hl0:l.length=0:=by have h1:=HS.out.bare rfl;have h2:=HS.out.fits;omega
   obtain rfl:n=0:=by omega
   obtain rfl:q=0:=by omega
   have hc0:cd=0:=HS.out.bare rfl
   subst hc0
   rw[hl0] at hc1
   have hr0:r=[]:=List.eq_nil_of_length_eq_zero hrl
   have HE:=hrs hr0
   have HRL:Hid (r.length=0):=hrl
   have HCP:Hid ((Builtin.copy_ #[22,22] 3 #[.slice (some ⟨w.heap.size,0,none⟩) 0 0,.slice none 0 0]).run Tryz.prog w1=.ok (.int .i64 0) w1):=copy_nil _ _ _ _ _ _
   clear ho0 hr hpk hrl hmod hi hz0 hz1 hz2 hrs hr0
   go_wp2_with (first|refine wpList_copy_run rfl _ _ 22 rfl _ _ _ rfl rfl HCP.out ?_)
   go_ret
   exact⟨_,r,HR,by rw[HRL.out];rfl,HE,hbel⟩
  by_cases hcq:cd=q
  ·subst hcq
   have hf:=HS.out.fits
   obtain rfl:n=0:=by omega
   have hr0:r=[]:=List.eq_nil_of_length_eq_zero hrl
   have HE:=hrs hr0
   have HRL:Hid (r.length=0):=hrl
   have hz:l.length-cd=0:=by omega
   have hd1:cd<=l.length:=by omega
   have HCP:Hid ((Builtin.copy_ #[22,22] 3 #[.slice (some ⟨w.heap.size,0,none⟩) 0 0,.slice (some ⟨g,o,none⟩) 0 0]).run Tryz.prog w1=.ok (.int .i64 0) w1):=copy_nil _ _ _ _ _ _
   clear ho0 hr hpk hrl hmod hi hz0 hz1 hz2 hrs hr0
   go_wp2_with (first|refine wpList_copy_run rfl _ _ 22 rfl _ _ _ rfl rfl HCP.out ?_)
   go_ret
   exact⟨_,r,HR,by rw[HRL.out];rfl,HE,hbel⟩
  ·obtain⟨cur,hg,hcs⟩:∃ cur:Array Value,w1.heap[w.heap.size]?=some (.cells cur 5 (0,0))/\cur.size=n:=by
    rcases ho0.2 with ⟨h1,_⟩|⟨g1,c1,cur,he,_,hq1,_,_,hsz,_⟩
    ·cases h1
    ·simp only[Value.slice.injEq,Option.some.injEq,Addr.mk.injEq,and_true] at he
     obtain⟨rfl,_,rfl⟩:=he
     exact⟨cur,hq1,by simpa using hsz⟩
   obtain⟨w2,hrun,hg2,hap,_⟩:=copy_row w1 w.heap.size 0 n n cur hg (by omega) _ _ _ (HS1.out.tail q (by omega)) n (by rw[List.length_drop];omega)
   rw[List.length_drop] at hrun
   have HCP:Hid ((Builtin.copy_ #[22,22] 3 #[.slice (some ⟨w.heap.size,0,none⟩) n n,.slice (some ⟨g,o+q,none⟩) (l.length-q) (cd-q)]).run Tryz.prog w1=.ok (.int .i64 (n:Int)) w2):=hrun
   clear hrun
   have HE:Hid (Sees w2 (some ⟨w.heap.size,0,none⟩) n r/\Below w.heap.size w w2):=by
    refine⟨⟨by omega,by unfold maxLen;omega,(λh0=>by cases h0),λ_=>⟨w.heap.size,0,rfl,λi x hx=>?_⟩⟩,hap.below hbel (λk hk=>by rw[hk];exact Nat.le_refl _) hbel.size⟩
    rw[<-hr,List.take_zero,List.nil_append] at hg2
    have hi':i<r.length:=(List.getElem?_eq_some_iff.1 hx).1
    rw[cell_of_row _ _ _ _ _ _ hg2]
    simp[List.getElem?_append,hi',cellOf,(List.getElem?_eq_some_iff.1 hx).2]
   have HRL:Hid (r.length=n):=hrl
   have hd1:q<=l.length:=by omega
   clear hg2 hap hg hcs ho0 hr hpk hrl hmod hi hz0 hz1 hz2
   go_wp2_with (first|refine wpList_copy_run rfl _ _ 22 rfl _ _ _ rfl rfl HCP.out ?_)
   go_ret
   exact⟨_,r,HR,by rw[HRL.out];rfl,HE.out.1,HE.out.2⟩
 ·have dmod:((u:Int)==0)=false:=by simp[h0]
  have HP0:Hid (w1.ownsRow w.heap.size 5 1 (.slice (some ⟨w.heap.size,0,none⟩) n n) n ((packL (nextB l A (8*0))++List.replicate (n-0) (0:UInt8)).map cellOf)):=by
   have:packL (nextB l A (8*0))=[]:=by simp[nextB,packL,packN]
   rw[this];exact ho0
  clear hi hz0 hz1 hz2 ho0
  go_wp2
  go_loopw [8,26] (λ_ i wr=>∃ k:Nat,k<=n/\i=.int .i64 k/\wr.ownsRow w.heap.size 5 1 (.slice (some ⟨w.heap.size,0,none⟩) n n) n ((packL (nextB l A (8*k))++List.replicate (n-k) (0:UInt8)).map cellOf)/\Below w.heap.size w wr) (λ_ i _=>n-(intOf i).toNat)
  case atStart=>exact⟨0,Nat.zero_le _,rfl,HP0.out,hbel⟩
  case round=>
   obtain⟨k,hk,rfl,ho,hbl2⟩:=hrel
   clear HP0
   by_cases hlt:k<n
   ·have hkn:A+8*(k+1)<=8*l.length:=by have:=HA.out;omega
    have hc2:wr.cell? ⟨b,1,none⟩=some (.slice d l.length cd):=by rw[hbl2.cell (p:=⟨b,1,none⟩) hbl,<-hbel.cell (p:=⟨b,1,none⟩) hbl];exact hc1
    have hnum:=number_ok l wr b d cd hc2 (HS.out.below hbl2) hl (A+8*k) 8 (by omega) (by omega)
    obtain⟨T,hT⟩:∃ T,T=num (nextB l (A+8*k) 8):=⟨_,rfl⟩
    have hT8:T<256:=by
     have h1:=num_lt (nextB l (A+8*k) 8)
     rw[nextB_length _ _ _ (by omega),<-hT] at h1
     exact h1
    have hstep:=pack_step l A k hkn
    have hlen:(packL (nextB l A (8*k))).length=k:=by rw[packL_length,nextB_length _ _ _ (by omega)];omega
    have hset:(packL (nextB l A (8*k))++List.replicate (n-k) (0:UInt8)).set k (UInt8.ofNat T)=packL (nextB l A (8*(k+1)))++List.replicate (n-(k+1)) 0:=by
     rw[hstep,<-hT,show n-k=(n-(k+1))+1 by omega,List.replicate_succ,List.set_append_right _ _ (by omega),hlen,Nat.sub_self,List.set_cons_zero,List.append_assoc];rfl
    rw[<-hT] at hnum
    have hTu:(UInt8.ofNat T).toNat=T:=by rw[UInt8.toNat_ofNat'];omega
    have HST:Hid (∀ m,((wr.drewN m).setCell ⟨w.heap.size,k,none⟩ (.int .u8 (T:Int))).ownsRow w.heap.size 5 1 (.slice (some ⟨w.heap.size,0,none⟩) n n) n ((packL (nextB l A (8*(k+1)))++List.replicate (n-(k+1)) (0:UInt8)).map cellOf)):=λm=>by
     have h1:(wr.drewN m).ownsRow w.heap.size 5 1 (.slice (some ⟨w.heap.size,0,none⟩) n n) n ((packL (nextB l A (8*k))++List.replicate (n-k) (0:UInt8)).map cellOf):=ho
     obtain⟨h2,_⟩:=h1.stored k (.int .u8 (T:Int))
     rw[<-hset,List.map_set]
     unfold cellOf
     rw[hTu];exact h2
    have HBL:Hid (∀ m,Below w.heap.size w ((wr.drewN m).setCell ⟨w.heap.size,k,none⟩ (.int .u8 (T:Int)))):=λm=>(below_drewN hbl2 m).setCell (p:=⟨w.heap.size,k,none⟩) (Nat.le_refl _) _
    have hcx:∃ z,Hid (∀ m,(wr.drewN m).cell? ⟨w.heap.size,k,none⟩=some (.int .u8 z)/\(wr.drewN m).frozen? ⟨w.heap.size,k,none⟩=false):=by
     obtain⟨z,hz⟩:∃ z,(packL (nextB l A (8*k))++List.replicate (n-k) (0:UInt8))[k]?=some z:=by
      have:k<(packL (nextB l A (8*k))++List.replicate (n-k) (0:UInt8)).length:=by rw[List.length_append,hlen,List.length_replicate];omega
      exact⟨_,List.getElem?_eq_getElem this⟩
     refine⟨(z.toNat:Int),λm=>⟨?_,?_⟩⟩
     ·have h3:wr.cell? ⟨w.heap.size,k,none⟩=some (.int .u8 (z.toNat:Int)):=by rw[ho.cellAt k (by omega),List.getElem?_map,hz];rfl
      exact h3
     ·have h3:wr.frozen? ⟨w.heap.size,k,none⟩=false:=ho.frozenAt k
      exact h3
    obtain⟨z,hcx⟩:=hcx
    have wT:IntKind.u8.wrap (T:Int)=(T:Int):=by rw[IntKind.wrap_u8];omega
    have hnum2:Calls Tryz.prog 78 #[.pointer (some ⟨b,0,none⟩),.int .i64 ((A:Int)+8*(k:Int)),.int .i64 8] wr λe w'=>e=.returned (.int .u64 (T:Int))/\∃ m,w'=wr.drewN m:=by
     have e1:((A+8*k:Nat):Int)=(A:Int)+8*(k:Int):=by omega
     rw[e1] at hnum;exact hnum
    clear hnum hset hstep hTu ho hbl2 hc2 hT hbel hc1
    go_wp2_with fail
    refine hnum2.mono ?_
    rintro e w2 ⟨rfl,m,rfl⟩
    obtain⟨hcz,hfz⟩:=hcx.out m
    clear hnum2
    go_wp2
    go_roundw
    case rel=>exact⟨k+1,by omega,by go_num,HST.out _,HBL.out _⟩
    case measure=>simp[intOf];omega
   ·obtain rfl:k=n:=by omega
    rw[Nat.sub_self,List.replicate_zero,List.append_nil] at ho
    obtain⟨r,hr⟩:∃ r,r=packL (nextB l A (8*k)):=⟨_,rfl⟩
    have hrl:r.length=k:=by rw[hr,packL_length,nextB_length _ _ _ HA.out];omega
    rw[<-hr] at ho
    have ho2:wr.ownsRow w.heap.size 5 1 (.slice (some ⟨w.heap.size,0,none⟩) k k) r.length (r.map cellOf):=by rw[hrl];exact ho
    obtain⟨c,cc,hv,hs⟩:=Sees.of_own ho
    simp only[Value.slice.injEq] at hv
    rw[<-hv.1,<-hv.2.2] at hs
    have HR:Hid (r=packL (nextB l A (8*k))):=hr
    have HPL:Hid (r.length=k):=hrl
    clear hv ho ho2 hr hrl
    go_wp2
    go_ret
    exact⟨_,r,HR,by rw[HPL.out];rfl,hs,hbl2⟩
theorem packN_more (B:List Bool)(m:Nat)(h:B.length<=8*m):packN B (m+1)=packN B m++[0]:=by
 unfold packN
 rw[List.range_succ,List.map_append,List.map_singleton]
 congr 2
 have:(λk=>B.getD (8*m+k) false)=λ_=>false:=by
  funext k
  rw[List.getD_eq_getElem?_getD,List.getElem?_eq_none (by omega)];rfl
 rw[this];rfl
theorem bitsN_at (n:Nat):∀ (w i:Nat),i<w->(bitsN n w)[i]?=some (n.testBit (w-1-i))
 | 0,i,h=>by omega
 | w+1,0,_=>by simp[bitsN]
 | w + 1, i + 1, h => by
   rw [bitsN, List.getElem?_cons_succ, bitsN_at n w i (by omega)]
   congr 2
   omega
theorem pack_add (B:List Bool)(q u N s:Nat)(hB:B.length=8*q+u)(h:u+s<=8)(x:UInt8)(hx:(packN B (q+1))[q]?=some x):
  packN (B++bitsN N s) (q+1)=(packN B (q+1)).set q (x|||UInt8.ofNat (N%2^s*2^(8-u-s))):=by
 have hc:N%2^s*2^(8-u-s)<256:=by
  have h1:N%2^s<2^s:=Nat.mod_lt _ (Nat.two_pow_pos s)
  have h2:N%2^s*2^(8-u-s)<2^s*2^(8-u-s):=Nat.mul_lt_mul_of_pos_right h1 (Nat.two_pow_pos _)
  rw[<-Nat.pow_add] at h2
  exact Nat.lt_of_lt_of_le h2 (Nat.pow_le_pow_right (n:=2) (j:=8) (by omega) (by omega))
 apply List.ext_getElem?
 intro j
 rw[List.getElem?_set]
 rcases Nat.lt_trichotomy j q with hj|rfl|hj
 ·rw[if_neg (by omega),packN_at _ _ _ (by omega),packN_at _ _ _ (by omega)]
  congr 1
  apply byteOf_same
  intro k hk
  rw[List.getD_eq_getElem?_getD,List.getD_eq_getElem?_getD,List.getElem?_append_left (by omega)]
 ·rw[packN_at _ _ _ (by omega)] at hx ⊢
  rw[if_pos rfl,if_pos (by rw[packN_length];omega)]
  congr 1
  simp only[Option.some.injEq] at hx
  rw[<-hx]
  apply u8_ext
  intro i hi
  obtain⟨k,rfl⟩:∃ k,i=7-k:=⟨7-i,by omega⟩
  obtain⟨k',hk',e⟩:∃ k',k'<8/\7-k=7-k':=⟨min k 7,by omega,by omega⟩
  rw[e,byteOf_test _ k' hk',UInt8.toNat_or,Nat.testBit_or,byteOf_test _ k' hk',UInt8.toNat_ofNat',Nat.mod_eq_of_lt hc,Nat.testBit_mul_two_pow,Nat.testBit_mod_two_pow]
  rw[List.getD_eq_getElem?_getD,List.getD_eq_getElem?_getD]
  by_cases h1:k'<u
  ·rw[List.getElem?_append_left (by omega)]
   have:¬ (7-k'-(8-u-s)<s):=by omega
   simp[this]
  ·rw[List.getElem?_append_right (by omega),List.getElem?_eq_none (l:=B) (by omega),show 8*j+k'-B.length=k'-u by omega]
   by_cases h2:k'-u<s
   ·rw[bitsN_at _ _ _ h2]
    have a1:8-u-s<=7-k':=by omega
    have a3:7-k'-(8-u-s)=s-1-(k'-u):=by omega
    simp[a1,a3]
    intro h3;omega
   ·rw[List.getElem?_eq_none (by rw[bitsN_length];omega)]
    have a1:¬ (8-u-s<=7-k'):=by omega
    simp[a1]
 ·rw[if_neg (by omega),List.getElem?_eq_none (by rw[packN_length];omega),List.getElem?_eq_none (by rw[packN_length];omega)]
theorem add_byte (N u s:Nat)(h:u+s<=8):(N%256*2^(8-s)%256)/2^u=N%2^s*2^(8-u-s):=by
 have e1:256=2^s*2^(8-s):=by rw[<-Nat.pow_add,Nat.add_sub_cancel' (by omega)]
 have e2:2^(8-s)=2^(8-u-s)*2^u:=by rw[<-Nat.pow_add];congr 1;omega
 have e3:N%256*2^(8-s)%256=N%2^s*2^(8-s):=by
  conv=>lhs;rhs;rw[e1]
  rw[Nat.mul_mod_mul_right]
  congr 1
  rw[e1,Nat.mod_mul_right_mod]
 rw[e3,e2,<-Nat.mul_assoc,Nat.mul_div_cancel _ (Nat.two_pow_pos u)]
theorem packL_part (B:List Bool)(q:Nat)(h1:8*q<B.length)(h2:B.length<=8*q+8):packL B=packN B (q+1):=by
 unfold packL;congr 1;omega
def RowP (ty:TypeId)(R:List Value)(w:World)(b:Nat)(s:Nat×List UInt8)(F:Nat->Prop):Prop:=
 ∃ v,w.heap[b]?=some (.cells (.bool true::v :: .int .i64 (s.1:Int)::R).toArray ty (0,0))/\w.ownsRow 0 5 1 v s.2.length (s.2.map cellOf)/\F b/\(∀ k,v.ownBlock=some k->F k)/\∀ k,F k->k<w.heap.size
def RowB (ty:TypeId)(R:List Value)(w:World)(b:Nat)(bs:List Bool)(F:Nat->Prop):Prop:=RowP ty R w b (bs.length,packL bs) F
theorem rowP_kept (ty:TypeId)(R:List Value):Kept (RowP ty R) where
 lt:=λ⟨_,_,_,_,_,h⟩=>h
 keep:=λ{w w' b s F} ⟨v,h1,h2,h3,h4,h5⟩ hk=>by
  refine⟨v,(hk b h3).trans h1,?_,h3,h4,λk hF=>?_⟩
  ·refine⟨h2.1,?_⟩
   rcases h2.2 with h0|⟨g,cap,cur,rfl,hlow,hg,h7⟩
   ·exact .inl h0
   ·exact .inr ⟨g,cap,cur,rfl,hlow,(hk g (h4 g rfl)).trans hg,h7⟩
  ·have h8:w'.heap[k]?=some (w.heap[k]'(h5 k hF)):=by rw[hk k hF];simp[h5 k hF]
   exact(Array.getElem?_eq_some_iff.1 h8).1
theorem rowB_kept (ty:TypeId)(R:List Value):Kept (RowB ty R) where
 lt:=λh=>(rowP_kept ty R).lt h
 keep:=λh hk=>(rowP_kept ty R).keep h hk
theorem RowP.reads {ty:TypeId}{R:List Value}{w:World}{b:Nat}{s:Nat×List UInt8}{F:Nat->Prop}(h:RowP ty R w b s F):
  ∃ d cd, w.cell? ⟨b, 0, none⟩ = some (.bool true) ∧ w.cell? ⟨b, 1, none⟩ = some (.slice d s.2.length cd) ∧ w.cell? ⟨b, 2, none⟩ = some (.int .i64 (s.1 : Int)) ∧ (∀ i, w.frozen? ⟨b, i, none⟩ = false) ∧
    Sees w d cd s.2 ∧ (d = none ∨ ∃ g o, d = some ⟨g, o, none⟩) ∧ w.ownsRow 0 5 1 (.slice d s.2.length cd) s.2.length (s.2.map cellOf) := by
 obtain⟨v,h1,h2,h3,h4,h5⟩:=h
 obtain⟨d,cd,rfl,hs⟩:=Sees.of_own h2
 refine⟨d,cd,cell_of_row _ _ 0 _ _ _ h1,cell_of_row _ _ 1 _ _ _ h1,cell_of_row _ _ 2 _ _ _ h1,λi=>frozen_of_row _ _ i _ _ h1,hs,?_,h2⟩
 rcases h2.2 with ⟨h0,_⟩|⟨g,cap,cur,he,_⟩
 ·simp only[Value.slice.injEq] at h0;exact .inl h0.1
 ·simp only[Value.slice.injEq] at he;exact .inr ⟨g,0,he.1⟩
theorem row_more {ty:TypeId}{R:List Value}{w:World}{b sz:Nat}{P:List UInt8}{F:Nat->Prop}{v:Value}(hty:ty≠5)(h1:w.heap[b]?=some (.cells (.bool true::v :: .int .i64 (sz:Int)::R).toArray ty (0,0)))(h2:w.ownsRow 0 5 1 v P.length (P.map cellOf))(h3:F b)(h4:∀ k,v.ownBlock=some k->F k)(h5:∀ k,F k->k<w.heap.size)(hl:P.length<=10000)(x:UInt8):
  ∃ d cd w1, (Builtin.append_ #[22, 22] 22 #[v, .slice (some ⟨w.heap.size, 0, none⟩) 1 1]).run Tryz.prog (w.alloc (.cells #[.int .u8 (x.toNat : Int)] 5)) = .ok (.slice d (P.length + 1) cd) w1 ∧ w1.cell? ⟨b, 1, none⟩ = some v ∧ w1.frozen? ⟨b, 1, none⟩ = false ∧
    Left (RowP ty R) w F b (sz, P ++ [x]) (w1.setCell ⟨b, 1, none⟩ (.slice d (P.length + 1) cd)) := by
 obtain⟨i5,hi,hz0,hz1,hz2⟩:=info_parts Tryz.info5
 obtain⟨w0,hw0⟩:∃ w0,w0=w.alloc (.cells #[.int .u8 (x.toNat:Int)] 5):=⟨_,rfl⟩
 rw[<-hw0]
 have hb0:Below w.heap.size w w0:=by rw[hw0];exact(Below.refl _ _).alloc (Nat.le_refl _) _
 have hg:b<w.heap.size:=h5 b h3
 have ho0:w0.ownsRow 0 5 1 v P.length (P.map cellOf):=by
  refine⟨h2.1,?_⟩
  rcases h2.2 with h0|⟨q,cap,cur,rfl,hlow,hq,h7⟩
  ·exact .inl h0
  ·exact .inr ⟨q,cap,cur,rfl,hlow,by rw[hb0.block q (Array.getElem?_eq_some_iff.1 hq).1];exact hq,h7⟩
 have hcell:∀ j u,([.int .u8 (x.toNat:Int)]:List Value)[j]?=some u->w0.cell? ((⟨w.heap.size,0,none⟩:Addr).add j)=some u:=by
  rw[hw0];exact World.news_of_block (w:=w.alloc (.cells #[.int .u8 (x.toNat:Int)] 5)) (cs:=#[.int .u8 (x.toNat:Int)]) (t:=5) (fr:=(0,0)) (heap_alloc_new w _)
 have hs0:w0.heap.size=w.heap.size+1:=by rw[hw0];simp
 obtain⟨v',w1,hrun,ho1,hgr,_,hown⟩:=run_append_own_at (P:=Tryz.prog) w0 0 22 22 5 i5 (.int .u8 0) 1 1 Tryz.underlying22 hi hz0 hz1 hz2 rfl (by omega) v P.length (P.map cellOf) ho0 ⟨w.heap.size,0,none⟩ 1 1 [.int .u8 (x.toNat:Int)] rfl hcell (by simp[Value.oneCell']) (by unfold maxLen;omega) (by omega) (by omega)
 obtain⟨q,cap,rfl⟩:∃ q cap,v'=.slice (some ⟨q,0,none⟩) (P.length+1) cap:=by
  rcases ho1.2 with ⟨_,h0⟩|⟨q,cap,cur,rfl,_⟩
  ·omega
  ·exact⟨q,cap,rfl⟩
 have hgv:v.ownBlock≠some b:=by
  intro e
  rcases h2.2 with ⟨rfl,_⟩|⟨q,cap,cur,rfl,_,hq,_⟩
  ·simp[Value.ownBlock] at e
  ·obtain rfl:q=b:=by simpa [Value.ownBlock] using e
   rw[h1] at hq;simp at hq;exact hty hq.2
 have hg1:w1.heap[b]?=some (.cells (.bool true::v :: .int .i64 (sz:Int)::R).toArray ty (0,0)):=by rw[hgr.block b (by omega) (λe=>hgv e.symm),hb0.block b hg];exact h1
 have hap:Apart F w w1:=(Apart.of_below hb0).grown hgr (λk hk=>.inl (h4 k hk))
 have hqn:q≠b:=by
  rintro rfl
  rcases ho1.2 with ⟨_,h0⟩|⟨q',cap',cur',he,_,hq',_⟩
  ·omega
  ·simp only[Value.slice.injEq,Option.some.injEq,Addr.mk.injEq] at he
   rw[<-he.1.1,hg1] at hq';simp at hq';exact hty hq'.2
 refine⟨some ⟨q,0,none⟩,cap,w1,hrun,cell_of_row _ _ 1 _ _ _ hg1,frozen_of_row _ _ 1 _ _ hg1,λk=>k=b\/(k=q/\k<w1.heap.size),⟨.slice (some ⟨q,0,none⟩) (P.length+1) cap,?_,?_,.inl rfl,?_,?_⟩,hap.setCell (.inl h3) 1 _,?_⟩
 ·rw[heap_setCell_same _ _ _ _ _ _ hg1];rfl
 ·have h6:w1.ownsRow 0 5 1 (.slice (some ⟨q,0,none⟩) (P.length+1) cap) (P++[x]).length ((P++[x]).map cellOf):=by rw[List.map_append,List.length_append];exact ho1
  refine⟨h6.1,?_⟩
  rcases h6.2 with ⟨h0,_⟩|⟨q',cap',cur,he,hlow,hq',h7⟩
  ·cases h0
  ·refine .inr ⟨q',cap',cur,he,hlow,?_,h7⟩
   simp only[Value.slice.injEq,Option.some.injEq,Addr.mk.injEq] at he
   rw[heap_setCell_other _ _ _ _ (by rw[<-he.1.1];exact hqn)];exact hq'
 ·intro k hk
  obtain rfl:q=k:=by simpa [Value.ownBlock] using hk
  rcases ho1.2 with ⟨h0,_⟩|⟨q',cap',cur,he,hlow,hq',h7⟩
  ·cases h0
  ·simp only[Value.slice.injEq,Option.some.injEq,Addr.mk.injEq] at he
   exact .inr ⟨rfl,by rw[he.1.1];exact(Array.getElem?_eq_some_iff.1 hq').1⟩
 ·rintro k (rfl|⟨_,hk⟩)
  ·simpa using (show k<w1.heap.size from (Array.getElem?_eq_some_iff.1 hg1).1)
  ·simpa using hk
 ·rintro k (rfl|⟨rfl,_⟩)
  ·exact .inl h3
  ·rcases hown with h|h
   ·exact .inl (h4 k (by rw[<-h];rfl))
   ·have h9:k=w0.heap.size:=by simpa [Value.ownBlock] using h
    exact .inr (by omega)
theorem row_store {ty:TypeId}{R:List Value}{w:World}{b sz:Nat}{P:List UInt8}{F:Nat->Prop}(hty:ty≠5)(h:RowP ty R w b (sz,P) F)(q cd j:Nat)(hc:w.cell? ⟨b,1,none⟩=some (.slice (some ⟨q,0,none⟩) P.length cd))(y:UInt8):
  RowP ty R (w.setCell ⟨q,j,none⟩ (.int .u8 (y.toNat:Int))) b (sz,P.set j y) F/\F q:=by
 obtain⟨v,h1,h2,h3,h4,h5⟩:=h
 have hv:v=.slice (some ⟨q,0,none⟩) P.length cd:=by
  have h6:=cell_of_row _ _ 1 _ _ _ h1
  rw[hc] at h6
  simpa using h6.symm
 subst hv
 have hqb:b≠q:=by
  rintro rfl
  rcases h2.2 with ⟨h0,_⟩|⟨q',cap',cur',he,_,hq',_⟩
  ·cases h0
  ·simp only[Value.slice.injEq,Option.some.injEq,Addr.mk.injEq] at he
   rw[<-he.1.1,h1] at hq';simp at hq';exact hty hq'.2
 have hFq:F q:=h4 q rfl
 obtain⟨h6,_⟩:=h2.stored j (.int .u8 (y.toNat:Int))
 refine⟨⟨.slice (some ⟨q,0,none⟩) P.length cd,by rw[heap_setCell_other _ _ _ _ hqb];exact h1,?_,h3,h4,λk hk=>by simpa using h5 k hk⟩,hFq⟩
 simp only[List.length_set,List.map_set]
 exact h6
theorem row_size {ty:TypeId}{R:List Value}{w:World}{b sz:Nat}{P:List UInt8}{F:Nat->Prop}(hty:ty≠5)(h:RowP ty R w b (sz,P) F)(m:Nat):RowP ty R (w.setCell ⟨b,2,none⟩ (.int .i64 (m:Int))) b (m,P) F:=by
 obtain⟨v,h1,h2,h3,h4,h5⟩:=h
 refine⟨v,by rw[heap_setCell_same _ _ _ _ _ _ h1];rfl,?_,h3,h4,λk hk=>by simpa using h5 k hk⟩
 refine⟨h2.1,?_⟩
 rcases h2.2 with h0|⟨q,cap,cur,rfl,hlow,hq,h7⟩
 ·exact .inl h0
 ·refine .inr ⟨q,cap,cur,rfl,hlow,?_,h7⟩
  rw[heap_setCell_other _ _ _ _ (by rintro rfl;rw[h1] at hq;simp at hq;exact hty hq.2)];exact hq
theorem wpList_bstore_run {P:Program}{ops:Array Oper}{rest:List Oper}{o:Oper}{a:Act}{w w':World}{Q:Exit->Act->World->Prop}(hgd:o.guard=none)(ty:TypeId)(x y:Operand)(ho:o.op=.store ty x y)(v u:Value)(hx:a.eval x=v)(hy:a.eval y=u)(hrun:(Instr.storeAt ty v u).run P w=.ok () w')(h:wpList P ops Q rest (a.put o.dst undef) w'):wpList P ops Q (o::rest) a w:=by
 refine wpList_plain hgd λK hK=>?_
 unfold Oper.wp execOp
 simp only[ho,hx,hy,Sem.run_bind,hrun,Result.andThen_ok,Sem.run_pure]
 exact hK _ _ h
theorem add_ok (ty:TypeId)(R:List Value)(hty:ty≠5)(w:World)(b:Nat)(bs:List Bool)(F:Nat->Prop)(h:RowB ty R w b bs F)(n W:Nat)(hn:n<18446744073709551616)(hW:W<=64)(hl:bs.length+W<=8192):
  Calls Tryz.prog 110 #[.pointer (some ⟨b,0,none⟩),.int .u64 (n:Int),.int .i64 (W:Int)] w λe w'=>(∃ r,e=.returned r)/\Left (RowB ty R) w F b (bs++bitsN n W) w':=by
 have HN:Hid (n<18446744073709551616):=hn
 have hbl:Hid (bs.length+W<=8192):=hl
 have hLw:Left (RowB ty R) w F b (bs++(bitsN n W).take 0) w:=⟨F,by rw[List.take_zero,List.append_nil];exact h,Apart.refl _ _,λ_ h=>.inl h⟩
 clear hn hl h
 go_enter Tryz.func110,Tryz.ntmps110
 go_wp2
 go_loopw [2,6,7] (λv _ _ wr=>∃ k:Nat,k<=W/\v=.int .i64 ((W-k:Nat):Int)/\Left (RowB ty R) w F b (bs++(bitsN n W).take k) wr) (λv _ _ _=>(intOf v).toNat)
 case atStart=>exact⟨0,Nat.zero_le _,rfl,hLw⟩
 case round=>
  obtain⟨k,hk,rfl,F1,hM,hap,hF1⟩:=hrel
  clear hLw
  by_cases hlt:k<W
  ·obtain⟨B,hB⟩:∃ B,B=bs++(bitsN n W).take k:=⟨_,rfl⟩
   have hBl:B.length=bs.length+k:=by rw[hB,List.length_append,List.length_take,bitsN_length];omega
   rw[<-hB] at hM
   obtain⟨L,hL⟩:∃ L,L=B.length:=⟨_,rfl⟩
   obtain⟨v,hv⟩:∃ v,v=W-k:=⟨_,rfl⟩
   obtain⟨q,hq⟩:∃ q,q=L/8:=⟨_,rfl⟩
   obtain⟨u,hu⟩:∃ u,u=L%8:=⟨_,rfl⟩
   obtain⟨y,hy⟩:∃ y,y=8-u:=⟨_,rfl⟩
   obtain⟨s,hs⟩:∃ s,s=min y v:=⟨_,rfl⟩
   obtain⟨t,ht⟩:∃ t,t=8-s:=⟨_,rfl⟩
   obtain⟨v2,hv2⟩:∃ v2,v2=v-s:=⟨_,rfl⟩
   obtain⟨x,hx⟩:∃ x,(packN B (q+1))[q]?=some x:=⟨_,packN_at _ _ _ (by omega)⟩
   obtain⟨N,hN⟩:∃ N,N=n/2^v2:=⟨_,rfl⟩
   obtain⟨c,hc⟩:∃ c,c=UInt8.ofNat (N%2^s*2^(8-u-s)):=⟨_,rfl⟩
   have hadd:=pack_add B q u N s (by omega) (by omega) x hx
   rw[<-hc] at hadd
   obtain⟨z,hz⟩:∃ z,z=x|||c:=⟨_,rfl⟩
   rw[<-hz] at hadd
   have hBs:bs++(bitsN n W).take (k+s)=B++bitsN N s:=by
    rw[hB,List.append_assoc,List.take_add,bitsN_drop,bitsN_first n (W-k) s (by omega),hN,hv2,hv]
   have hfin:packL (B++bitsN N s)=(packN B (q+1)).set q z:=by
    rw[<-hadd];exact packL_part _ q (by rw[List.length_append,bitsN_length];omega) (by rw[List.length_append,bitsN_length];omega)
   have hlen:(B++bitsN N s).length=L+s:=by rw[List.length_append,bitsN_length,hL]
   have hrest:∀ w2 F2,RowP ty R w2 b (L,packN B (q+1)) F2->Apart F w w2->(∀ i,F2 i->F i\/w.heap.size<=i)->∀ qb cd,w2.cell? ⟨b,1,none⟩=some (.slice (some ⟨qb,0,none⟩) (q+1) cd) ->
     ∀ m,Left (RowB ty R) w F b (bs++(bitsN n W).take (k+s)) (((w2.setCell ⟨qb,q,none⟩ (.int .u8 (z.toNat:Int))).drewN m).setCell ⟨b,2,none⟩ (.int .i64 ((L+s:Nat):Int))):=by
    intro w2 F2 hR ha2 hF2 qb cd hcell m
    obtain⟨h1,h2⟩:=row_store hty hR qb cd q (by rw[packN_length];exact hcell) z
    refine⟨F2,?_,?_,hF2⟩
    ·rw[hBs]
     unfold RowB
     rw[hlen,hfin]
     exact row_size hty ((rowP_kept ty R).keep h1 (w':=(w2.setCell ⟨qb,q,none⟩ (.int .u8 (z.toNat:Int))).drewN m) (λ_ _=>rfl)) (L+s)
    ·have h3:Apart F w (w2.setCell ⟨qb,q,none⟩ (.int .u8 (z.toNat:Int))):=ha2.setCell (hF2 qb h2) q _
     have h4:Apart F w ((w2.setCell ⟨qb,q,none⟩ (.int .u8 (z.toNat:Int))).drewN m):=⟨h3.os,h3.tape,h3.output,h3.size,h3.block⟩
     exact h4.setCell (hF2 b (by obtain⟨_,_,_,h5,_⟩:=hR;exact h5)) 2 _
   have hs0:0<s:=by omega
   have hNm:N<18446744073709551616:=by rw[hN];exact Nat.lt_of_le_of_lt (Nat.div_le_self _ _) HN.out
   obtain⟨N8,hN8⟩:∃ N8,N8=N%256:=⟨_,rfl⟩
   obtain⟨X,hX⟩:∃ X,X=N8*2^t%256:=⟨_,rfl⟩
   have dN:(n:Int)/2^v2=(N:Int):=by rw[hN];simp
   have wN:IntKind.u8.wrap (N:Int)=(N8:Int):=by rw[IntKind.wrap_u8];omega
   have wX:IntKind.u8.wrap ((N8:Int)*2^t)=(X:Int):=by
    have h1:(N8:Int)*2^t=((N8*2^t:Nat):Int):=by simp
    rw[h1,IntKind.wrap_u8,hX];omega
   have dX:(X:Int)/2^u=(c.toNat:Int):=by
    have h1:(X:Int)/2^u=((X/2^u:Nat):Int):=by simp
    have h2:=add_byte N u s (by omega)
    have h3:X/2^u<256:=by
     have:X<256:=by rw[hX];exact Nat.mod_lt _ (by omega)
     exact Nat.lt_of_le_of_lt (Nat.div_le_self _ _) this
    rw[<-hN8,<-ht,<-hX] at h2
    rw[h1,hc,UInt8.toNat_ofNat',<-h2,Nat.mod_eq_of_lt h3]
   have eor:bits .or .u8 (x.toNat:Int) (c.toNat:Int)=(z.toNat:Int):=by rw[hz];exact bor x c
   have u1:(L:Int)%8=(u:Int):=by omega
   have u2:(L:Int).tmod 8=(u:Int):=by rw[Int.tmod_eq_emod_of_nonneg (by omega)];exact u1
   have y1:8-(u:Int)=(y:Int):=by omega
   have y2:IntKind.i64.wrap (8-(u:Int))=(y:Int):=by rw[IntKind.wrap_i64];omega
   have t1:8-(s:Int)=(t:Int):=by omega
   have t2:IntKind.i64.wrap (8-(s:Int))=(t:Int):=by rw[IntKind.wrap_i64];omega
   have v1:(v:Int)-(s:Int)=(v2:Int):=by omega
   have v3:IntKind.i64.wrap ((v:Int)-(s:Int))=(v2:Int):=by rw[IntKind.wrap_i64];omega
   obtain⟨L2,hL2⟩:∃ L2,L2=L+s:=⟨_,rfl⟩
   have l1:(L:Int)+(s:Int)=(L2:Int):=by omega
   have hv64:v<=64:=by omega
   have hv0:0<v:=by omega
   have hu8:u<8:=by omega
   have hLm:L<=8192:=by have:=hbl.out;omega
   have m1:min v2 64=v2:=by omega
   have m2:min u 8=u:=by omega
   have m3:min t 8=t:=by omega
   have HP:Hid (v=W-k/\v2=v-s/\s<=v/\0<s/\k<=W):=⟨hv,hv2,by omega,hs0,hk⟩
   have hsc:s=y/\y<=v\/s=v/\¬ y<=v:=by omega
   obtain⟨q3,hq3⟩:∃ q3,q3=q+1:=⟨_,rfl⟩
   have lq:(q3:Int)-1=(q:Int):=by omega
   have lq2:IntKind.i64.wrap ((q3:Int)-1)=(q:Int):=by rw[IntKind.wrap_i64];omega
   have gq1:(q:Int)<(q3:Int):=by omega
   have gq0:(0:Int)<=(q:Int):=Int.natCast_nonneg _
   have hq3m:q3<=2000:=by omega
   rw[<-hv]
   by_cases hu0:u=0
   ·have du:((u:Int)==0)=true:=by simp[hu0]
    have hPl:packL B=packN B q:=by unfold packL;congr 1;omega
    obtain⟨vv,g1,g2,g3,g4,g5⟩:=hM
    obtain⟨d1,cd1,w1,hrun,e1,e2,F2,hM2,hap2,hF2⟩:=row_more hty g1 g2 g3 g4 g5 (by simp only[packL_length];omega) 0
    have hq4:(packL B).length+1=q3:=by rw[hPl,packN_length];omega
    simp only[hq4] at hrun hM2 hap2
    rw[hPl,<-packN_more B q (by omega),<-hL] at hM2
    obtain⟨W2,hW2⟩:∃ W2,W2=w1.setCell ⟨b,1,none⟩ (.slice d1 q3 cd1):=⟨_,rfl⟩
    rw[<-hW2] at hM2 hap2
    have hap':Apart F w W2:=hap.trans hap2 hF1
    have hF':∀ i,F2 i->F i\/w.heap.size<=i:=λi hi=>by
     rcases hF2 i hi with h|h
     ·exact hF1 i h
     ·have:=hap.size;exact .inr (by omega)
    obtain⟨d,cd,c0,c1,c2,fz,hse,hdd,hown⟩:=hM2.reads
    rw[packN_length,<-hq3] at c1
    obtain⟨qb,rfl⟩:∃ qb,d=some ⟨qb,0,none⟩:=by
     rcases hown.2 with ⟨h0,_⟩|⟨g,cap,cur,he,_⟩
     ·simp[packN_length] at h0
     ·simp only[Value.slice.injEq] at he;exact⟨g,he.1⟩
    obtain⟨b1,o1,hb1,hcx⟩:=hse.get hx
    simp only[Option.some.injEq,Addr.mk.injEq,and_true] at hb1
    obtain⟨rfl,rfl⟩:=hb1
    have fq:W2.frozen? ⟨qb,q,none⟩=false:=hown.frozenAt q
    have f2:W2.frozen? ⟨b,2,none⟩=false:=fz 2
    have HE:=hrest W2 F2 hM2 hap' hF' qb cd (by rw[c1,hq3])
    rw[<-hL2] at HE
    have HE2:Hid (∀ m,Left (RowB ty R) w F b (bs++(bitsN n W).take (k+s)) (((W2.setCell ⟨qb,q,none⟩ (.int .u8 (z.toNat:Int))).drewN m).setCell ⟨b,2,none⟩ (.int .i64 (L2:Int)))):=HE
    have hqb:qb≠b:=by
     rintro rfl
     have h5:W2.cell? ⟨qb,0,none⟩=some (.bool true):=c0
     have h6:=hse.get (k:=0) (List.getElem?_eq_getElem (by rw[packN_length];omega))
     obtain⟨b2,o2,hb2,hc2⟩:=h6
     simp only[Option.some.injEq,Addr.mk.injEq,and_true] at hb2
     rw[<-hb2.1,<-hb2.2,h5] at hc2
     simp at hc2
    simp only[Nat.zero_add] at hcx
    have c2':∀ m,((W2.setCell ⟨qb,q,none⟩ (.int .u8 (z.toNat:Int))).drewN m).cell? ⟨b,2,none⟩=some (.int .i64 (L:Int)):=λm=>by
     have h7:(W2.setCell ⟨qb,q,none⟩ (.int .u8 (z.toNat:Int))).cell? ⟨b,2,none⟩=W2.cell? ⟨b,2,none⟩:=World.cell?_of_block (heap_setCell_other _ _ _ _ hqb.symm)
     have h8:(W2.setCell ⟨qb,q,none⟩ (.int .u8 (z.toNat:Int))).cell? ⟨b,2,none⟩=some (.int .i64 (L:Int)):=h7.trans c2
     exact h8
    have k1:wr.cell? ⟨b,1,none⟩=some vv:=cell_of_row _ _ 1 _ _ _ g1
    have k2:wr.cell? ⟨b,2,none⟩=some (.int .i64 (L:Int)):=by rw[hL];exact cell_of_row _ _ 2 _ _ _ g1
    have HR:Hid ((Builtin.append_ #[22,22] 22 #[vv,.slice (some ⟨wr.heap.size,0,none⟩) 1 1]).run Tryz.prog (wr.alloc (.cells #[.int .u8 0] 5))=.ok (.slice d1 q3 cd1) w1):=hrun
    have hst:(Instr.storeAt 22 (.pointer (some ⟨b,1,none⟩)) (.slice d1 q3 cd1)).run Tryz.prog w1=.ok () W2:=by
     rw[hW2]
     simp[Instr.storeAt,Instr.sureAddr,e1,e2,go_sem]
    have HST:Hid ((Instr.storeAt 22 (.pointer (some ⟨b,1,none⟩)) (.slice d1 q3 cd1)).run Tryz.prog w1=.ok () W2):=hst
    clear hM2 hPl g1 g2 g3 g4 g5 hse hdd hown HE hrest hap hap2 hap' hF1 hF2 hF' hadd hBs hfin hlen hB hBl hL hv hq hu hy hs ht hv2 hN hc hz hx hNm hN8 hX fz hq3 c0 hk hlt hs0 hL2 hW2 hrun hq4 e1 e2 hu0 hst
    rcases hsc with ⟨rfl,hyv⟩|⟨rfl,hyv⟩
    all_goals
     go_wp2_with (first|refine wpList_append_run rfl _ _ 22 rfl _ _ _ rfl rfl HR.out ?_|refine wpList_bstore_run rfl 22 _ _ rfl _ _ rfl rfl HST.out ?_)
     go_region
     go_wp2
     go_roundw
     case rel=>
      have h1:=HP.out
      exact⟨k+s,by omega,by first|go_num|(congr 1;omega),HE2.out 1⟩
     case measure=>have h1:=HP.out;simp[intOf];omega
   ·have hP:packL B=packN B (q+1):=packL_part B q (by omega) (by omega)
    have hM2:RowP ty R wr b (L,packN B (q+1)) F1:=by rw[<-hP,hL];exact hM
    obtain⟨d,cd,c0,c1,c2,fz,hse,hdd,hown⟩:=hM2.reads
    rw[packN_length,<-hq3] at c1
    obtain⟨qb,rfl⟩:∃ qb,d=some ⟨qb,0,none⟩:=by
     rcases hown.2 with ⟨h0,_⟩|⟨g,cap,cur,he,_⟩
     ·simp[packN_length] at h0
     ·simp only[Value.slice.injEq] at he;exact⟨g,he.1⟩
    obtain⟨b1,o1,hb1,hcx⟩:=hse.get hx
    simp only[Option.some.injEq,Addr.mk.injEq,and_true] at hb1
    obtain⟨rfl,rfl⟩:=hb1
    have fq:wr.frozen? ⟨qb,q,none⟩=false:=hown.frozenAt q
    have f2:wr.frozen? ⟨b,2,none⟩=false:=fz 2
    have HE:=hrest wr F1 hM2 hap hF1 qb cd (by rw[c1,hq3])
    rw[<-hL2] at HE
    have HE2:Hid (∀ m,Left (RowB ty R) w F b (bs++(bitsN n W).take (k+s)) (((wr.setCell ⟨qb,q,none⟩ (.int .u8 (z.toNat:Int))).drewN m).setCell ⟨b,2,none⟩ (.int .i64 (L2:Int)))):=HE
    have du:((u:Int)==0)=false:=by simp[hu0]
    have hqb:qb≠b:=by
     rintro rfl
     have h5:wr.cell? ⟨qb,0,none⟩=some (.bool true):=c0
     have h6:=hse.get (k:=0) (List.getElem?_eq_getElem (by rw[packN_length];omega))
     obtain⟨b2,o2,hb2,hc2⟩:=h6
     simp only[Option.some.injEq,Addr.mk.injEq,and_true] at hb2
     rw[<-hb2.1,<-hb2.2,h5] at hc2
     simp at hc2
    simp only[Nat.zero_add] at hcx
    have c2':∀ m,((wr.setCell ⟨qb,q,none⟩ (.int .u8 (z.toNat:Int))).drewN m).cell? ⟨b,2,none⟩=some (.int .i64 (L:Int)):=λm=>by
     have h7:(wr.setCell ⟨qb,q,none⟩ (.int .u8 (z.toNat:Int))).cell? ⟨b,2,none⟩=wr.cell? ⟨b,2,none⟩:=World.cell?_of_block (heap_setCell_other _ _ _ _ hqb.symm)
     have h8:(wr.setCell ⟨qb,q,none⟩ (.int .u8 (z.toNat:Int))).cell? ⟨b,2,none⟩=some (.int .i64 (L:Int)):=h7.trans c2
     exact h8
    clear hM hM2 hP hse hdd hown HE hrest hap hF1 hadd hBs hfin hlen hB hBl hL hv hq hu hy hs ht hv2 hN hc hz hx hNm hN8 hX fz hq3 c0 hk hlt hs0 hL2
    rcases hsc with ⟨rfl,hyv⟩|⟨rfl,hyv⟩
    all_goals
     go_wp2
     go_region
     go_wp2
     go_roundw
     case rel=>
      have h1:=HP.out
      exact⟨k+s,by omega,by first|go_num|(congr 1;omega),HE2.out 1⟩
     case measure=>have h1:=HP.out;simp[intOf];omega
  ·obtain rfl:k=W:=by omega
   have hz:k-k=0:=by omega
   rw[hz]
   have hT:(bitsN n k).take k=bitsN n k:=by rw[List.take_of_length_le];rw[bitsN_length];exact Nat.le_refl _
   have HE:Hid (Left (RowB ty R) w F b (bs++bitsN n k) wr):=⟨F1,by rw[<-hT];exact hM,hap,hF1⟩
   clear hM hap hF1 hT
   go_wp2
   go_end0
   exact⟨⟨_,rfl⟩,HE.out⟩
end Go.Proofs.YthogohkieiogiaaGreatDoor
