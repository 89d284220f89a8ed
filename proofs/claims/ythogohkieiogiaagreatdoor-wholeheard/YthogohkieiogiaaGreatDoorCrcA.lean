/-
  The contracts of the document's Of, Head, Whole, Fix and Good of layer 5.

  What package crc must say, as propositions; the statements' walks out of them.

  The contracts of up, fits, asBytes and bytes.Equal.
  The contracts of each: the bits of bytes, the bits of one number.

  The sum, over the bits that each hands over.

  The walk of CrcGood, out of what package crc must say.

  The contracts of Of, Head, Whole, Fix and Good.
-/
import Derived.Test.YthogohkieiogiaaGreatDoorBitsA
import Derived.Shelf.Abstract
import Derived.Shelf.RegionOpen
import Derived.OwnWalkIn
import Derived.TacticsInMore
import Derived.LoopNIn
import Derived.LoopIn
namespace Go.Proofs.YthogohkieiogiaaGreatDoor
set_option maxRecDepth 100000
set_option maxHeartbeats 4000000
open Go.ChangeShapes Go.WideShapes Go.ChangeAt Go.RowKit
theorem and_mask (n W:Nat)(hW:W<=32)(h:n<18446744073709551616):bits .and .u64 (n:Int) (((2^W-1:Nat)):Int)=((n%2^W:Nat):Int):=by
 have h2:2^W<=2^32:=Nat.pow_le_pow_right (by omega) hW
 have:=u64_and_nat n (2^W-1) h (by omega)
 rw[Nat.and_two_pow_sub_one_eq_mod] at this
 exact this
theorem runS_take (W P s:Nat)(l:List Bool)(k:Nat)(b:Bool)(h:l[k]?=some b):runS W P s (l.take (k+1))=stepS W P (runS W P s (l.take k)) b:=by
 rw[List.take_add_one,h,runS_app];rfl
theorem sum3_cells (s:Nat)(h:s<16777216):(sum3 s).map cellOf=[.int .u8 ((s:Int)/65536),.int .u8 ((s:Int)/256%256),.int .u8 ((s:Int)%256)]:=by
 have h1:(s:Int)/65536=((s/65536%256:Nat):Int):=by omega
 simp only[sum3,List.map_cons,List.map_nil,cellOf,UInt8.toNat_ofNat',h1]
 simp
theorem goodL_short (l:List UInt8)(h:l.length<3):goodL l=false:=by unfold goodL;simp;omega
def Gives (w w':World)(e:Ending)(p:List UInt8->Prop):Prop:=∃ d cd r,Hid (p r)/\e=.returned (.slice d r.length cd)/\Sees w' d cd r/\Below w.heap.size w w'/\w'.ownsRow w.heap.size 5 1 (.slice d r.length cd) r.length (r.map cellOf)
def CwholeOk:Prop:=∀ (w:World) (a:Option Addr) (ca:Nat) (l:List UInt8),Sees w a ca l->l.length<=140737488355000->Calls Tryz.prog 71 #[.slice a l.length ca] w λe w'=>e=.returned (.int .u32 ((wholeL l:Nat):Int))/\Below w.heap.size w w'
def CfixOk:Prop:=∀ (w:World) (a:Option Addr) (ca:Nat) (l:List UInt8),Sees w a ca l->l.length<=140737488355000->Calls Tryz.prog 46 #[.slice a l.length ca] w λe w'=>Gives w w' e (λr=>r=fixL l)
def CgoodOk:Prop:=∀ (w:World) (a:Option Addr) (ca:Nat) (l:List UInt8),Sees w a ca l->l.length<=140737488355000->Calls Tryz.prog 38 #[.slice a l.length ca] w λe w'=>e=.returned (.bool (goodL l))/\Below w.heap.size w w'
theorem top_div (W x:Nat)(hW:1<=W)(hx:x<2^W):x/2^(W-1)=(x.testBit (W-1)).toNat:=by
 rw[<-bit_mod]
 have h:2^W=2^(W-1)*2:=by rw[<-Nat.pow_succ];congr 1;omega
 have:x/2^(W-1)<2:=by rw[Nat.div_lt_iff_lt_mul (Nat.two_pow_pos _)];omega
 exact(Nat.mod_eq_of_lt this).symm
theorem and_mask32 (n W:Nat)(hW:W<=32)(h:n<4294967296):bits .and .u32 (n:Int) (((2^W-1:Nat)):Int)=((n%2^W:Nat):Int):=by
 have h2:2^W<=2^32:=Nat.pow_le_pow_right (by omega) hW
 have:=u32_and_nat n (2^W-1) h (by omega)
 rw[Nat.and_two_pow_sub_one_eq_mod] at this
 exact this
theorem up32_ok (w:World)(W x:Nat)(hW1:1<=W)(hW32:W<=32)(hx:x<2^W):
  Calls Tryz.prog 149 #[.int .u32 (x:Int),.int .i64 (W:Int)] w λe w'=>e=.returned (.tuple #[.int .u32 (((x.testBit (W-1)).toNat:Nat):Int),.int .u32 ((x*2%2^W:Nat):Int)])/\w'=w:=by
 have h32:2^W<=4294967296:=by have:=Nat.pow_le_pow_right (n:=2) (i:=W) (j:=32) (by omega) hW32;omega
 have g0:(0:Int)<=(W:Int):=Int.natCast_nonneg _
 have ew2:(W:Int)-1=((W-1:Nat):Int):=by omega
 have ew:IntKind.i64.wrap ((W:Int)-1)=((W-1:Nat):Int):=by rw[IntKind.wrap_i64];omega
 obtain⟨V,hV⟩:∃ V,V=W-1:=⟨_,rfl⟩
 obtain⟨t,ht⟩:∃ t,t=(x.testBit (W-1)).toNat:=⟨_,rfl⟩
 have et:(x:Int)/2^V=(t:Int):=by
  have:=top_div W x hW1 hx
  rw[<-ht,<-hV] at this
  rw[<-this];simp
 obtain⟨u,hu⟩:∃ u,u=x*2%2^W:=⟨_,rfl⟩
 obtain⟨M,hM⟩:∃ M,M=2^W:=⟨_,rfl⟩
 have hMp:0<M:=by rw[hM];exact Nat.two_pow_pos W
 have e2w:(2:Int)^W=(M:Int):=by rw[hM];simp
 have wm:IntKind.u32.wrap (IntKind.u32.wrap (M:Int)-1)=(M:Int)-1:=by rw[IntKind.wrap_u32,IntKind.wrap_u32];omega
 rw[<-ht,<-hu]
 rw[<-hV] at ew ew2
 have eu:bits .and .u32 ((x:Int)*2%4294967296) (((M:Int)-1)%4294967296)=(u:Int):=by
  have h1:=and_mask32 (x*2%4294967296) W hW32 (by omega)
  have h2:((2^W-1:Nat):Int)=(M:Int)-1:=by rw[<-hM];omega
  have h3:(x:Int)*2%4294967296=((x*2%4294967296:Nat):Int):=by omega
  have h5:((M:Int)-1)%4294967296=(M:Int)-1:=by omega
  have h4:x*2%4294967296%2^W=x*2%2^W:=Nat.mod_mod_of_dvd _ (Nat.pow_dvd_pow 2 hW32)
  rw[h2,h4,<-hu] at h1
  rw[h3,h5];exact h1
 have HX:Hid (x<2^W):=hx
 have H32:Hid (2^W<=4294967296):=h32
 clear ht hV hu hM hx h32
 go_enter Tryz.func149,Tryz.ntmps149
 go_wp2
 go_ret2
 exact⟨rfl,rfl⟩
theorem up8_ok (w:World)(x:Nat)(hx:x<256):
  Calls Tryz.prog 178 #[.int .u8 (x:Int),.int .i64 8] w λe w'=>e=.returned (.tuple #[.int .u32 (((x.testBit 7).toNat:Nat):Int),.int .u8 ((x*2%256:Nat):Int)])/\w'=w:=by
 obtain⟨t,ht⟩:∃ t,t=(x.testBit 7).toNat:=⟨_,rfl⟩
 have et:(x:Int)/128=(t:Int):=by
  have:=top_div 8 x (by omega) hx
  rw[<-ht] at this
  rw[<-this];simp
 obtain⟨u,hu⟩:∃ u,u=x*2%256:=⟨_,rfl⟩
 have eu:bits .and .u8 ((x:Int)*2%256) 255=(u:Int):=by
  have hul:u<256:=by omega
  have h1:=u8_and_nat u 255 (by omega) (by omega)
  have h2:u&&&255=u:=(Nat.and_two_pow_sub_one_eq_mod u 8).trans (Nat.mod_eq_of_lt hul)
  rw[h2] at h1
  have h3:(x:Int)*2%256=(u:Int):=by omega
  rw[h3];exact h1
 have t2:t<2:=by rw[ht];cases x.testBit 7<;>decide
 rw[<-ht,<-hu]
 clear ht hu
 go_enter Tryz.func178,Tryz.ntmps178
 go_wp2
 go_ret2
 exact⟨by first|rfl|(rw[eu];rfl),rfl⟩
theorem asbytes_ok (w:World)(s:Nat)(hs:s<16777216):
  Calls Tryz.prog 70 #[.int .u32 (s:Int)] w λe w'=>∃ d cd,e=.returned (.slice d 3 cd)/\Sees w' d cd (sum3 s)/\Below w.heap.size w w':=by
 have hsx:=sees_lit w (sum3 s) 5 (0,0) (by simp[sum3])
 rw[sum3_cells s hs] at hsx
 have HS:Hid (Sees (w.alloc (.cells #[.int .u8 ((s:Int)/65536),.int .u8 ((s:Int)/256%256),.int .u8 ((s:Int)%256)] 5)) (some ⟨w.heap.size,0,none⟩) 3 (sum3 s)):=hsx
 clear hsx
 go_enter Tryz.func70,Tryz.ntmps70
 go_wp2
 go_ret
 exact⟨_,_,rfl,HS.out,(Below.refl _ _).alloc (Nat.le_refl _) _⟩
theorem equal_ok (w:World)(a b:Option Addr)(ca cb:Nat)(l m:List UInt8)(ha:Sees w a ca l)(hb:Sees w b cb m):
  Calls Tryz.prog 50 #[.slice a l.length ca,.slice b m.length cb] w λe w'=>e=.returned (.bool (l==m))/\w'=w:=by
 have e1:=ha.convert (P:=Tryz.prog) 22 5 9 Tryz.underlying22 Tryz.underlying5 Tryz.underlying9
 have e2:=hb.convert (P:=Tryz.prog) 22 5 9 Tryz.underlying22 Tryz.underlying5 Tryz.underlying9
 clear ha hb
 go_enter Tryz.func50,Tryz.ntmps50
 go_wp2
 go_ret
 exact⟨by first|rfl|simp,rfl⟩
open Go.ChangeShapes Go.WideShapes Go.ChangeAt Go.RowKit Go.Shelf
attribute [local go_sem] Oper.semAt_some
def leftN (W x j:Nat):Nat:=x*2^j%2^W
theorem leftN_zero (W x:Nat)(h:x<2^W):leftN W x 0=x:=by unfold leftN;rw[Nat.pow_zero,Nat.mul_one,Nat.mod_eq_of_lt h]
theorem leftN_next (W x j:Nat):leftN W x j*2%2^W=leftN W x (j+1):=by
 unfold leftN;rw[Nat.mod_mul_mod,Nat.mul_assoc,<-Nat.pow_succ]
theorem leftN_lt (W x j:Nat):leftN W x j<2^W:=Nat.mod_lt _ (Nat.two_pow_pos W)
theorem leftN_top (W x j:Nat)(hj:j<W):(leftN W x j).testBit (W-1)=x.testBit (W-1-j):=by
 unfold leftN
 have h1:W-1<W:=by omega
 have h2:j<=W-1:=by omega
 rw[Nat.testBit_mod_two_pow,Nat.mul_comm,Nat.testBit_two_pow_mul]
 simp[h1,h2]
theorem bits_at8 (L:List UInt8)(i j:Nat)(x:UInt8)(hx:L[i]?=some x)(hj:j<8):(bitsOf L)[8*i+j]?=some (x.toNat.testBit (7-j)):=by
 have h1:(8*i+j)/8=i:=by omega
 have h2:(8*i+j)%8=j:=by omega
 have:=bits_at L (8*i+j) x (by rw[h1];exact hx)
 rw[h2] at this;exact this
theorem each8_in (m l bS bW:Nat)(c:Option Addr)(cc:Nat)(L:List UInt8)(hLm:L.length<=140737488355328)(I:Nat->World->Prop)(bI:∀ k W,I k W->W.cell? ⟨bS,0,none⟩=some (.slice c L.length cc)/\W.cell? ⟨bW,0,none⟩=some (.int .i64 8)/\Sees W c cc L)(Bk Bx:World->Prop)(hY:∀ (k:Nat) (x:Bool) W,Bk W->(I k W/\(bitsOf L)[k]?=some x)->YieldAt Fence.wide (m-1) Tryz.prog l #[.int .u32 (x.toNat:Int)] W λe W'=>(e=.returned (.bool true)/\Bk W'/\I (k+1) W')\/(e=.returned (.bool false)/\Bx W'))(W:World)(hW:Bk W)(hI:I 0 W):
  CallsIn Fence.wide m Tryz.prog 177 #[.func (.yield l) #[] #[],.pointer (some ⟨bS,0,none⟩),.pointer (some ⟨bW,0,none⟩)] W λe W'=>(∃ v,e=.returned v)/\((∃ s,s=8*L.length/\Bk W'/\I s W')\/Bx W'):=by
 have HY:Hid (∀ (k:Nat) (x:Bool) W,Bk W->(I k W/\(bitsOf L)[k]?=some x)->YieldAt Fence.wide (m-1) Tryz.prog l #[.int .u32 (x.toNat:Int)] W λe W'=>(e=.returned (.bool true)/\Bk W'/\I (k+1) W')\/(e=.returned (.bool false)/\Bx W')):=hY
 have HI:Hid (∀ k W,I k W->W.cell? ⟨bS,0,none⟩=some (.slice c L.length cc)/\W.cell? ⟨bW,0,none⟩=some (.int .i64 8)/\Sees W c cc L):=bI
 obtain⟨hcS,_,_⟩:=bI 0 W hI
 have hLm2:L.length<=9223372036854775807:=by omega
 clear hY bI
 refine callsIn_of_wp Tryz.func177 rfl trivial ?_ rfl
 simp only[Tryz.ntmps177,List.size_toArray,List.length_cons,List.length_nil,Nat.reduceAdd,Nat.reduceSub,Array.replicate_succ,Array.replicate_zero,List.push_toArray,List.append_toArray,List.nil_append,List.cons_append]
 gi_wp2
 gi_loopw [10] (λi wr=>∃ k:Nat,k<=L.length/\i=.int .i64 k/\Bk wr/\I (8*k) wr) (λi _=>L.length-(intOf i).toNat)
 case atStart=>exact⟨0,Nat.zero_le _,rfl,hW,hI⟩
 case round=>
  obtain⟨k,hk,rfl,hBk,hIk⟩:=hrel
  obtain⟨_,hcW,hLo⟩:=HI.out _ wr hIk
  clear hW hI hcS
  by_cases hlt:k<L.length
  ·obtain⟨x,hx⟩:∃ x,L[k]?=some x:=⟨L[k],by simp[hlt]⟩
   obtain⟨b,off,rfl,hc⟩:=hLo.get hx
   have HX:Hid (L[k]?=some x):=hx
   clear hx hLo
   gi_wp2
   gi_loopw [5,15] (λxv jv wr=>∃ j:Nat,j<=8/\jv=.int .i64 j/\xv=.int .u8 ((leftN 8 x.toNat j:Nat):Int)/\Bk wr/\I (8*k+j) wr) (λ_ jv _=>8-(intOf jv).toNat)
   case atStart=>exact⟨0,Nat.zero_le _,rfl,by rw[leftN_zero 8 _ x.toNat_lt],hBk,hIk⟩
   case round=>
    obtain⟨j,hj,rfl,rfl,hBj,hIj⟩:=hrel
    obtain⟨_,hcW2,_⟩:=HI.out _ wr hIj
    clear hBk hIk hcW hc
    by_cases hlt8:j<8
    ·have hbit:=bits_at8 L k j x HX.out hlt8
     have hup:=up8_ok wr (leftN 8 x.toNat j) (leftN_lt 8 _ _)
     have e1:=leftN_top 8 x.toNat j hlt8
     have e2:=leftN_next 8 x.toNat j
     rw[show (8:Nat)-1=7 from rfl] at e1
     rw[show (2:Nat)^8=256 from rfl] at e2
     rw[e1,e2] at hup
     obtain⟨y,hy⟩:∃ y,y=x.toNat.testBit (7-j):=⟨_,rfl⟩
     obtain⟨u,hu⟩:∃ u,u=leftN 8 x.toNat j:=⟨_,rfl⟩
     obtain⟨v,hv⟩:∃ v,v=leftN 8 x.toNat (j+1):=⟨_,rfl⟩
     rw[<-hy] at hbit hup
     rw[<-hu,<-hv] at hup
     rw[<-hu]
     obtain⟨fn5,tmps5,assign5,body5,hy5,hR5⟩:=HY.out _ y wr hBj ⟨hIj,hbit⟩
     have HR5:Hid (RoundIn Fence.wide (m-1) Tryz.prog l fn5 tmps5 assign5 body5 wr λe W'=>(e=.returned (.bool true)/\Bk W'/\I (8*k+j+1) W')\/(e=.returned (.bool false)/\Bx W')):=hR5
     have HV:Hid (v=leftN 8 x.toNat (j+1)):=hv
     obtain⟨yn,hyn⟩:∃ n:Nat,n=y.toNat:=⟨_,rfl⟩
     rw[<-hyn] at hup hy5
     clear hR5 hBj hIj hbit e1 e2 hy hu hv hyn
     gi_wp2
     refine⟨trivial,(λh=>by cases h),(callsIn_wide.2 hup).mono ?_⟩
     rintro e w5 ⟨rfl,rfl⟩
     clear hup
     gi_wp2
     refine⟨(λh=>by cases h),HR5.out.mono ?_⟩
     clear hy5 HR5
     rintro e W6 (⟨rfl,hB6,hI6⟩|⟨rfl,hX6⟩)
     ·gi_wp2
      go_roundw
      case rel=>exact⟨j+1,by omega,by go_num,by rw[HV.out],hB6,hI6⟩
      case measure=>simp[intOf];omega
     ·gi_wp2
      refine bodyPost_ret (results_none rfl _ _ _) rfl ?_
      exact⟨⟨_,rfl⟩,.inr hX6⟩
    ·obtain rfl:j=8:=by omega
     gi_wp2
     go_roundw
     case rel=>exact⟨k+1,by omega,by go_num,hBj,hIj⟩
     case measure=>simp[intOf];omega
  ·obtain rfl:k=L.length:=by omega
   gi_wp2
   go_end0
   exact⟨⟨_,rfl⟩,.inl ⟨_,rfl,hBk,hIk⟩⟩
theorem each8_made (v:Value)(a:Option Addr)(k c:Nat)(hv:v=.slice a k c)(w:World):
  Calls Tryz.prog 148 #[v,.int .i64 8] w λe w'=>e=.returned (.func (.func 177) #[] #[.pointer (some ⟨w.heap.size,0,none⟩),.pointer (some ⟨w.heap.size+1,0,none⟩)])/\w'=(w.alloc (.cells #[v] 22)).alloc (.cells #[.int .i64 8] 3):=by
 subst hv
 have hmf:∀ (fn:Fn) (first cap:Array Value) (w:World),(Instr.makeFunc fn first cap).run Tryz.prog w=.ok (.func fn first cap) w:=λ_ _ _ _=>rfl
 go_enter Tryz.func148,Tryz.ntmps148
 go_wp2
 go_ret
 exact⟨rfl,rfl⟩
def SI (w:World)(a:Option Addr)(ca:Nat)(l:List UInt8)(W P s0:Nat)(k:Nat)(V:World):Prop:=
 Boxed V w.heap.size 3 (.int .i64 (W:Int))/\Boxed V (w.heap.size+1) 62 (.int .u32 (P:Int))/\Boxed V (w.heap.size+1+1) 62 (.int .u32 ((runS W P s0 ((bitsOf l).take k):Nat):Int)) /\
  Boxed V (w.heap.size+1+1+1) 22 (.slice a l.length ca)/\Boxed V (w.heap.size+1+1+1+1) 3 (.int .i64 8)/\Below w.heap.size w V
theorem SI.turned {w:World}{a:Option Addr}{ca:Nat}{l:List UInt8}{W P s0 k B:Nat}{V V':World}(h:SI w a ca l W P s0 k V)(hB:w.heap.size<=B)(ht:Turned B V V'):SI w a ca l W P s0 k V':=by
 obtain⟨h1,h2,h3,h4,h5,h6⟩:=h
 exact⟨ht.boxed h1,ht.boxed h2,ht.boxed h3,ht.boxed h4,ht.boxed h5,ht.below h6 hB⟩
theorem SI.below {w:World}{a:Option Addr}{ca:Nat}{l:List UInt8}{W P s0 k:Nat}{V V':World}(h:SI w a ca l W P s0 k V)(hb:Below V.heap.size V V'):SI w a ca l W P s0 k V':=by
 obtain⟨h1,h2,h3,h4,h5,h6⟩:=h
 exact⟨Boxed.below h1 hb,Boxed.below h2 hb,Boxed.below h3 hb,Boxed.below h4 hb,Boxed.below h5 hb,h6.trans (hb.mono h6.size)⟩
theorem SI.next {w:World}{a:Option Addr}{ca:Nat}{l:List UInt8}{W P s0 k:Nat}{V:World}(h:SI w a ca l W P s0 k V)(v:Nat)(hv:v=runS W P s0 ((bitsOf l).take (k+1))):
  SI w a ca l W P s0 (k+1) (V.setCell ⟨w.heap.size+1+1,0,none⟩ (.int .u32 (v:Int))):=by
 obtain⟨h1,h2,h3,h4,h5,h6⟩:=h
 rw[hv]
 exact⟨h1.other (by omega) _,h2.other (by omega) _,h3.set _,h4.other (by omega) _,h5.other (by omega) _,h6.setCell (p:=⟨w.heap.size+1+1,0,none⟩) (by show w.heap.size<=w.heap.size+1+1;omega) _⟩
theorem sum_ok (w:World)(a:Option Addr)(ca:Nat)(l:List UInt8)(W P s0:Nat)(ha:Sees w a ca l)(hll:l.length<=140737488355328)(hW8:8<=W)(hW32:W<=32)(hP:P<2^W)(hs:s0<2^W):
  Calls Tryz.prog 109 #[.slice a l.length ca,.int .i64 (W:Int),.int .u32 (P:Int),.int .u32 (s0:Int)] w λe w'=>e=.returned (.int .u32 ((crcL W P s0 l:Nat):Int))/\Below w.heap.size w w':=by
 have HA:Hid (Sees w a ca l):=ha
 have HP:Hid (P<2^W):=hP
 have HS0:Hid (s0<2^W):=hs
 clear ha hP hs
 refine(callsIn_wide (n:=9)).1 ?_
 refine callsIn_of_wp_marks Tryz.func109 rfl trivial ?_ rfl
 simp only[Tryz.ntmps109,List.size_toArray,List.length_cons,List.length_nil,Nat.reduceAdd,Nat.reduceSub,Array.replicate_succ,Array.replicate_zero,List.push_toArray,List.append_toArray,List.nil_append,List.cons_append]
 have hmk:=each8_made _ a l.length ca rfl (((w.alloc (.cells #[.int .i64 (W:Int)] 3)).alloc (.cells #[.int .u32 (P:Int)] 62)).alloc (.cells #[.int .u32 (s0:Int)] 62))
 rw[World.size_alloc,World.size_alloc,World.size_alloc] at hmk
 gi_wp2
 refine⟨trivial,(callsIn_wide.2 hmk).mono ?_⟩
 rintro e w' ⟨rfl,hw'⟩
 rw[hw']
 clear hmk hw' w'
 gi_wp2
 obtain⟨W0,hW0⟩:∃ W0,W0=((((w.alloc (.cells #[.int .i64 (W:Int)] 3)).alloc (.cells #[.int .u32 (P:Int)] 62)).alloc (.cells #[.int .u32 (s0:Int)] 62)).alloc (.cells #[.slice a l.length ca] 22)).alloc (.cells #[.int .i64 8] 3):=⟨_,rfl⟩
 have hsz:W0.heap.size=w.heap.size+5:=by rw[hW0];simp
 have hB0:Below w.heap.size w W0:=by rw[hW0];exact(((((Below.refl _ w).alloc (Nat.le_refl _) _).alloc (by simp) _).alloc (by simp;omega) _).alloc (by simp;omega) _).alloc (by simp;omega) _
 have hI0:SI w a ca l W P s0 0 W0:=by
  refine⟨?_,?_,?_,?_,?_,hB0⟩
  ·rw[hW0];exact((((Boxed.new w 3 _).alloc _).alloc _).alloc _).alloc _
  ·have:=Boxed.new (w.alloc (.cells #[.int .i64 (W:Int)] 3)) 62 (.int .u32 (P:Int))
   rw[World.size_alloc] at this
   rw[hW0];exact((this.alloc _).alloc _).alloc _
  ·have:=Boxed.new ((w.alloc (.cells #[.int .i64 (W:Int)] 3)).alloc (.cells #[.int .u32 (P:Int)] 62)) 62 (.int .u32 (s0:Int))
   rw[World.size_alloc,World.size_alloc] at this
   rw[hW0];exact(this.alloc _).alloc _
  ·have:=Boxed.new (((w.alloc (.cells #[.int .i64 (W:Int)] 3)).alloc (.cells #[.int .u32 (P:Int)] 62)).alloc (.cells #[.int .u32 (s0:Int)] 62)) 22 (.slice a l.length ca)
   rw[World.size_alloc,World.size_alloc,World.size_alloc] at this
   rw[hW0];exact this.alloc _
  ·have:=Boxed.new ((((w.alloc (.cells #[.int .i64 (W:Int)] 3)).alloc (.cells #[.int .u32 (P:Int)] 62)).alloc (.cells #[.int .u32 (s0:Int)] 62)).alloc (.cells #[.slice a l.length ca] 22)) 3 (.int .i64 8)
   rw[World.size_alloc,World.size_alloc,World.size_alloc,World.size_alloc] at this
   rw[hW0];exact this
 rw[<-hW0]
 clear hW0
 refine range_pre 177 #[.pointer (some ⟨w.heap.size+1+1+1,0,none⟩),.pointer (some ⟨w.heap.size+1+1+1+1,0,none⟩)] rfl (enters_of Tryz.func177 (by kernel_rfl) rfl)
  (λx:Bool=>#[.int .u32 (x.toNat:Int)]) (λ_=>rfl) (SI w a ca l W P s0) (λk x V=>SI w a ca l W P s0 k V/\(bitsOf l)[k]?=some x) (λk _=>k+1) (λ_ _ _=>False)
  (λk=>k=8*l.length) ?fI ?fP (λ_ _ _ _ h _=>h)
  (λx=>{ tmps:=#[.slice a l.length ca,.int .i64 (W:Int),.int .u32 (P:Int),.int .u32 (s0:Int),undef,.pointer (some ⟨w.heap.size,0,none⟩),.pointer (some ⟨w.heap.size+1,0,none⟩),undef,.int .u32 0,.pointer (some ⟨w.heap.size+1+1,0,none⟩),.int .u32 (x.toNat:Int),undef,undef,.int .u32 (s0:Int),.slice a l.length ca,.func (.func 177) #[] #[.pointer (some ⟨w.heap.size+1+1+1,0,none⟩),.pointer (some ⟨w.heap.size+1+1+1+1,0,none⟩)],.int .u32 (x.toNat:Int),undef,undef,undef,undef,undef,undef,undef,undef,undef,undef,undef,undef,undef,undef],defers:=[] })
  ?assign ?body ?iter (λ_ _ _ _ h _=>h) ?done (λ_ _ _ _ _ h _=>h.elim)
 case fI=>exact λk V V' h ht=>h.turned (by omega) ht
 case fP=>exact λk x V V' ⟨h1,h2⟩ ht=>⟨h1.turned (by omega) ht,h2⟩
 case assign=>
  intro lp x V K hK
  gi_wp2
  exact hK
 case body=>
  rintro lp k x V ⟨hSI,hbit⟩
  have hst:=runS_take W P s0 (bitsOf l) k x hbit
  obtain⟨sv,hsv⟩:∃ sv,sv=runS W P s0 ((bitsOf l).take k):=⟨_,rfl⟩
  have hlt:sv<2^W:=by rw[hsv];exact runS_lt W P HP.out _ s0 HS0.out
  have hc1:=hSI.1.cell
  have hc2:=hSI.2.1.cell
  have hc3:=hSI.2.2.1.cell
  have hf3:=hSI.2.2.1.frozen
  rw[<-hsv] at hst hc3
  have hup:=up32_ok V W sv (by omega) hW32 hlt
  obtain⟨tb,htb⟩:∃ b,b=sv.testBit (W-1):=⟨_,rfl⟩
  obtain⟨u,hu⟩:∃ u,u=sv*2%2^W:=⟨_,rfl⟩
  have hul:u<2^W:=by rw[hu];exact Nat.mod_lt _ (Nat.two_pow_pos W)
  have h32:2^W<=4294967296:=by have:=Nat.pow_le_pow_right (n:=2) (i:=W) (j:=32) (by omega) hW32;omega
  have hu32:u<4294967296:=by omega
  have hP32:P<4294967296:=by have:=HP.out;omega
  rw[<-htb,<-hu] at hup
  rw[stepS,<-htb,<-hu] at hst
  obtain⟨tn,htn⟩:∃ n:Nat,n=tb.toNat:=⟨_,rfl⟩
  obtain⟨xn,hxn⟩:∃ n:Nat,n=x.toNat:=⟨_,rfl⟩
  rw[<-htn] at hup
  have HSI:Hid (SI w a ca l W P s0 k V):=hSI
  have HEND:Hid (∀ v:Nat,v=runS W P s0 ((bitsOf l).take (k+1))->KeepsFrom W0.heap.size V (V.setCell ⟨w.heap.size+1+1,0,none⟩ (.int .u32 (v:Int)))/\SI w a ca l W P s0 (k+1) (V.setCell ⟨w.heap.size+1+1,0,none⟩ (.int .u32 (v:Int)))):=λv hv=>⟨(KeepsOthers.setCell _ _ _).from _,HSI.out.next v hv⟩
  have hne:(tb != x)=decide (tn≠xn):=by rw[htn,hxn];cases tb<;>cases x<;>rfl
  rw[hne] at hst
  show Code.wpIn _ _ _ _ (roundEnds W0.heap.size (SI w a ca l W P s0) (λ_ _ _=>False) (k+1) V) _ _
  rw[<-hxn]
  by_cases heq:tn=xn
  ·have hst1:u=runS W P s0 ((bitsOf l).take (k+1)):=by rw[hst];simp[heq]
   have HE:=HEND.out u hst1
   have HE2:Hid (KeepsFrom W0.heap.size V (V.setCell ⟨w.heap.size+1+1,0,none⟩ (.int .u32 (u:Int)))/\SI w a ca l W P s0 (k+1) (V.setCell ⟨w.heap.size+1+1,0,none⟩ (.int .u32 (u:Int)))):=HE
   have dq:(tn:Int)=(xn:Int):=by omega
   clear hst hst1 HE HEND hSI hbit hsv htb hu htn hxn hne hul h32 hlt hI0
   gi_wp2
   refine⟨trivial,((callsIn_wide.2 hup).inRound lp).mono ?_⟩
   rintro e w5 ⟨rfl,rfl⟩
   clear hup
   gi_wp2
   exact HE2.out
  ·obtain⟨v,hv⟩:∃ v,v=u^^^P:=⟨_,rfl⟩
   have hst1:v=runS W P s0 ((bitsOf l).take (k+1)):=by rw[hst,hv];simp[heq]
   have HE:=HEND.out v hst1
   have ev:bits .xor .u32 (u:Int) (P:Int)=(v:Int):=by rw[hv];exact u32_xor_nat u P (by omega) (by omega)
   have HE2:Hid (KeepsFrom W0.heap.size V (V.setCell ⟨w.heap.size+1+1,0,none⟩ (.int .u32 (v:Int)))/\SI w a ca l W P s0 (k+1) (V.setCell ⟨w.heap.size+1+1,0,none⟩ (.int .u32 (v:Int)))):=HE
   have dq:¬ ((tn:Int)=(xn:Int)):=by omega
   clear hst hst1 HE HEND hSI hbit hsv htb hu htn hxn hne hul h32 hlt hI0 hv
   gi_wp2
   refine⟨trivial,((callsIn_wide.2 hup).inRound lp).mono ?_⟩
   rintro e w5 ⟨rfl,rfl⟩
   clear hup
   gi_wp2
   exact HE2.out
 case iter=>
  intro lp W1 hB1 hs1 hl Bk Bx kB hY kX hBk
  exact each8_in 8 lp _ _ a ca l hll (SI w a ca l W P s0) (λk V h=>⟨h.2.2.2.1.cell,h.2.2.2.2.1.cell,HA.out.below h.2.2.2.2.2⟩) Bk Bx hY W1 hBk (hI0.below hB1)
 case done=>
  rintro D k V hD rfl hSI hK
  have hc3:=hSI.2.2.1.cell
  have hbel:=hSI.2.2.2.2.2
  have hF:runS W P s0 ((bitsOf l).take (8*l.length))=crcL W P s0 l:=by
   rw[<-bitsOf_length l,List.take_length];rfl
  rw[hF] at hc3
  have HK:Hid (V.heap[D]?=some (.deferred (some []))):=hK
  clear hSI hF hI0
  gi_wp2
  refine⟨by simp,.inl ⟨_,_,rfl,run_takeDeferred HK.out,?_⟩⟩
  refine⟨_,results_tmp rfl _ _ _,rfl,?_⟩
  exact hbel.trans (belowK_b (w:=w) (Nat.le_refl _) V D _ _ (by omega) HK.out rfl rfl)
theorem whole_ok:CwholeOk:=by
 intro w a ca l ha hll
 have h1:=sum_ok w a ca l 24 0x5D6DCB 0xFEDCBA ha (by omega) (by omega) (by omega) (by decide) (by decide)
 obtain⟨x,hx⟩:∃ x,x=wholeL l:=⟨_,rfl⟩
 rw[show crcL 24 0x5D6DCB 0xFEDCBA l=x from hx.symm] at h1
 rw[<-hx]
 clear ha hx
 go_enter Tryz.func71,Tryz.ntmps71
 go_wp2_with fail
 refine h1.mono ?_
 rintro e w1 ⟨rfl,hb⟩
 clear h1
 go_wp2
 go_ret
 exact⟨rfl,hb⟩
theorem fix_ok:CfixOk:=by
 intro w a ca l ha hll
 obtain⟨i5,hi5,hz0,hz1,hz2⟩:=info_parts Tryz.info5
 obtain⟨s,hs⟩:∃ s,s=wholeL l:=⟨_,rfl⟩
 have hs24:s<16777216:=by rw[hs];exact wholeL_lt l
 have HA:Hid (Sees w a ca l):=ha
 have H11:Hid (∀ V,Below w.heap.size w V->Calls Tryz.prog 71 #[.slice a l.length ca] V λe w'=>e=.returned (.int .u32 (s:Int))/\Below V.heap.size V w'):=λV hV=>by
  rw[hs];exact whole_ok V a ca l (HA.out.below hV) hll
 have HS:Hid (s=wholeL l):=hs
 clear ha hs
 go_enter Tryz.func46,Tryz.ntmps46
 go_wp2_with (at_make;refine wpList_make_own _ rfl _ _ 22 rfl w.heap.size 5 i5 (.int .u8 0) 1 Tryz.underlying22 hi5 hz0 hz1 _ _ _ (l.length+3) rfl rfl ?b1 ?b2 ?b3 (Nat.le_refl _) ?_)
 case b1=>push_cast;omega
 case b2=>rw[hz2];omega
 case b3=>unfold maxLen;omega
 intro w1 hown1 hgrow1
 have hb1:Below w.heap.size w w1:=(Below.refl _ _).grown hgrow1 (Nat.le_refl _) (by intro k h;cases h)
 obtain⟨v2,w2,hrun2,ho2,hk2⟩:=append_own_any w1 w.heap.size _ [] (by simpa using hown1) a ca l (HA.out.below hb1) (by simp;omega) hb1.size
 rw[List.nil_append] at ho2
 have hb2:Below w.heap.size w w2:=hk2 _ _ hb1 (Nat.le_refl _)
 have h11:=H11.out w2 hb2
 obtain⟨d2,c2,rfl,hs2⟩:=Sees.of_own ho2
 have R2:Hid ((Builtin.append_ #[22,22] 22 #[.slice (some ⟨w.heap.size,0,none⟩) 0 (l.length+3),.slice a l.length ca]).run Tryz.prog w1=.ok (.slice d2 l.length c2) w2):=hrun2
 clear hgrow1 hown1 hk2 hrun2 hs2
 go_wp2_with (at_builtin;refine wpList_append_run rfl _ _ 22 rfl _ _ _ rfl rfl R2.out ?_)
 refine h11.mono ?_
 rintro e w3 ⟨rfl,hb3⟩
 have h19:=asbytes_ok w3 s hs24
 have ho3:=own_keepB ho2 hb3
 have hb3':Below w.heap.size w w3:=hb2.trans (hb3.mono hb2.size)
 clear h11 hb3 hb2 ho2 R2 hb1
 go_wp2_with fail
 refine h19.mono ?_
 rintro e w4 ⟨d4,c4,rfl,hs4,hb4⟩
 have ho4:=own_keepB ho3 hb4
 have hb4':Below w.heap.size w w4:=hb3'.trans (hb4.mono hb3'.size)
 obtain⟨v5,w5,hrun5,ho5,hk5⟩:=append_own_any w4 w.heap.size _ l ho4 d4 c4 (sum3 s) hs4 (by simp[sum3];omega) hb4'.size
 have hb5:Below w.heap.size w w5:=hk5 _ _ hb4' (Nat.le_refl _)
 obtain⟨r,hr⟩:∃ r,r=l++sum3 s:=⟨_,rfl⟩
 rw[<-hr] at ho5
 have HR:Hid (r=fixL l):=by rw[hr,HS.out];exact rfl
 obtain⟨d5,c5,rfl,hs5⟩:=Sees.of_own ho5
 have R5:Hid ((Builtin.append_ #[22,22] 22 #[.slice d2 l.length c2,.slice d4 3 c4]).run Tryz.prog w4=.ok (.slice d5 r.length c5) w5):=hrun5
 clear h19 hrun5 hk5 hr ho4 ho3 hb4 hb3' hs4 hb4' H11 HA HS
 go_wp2_with (at_builtin;refine wpList_append_run rfl _ _ 22 rfl _ _ _ rfl rfl R5.out ?_)
 go_ret
 exact⟨d5,c5,r,HR,rfl,hs5,hb5,ho5⟩
theorem good_ok:CgoodOk:=by
 intro w a ca l ha hll
 by_cases h3:l.length<3
 ·rw[goodL_short l h3]
  obtain⟨z,hz⟩:∃ z:Int,z=(l.length:Int)-3:=⟨_,rfl⟩
  have e1:(l.length:Int)-3=z:=hz.symm
  have e2:IntKind.i64.wrap z=z:=by rw[IntKind.wrap_i64];omega
  have d1:decide ((0:Int)<=z)=false:=by simp;omega
  clear ha hz
  go_enter Tryz.func38,Tryz.ntmps38
  go_wp2
  refine wp_region_noPanic ?_
  refine wp_region_held (S:=λ_=>True) (by kernel_rfl) ?_
  refine any_take 0 (.int .i64 z) rfl (by kernel_rfl) (by kernel_rfl) (by kernel_rfl) (λ_ _ _ h=>h) (by rfl) (by intro w _;go_simp) trivial ?_
  (try simp only[Act.put,sT])
  refine any_take 1 (.bool false) rfl (by kernel_rfl) (by kernel_rfl) (by kernel_rfl) (λ_ _ _ h=>h) (by rfl) (by intro w _;go_simp) trivial ?_
  (try simp only[Act.put,sT])
  refine any_take 2 (.bool false) rfl (by kernel_rfl) (by kernel_rfl) (by kernel_rfl) (λ_ _ _ h=>h) (by rfl) (by intro w _;go_simp) trivial ?_
  (try simp only[Act.put,sT])
  refine any_skip 3 rfl (by kernel_rfl) (by kernel_rfl) (by kernel_rfl) (λ_ _ _ h=>h) (by rfl) trivial ?_
  (try simp only[Act.put,sT])
  refine any_skip 4 rfl (by kernel_rfl) (by kernel_rfl) (by kernel_rfl) (λ_ _ _ h=>h) (by rfl) trivial ?_
  (try simp only[Act.put,sT])
  refine any_skip 5 rfl (by kernel_rfl) (by kernel_rfl) (by kernel_rfl) (λ_ _ _ h=>h) (by rfl) trivial ?_
  (try simp only[Act.put,sT])
  refine any_skip 6 rfl (by kernel_rfl) (by kernel_rfl) (by kernel_rfl) (λ_ _ _ h=>h) (by rfl) trivial ?_
  (try simp only[Act.put,sT])
  refine any_skip 7 rfl (by kernel_rfl) (by kernel_rfl) (by kernel_rfl) (λ_ _ _ h=>h) (by rfl) trivial ?_
  (try simp only[Act.put,sT])
  refine any_skip 8 rfl (by kernel_rfl) (by kernel_rfl) (by kernel_rfl) (λ_ _ _ h=>h) (by rfl) trivial ?_
  (try simp only[Act.put,sT])
  refine any_skip 9 rfl (by kernel_rfl) (by kernel_rfl) (by kernel_rfl) (λ_ _ _ h=>h) (by rfl) trivial ?_
  (try simp only[Act.put,sT])
  refine any_skip 10 rfl (by kernel_rfl) (by kernel_rfl) (by kernel_rfl) (λ_ _ _ h=>h) (by rfl) trivial ?_
  (try simp only[Act.put,sT])
  refine any_skip 11 rfl (by kernel_rfl) (by kernel_rfl) (by kernel_rfl) (λ_ _ _ h=>h) (by rfl) trivial ?_
  (try simp only[Act.put,sT])
  refine any_take 12 (.bool false) rfl (by kernel_rfl) (by kernel_rfl) (by kernel_rfl) (λ_ _ _ h=>h) (by rfl) (by intro w _;go_simp) trivial ?_
  (try simp only[Act.put,sT])
  refine any_take 13 (.bool false) rfl (by kernel_rfl) (by kernel_rfl) (by kernel_rfl) (λ_ _ _ h=>h) (by rfl) (by intro w _;go_simp) trivial ?_
  (try simp only[Act.put,sT])
  refine wpAnyH_done (by kernel_rfl) ?_ _
  refine NoPanic.normal ?_
  go_wp2
  go_ret
  exact⟨rfl,(Below.refl _ _).drew⟩
 ·obtain⟨m,hm⟩:∃ m,m=l.length-3:=⟨_,rfl⟩
  have hml:l.length=m+3:=by omega
  obtain⟨t,ht⟩:∃ t,t=l.take m:=⟨_,rfl⟩
  have htl:t.length=m:=by rw[ht,List.length_take];omega
  obtain⟨x,hx⟩:∃ x,x=wholeL t:=⟨_,rfl⟩
  have hx24:x<16777216:=by rw[hx];exact wholeL_lt t
  obtain⟨F,hF⟩:∃ F,F=goodL l:=⟨_,rfl⟩
  have hFe:F=(l.drop m==sum3 x):=by
   have h1:l.take m++l.drop m=l:=List.take_append_drop m l
   rw[hF];unfold goodL;rw[<-hm,<-ht]
   have h2:(fixL t=l)↔(l.drop m=sum3 x):=by
    unfold fixL;rw[<-hx]
    constructor
    ·intro h;rw[<-h1,<-ht] at h;exact(List.append_cancel_left h).symm
    ·intro h;rw[<-h,ht];exact h1
   by_cases h:l.drop m=sum3 x
   ·simp[h2.2 h,h];omega
   ·have:¬ fixL t=l:=λq=>h (h2.1 q)
    simp[this,h]
  rw[<-hF]
  have hfit:=ha.fits
  obtain⟨ab,ao,rfl,_⟩:=ha.at' (by intro h;rw[h] at hml;simp at hml)
  have hst:Sees w (some ⟨ab,ao,none⟩) ca t:=by rw[ht];exact ha.take m
  have hsd:Sees w (some ⟨ab,ao+m,none⟩) (ca-m) (l.drop m):=ha.drop m (by omega)
  have hdl:(l.drop m).length=3:=by rw[List.length_drop];omega
  have H11:Hid (∀ V,Below w.heap.size w V->Calls Tryz.prog 71 #[.slice (some ⟨ab,ao,none⟩) m ca] V λe w'=>e=.returned (.int .u32 (x:Int))/\Below w.heap.size w w'):=λV hV=>by
   have:=whole_ok V _ ca t (hst.below hV) (by omega)
   rw[htl,<-hx] at this
   exact this.mono λ_ _ ⟨h,hb⟩=>⟨h,hV.trans (hb.mono hV.size)⟩
  have H19:Hid (∀ V,Below w.heap.size w V->Calls Tryz.prog 70 #[.int .u32 (x:Int)] V λe w'=>∃ d cd,e=.returned (.slice d 3 cd)/\Sees w' d cd (sum3 x)/\Below w.heap.size w w'):=λV hV=>
   (asbytes_ok V x hx24).mono λ_ _ ⟨d,cd,h,hs,hb⟩=>⟨d,cd,h,hs,hV.trans (hb.mono hV.size)⟩
  have H21:Hid (∀ V d cd,Sees V d cd (sum3 x)->Below w.heap.size w V->Calls Tryz.prog 50 #[.slice (some ⟨ab,ao+m,none⟩) 3 (ca-m),.slice d 3 cd] V λe w'=>e=.returned (.bool F)/\Below w.heap.size w w'):=λV d cd hs hV=>by
   have:=equal_ok V _ d _ cd (l.drop m) (sum3 x) (hsd.below hV) hs
   rw[hdl,<-hFe] at this
   refine this.mono ?_
   rintro e w' ⟨h,rfl⟩
   exact⟨h,hV⟩
  have g1:IntKind.i64.wrap ((m:Int)+3-3)=(m:Int):=by rw[IntKind.wrap_i64];omega
  have g1':IntKind.i64.wrap (m:Int)=(m:Int):=by rw[IntKind.wrap_i64];omega
  have g3:(0:Int)<=(m:Int):=Int.natCast_nonneg _
  have g4:(m:Int)<=(ca:Int):=by omega
  have g5:m<=ca:=by omega
  have g6:m+3-m=3:=by omega
  have g7:(m:Int)<=(m:Int)+3:=by omega
  have g8:(m:Int)+3<=(ca:Int):=by omega
  rw[hml]
  have hm9:m<=140737488355000:=by omega
  clear ha hst hsd hdl hF hFe hm ht htl hml h3 hll hx hfit
  go_enter Tryz.func38,Tryz.ntmps38
  go_wp2
  refine wp_region_noPanic ?_
  refine wp_region_held (S:=λ_=>True) (by kernel_rfl) ?_
  refine any_take 0 (.int .i64 (m:Int)) rfl (by kernel_rfl) (by kernel_rfl) (by kernel_rfl) (λ_ _ _ h=>h) (by rfl) (by intro w _;go_simp) trivial ?_
  (try simp only[Act.put,sT])
  refine any_take 1 (.bool true) rfl (by kernel_rfl) (by kernel_rfl) (by kernel_rfl) (λ_ _ _ h=>h) (by rfl) (by intro w _;go_simp) trivial ?_
  (try simp only[Act.put,sT])
  refine any_take 2 (.bool true) rfl (by kernel_rfl) (by kernel_rfl) (by kernel_rfl) (λ_ _ _ h=>h) (by rfl) (by intro w _;go_simp) trivial ?_
  (try simp only[Act.put,sT])
  refine any_take 3 (.slice (some ⟨ab,ao,none⟩) (m+3) ca) rfl (by kernel_rfl) (by kernel_rfl) (by kernel_rfl) (λ_ _ _ h=>h) (by rfl) (by intro w _;go_simp) trivial ?_
  (try simp only[Act.put,sT])
  refine any_take 4 (.int .i64 (m:Int)) rfl (by kernel_rfl) (by kernel_rfl) (by kernel_rfl) (λ_ _ _ h=>h) (by rfl) (by intro w _;go_simp) trivial ?_
  (try simp only[Act.put,sT])
  refine any_take 5 (.slice (some ⟨ab,ao+m,none⟩) 3 (ca-m)) rfl (by kernel_rfl) (by kernel_rfl) (by kernel_rfl) (λ_ _ _ h=>h) (by rfl) (by intro w _;go_simp;omega) trivial ?_
  (try simp only[Act.put,sT])
  refine any_take 6 (.slice (some ⟨ab,ao,none⟩) (m+3) ca) rfl (by kernel_rfl) (by kernel_rfl) (by kernel_rfl) (λ_ _ _ h=>h) (by rfl) (by intro w _;go_simp) trivial ?_
  (try simp only[Act.put,sT])
  refine any_take 7 (.int .i64 (m:Int)) rfl (by kernel_rfl) (by kernel_rfl) (by kernel_rfl) (λ_ _ _ h=>h) (by rfl) (by intro w _;go_simp) trivial ?_
  (try simp only[Act.put,sT])
  refine any_take 8 (.slice (some ⟨ab,ao,none⟩) m ca) rfl (by kernel_rfl) (by kernel_rfl) (by kernel_rfl) (λ_ _ _ h=>h) (by rfl) (by intro w _;go_simp) trivial ?_
  (try simp only[Act.put,sT])
  refine any_one 9 rfl (by kernel_rfl) (by rfl) (λK hK=>?_)
  go_simp
  refine(H11.out _ (Below.refl _ _).drew).mono ?_
  rintro e w11 ⟨rfl,hb11⟩
  refine hK.out _ _ trivial (λ_=>?_)
  clear hK K
  (try simp only[Act.put,sT])
  refine any_one 10 rfl (by kernel_rfl) (by rfl) (λK hK=>?_)
  go_simp
  refine(H19.out _ hb11).mono ?_
  rintro e w19 ⟨d19,c19,rfl,hs19,hb19⟩
  refine hK.out _ _ trivial (λ_=>?_)
  clear hK K
  (try simp only[Act.put,sT])
  refine any_one 11 rfl (by kernel_rfl) (by rfl) (λK hK=>?_)
  go_simp
  refine(H21.out _ d19 c19 hs19 hb19).mono ?_
  rintro e w21 ⟨rfl,hb21⟩
  refine hK.out _ _ trivial (λ_=>?_)
  clear hK K
  (try simp only[Act.put,sT])
  refine any_take 12 (.bool F) rfl (by kernel_rfl) (by kernel_rfl) (by kernel_rfl) (λ_ _ _ h=>h) (by rfl) (by intro w _;go_simp) trivial ?_
  (try simp only[Act.put,sT])
  refine any_take 13 (.bool F) rfl (by kernel_rfl) (by kernel_rfl) (by kernel_rfl) (λ_ _ _ h=>h) (by rfl) (by intro w _;go_simp) trivial ?_
  (try simp only[Act.put,sT])
  refine wpAnyH_done (by kernel_rfl) ?_ _
  refine NoPanic.normal ?_
  go_wp2
  go_ret
  exact⟨rfl,hb21⟩
end Go.Proofs.YthogohkieiogiaaGreatDoor
