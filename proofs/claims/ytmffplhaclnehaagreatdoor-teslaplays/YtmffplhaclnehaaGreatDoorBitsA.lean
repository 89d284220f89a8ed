/- A helper. -/
import Derived.Test.YtmffplhaclnehaaGreatDoorPure
namespace Go.Proofs.YtmffplhaclnehaaGreatDoor
set_option maxRecDepth 20000
set_option maxHeartbeats 3200000
open Go.ChangeShapes Go.WideShapes Go.ChangeAt Go.RowKit
variable {l:List UInt8} {B:List Bool}
def RW (w:World)(g:Nat)(bs:List Bool)(G:Nat->Prop):Prop:=
 ∃ v,w.heap[g]?=some (.cells #[v] 298 (0,0))/\w.ownsRow 0 4 1 v bs.length (bs.map .bool)/\G g/\(∀ k,v.ownBlock=some k->G k)/\∀ k,G k->k<w.heap.size
theorem FV:Kept RW where
 lt:=λ⟨_,_,_,_,_,h⟩=>h
 keep:=λ{w w' b s F} ⟨v,h1,h2,h3,h4,h5⟩ hk=>by
  refine⟨v,(hk b h3).trans h1,?_,h3,h4,λk hF=>?_⟩
  ·refine⟨h2.1,?_⟩
   rcases h2.2 with h0|⟨g,cap,cur,rfl,hlow,hg,h7⟩
   ·exact .inl h0
   ·exact .inr ⟨g,cap,cur,rfl,hlow,(hk g (h4 g rfl)).trans hg,h7⟩
  ·have h8:w'.heap[k]?=some (w.heap[k]'(h5 k hF)):=by rw[hk k hF];simp[h5 k hF]
   exact(Array.getElem?_eq_some_iff.1 h8).1
theorem Tryz.VS:(Tryz.prog.info? 4).map (λi=>(i.zero,i.size,i.bytes))=some (some (.bool false),1,1):=by kernel_rfl
theorem and_one (n:Nat)(h:n<18446744073709551616):bits .and .u64 (n:Int) 1=((n%2:Nat):Int):=by
 have:=u64_and_nat n 1 h (by omega)
 rw[Nat.and_one_is_mod] at this
 exact this
theorem P5 (w w0:World)(g:Nat)(bs:List Bool)(G:Nat->Prop)(b:Bool)(v:Value)(h1:w.heap[g]?=some (.cells #[v] 298 (0,0)))(h2:w.ownsRow 0 4 1 v bs.length (bs.map .bool))(h3:G g)(h4:∀ k,v.ownBlock=some k->G k)(h5:∀ k,G k->k<w.heap.size)(hl:bs.length<=10000)(hw0:w0=(w.drew).alloc (.cells #[.bool b] 4)):
  ∃ d cd w1, (Builtin.append_ #[296, 296] 296 #[v, .slice (some ⟨w.heap.size, 0, none⟩) 1 1]).run Tryz.prog w0 = .ok (.slice d (bs.length + 1) cd) w1 ∧ w1.cell? ⟨g, 0, none⟩ = some v ∧ w1.frozen? ⟨g, 0, none⟩ = false ∧
    Left RW w G g (bs ++ [b]) (w1.setCell ⟨g, 0, none⟩ (.slice d (bs.length + 1) cd)) := by
 obtain⟨i4,hi,hz0,hz1,hz2⟩:=info_parts Tryz.VS
 have hb0:Below w.heap.size w w0:=by rw[hw0];exact((Below.refl _ _).drew).alloc (Nat.le_refl _) _
 have hg:g<w.heap.size:=h5 g h3
 have ho0:w0.ownsRow 0 4 1 v bs.length (bs.map .bool):=by
  refine⟨h2.1,?_⟩
  rcases h2.2 with h0|⟨q,cap,cur,rfl,hlow,hq,h7⟩
  ·exact .inl h0
  ·exact .inr ⟨q,cap,cur,rfl,hlow,by rw[hb0.block q (Array.getElem?_eq_some_iff.1 hq).1];exact hq,h7⟩
 have hcell:∀ j u,([.bool b]:List Value)[j]?=some u->w0.cell? ((⟨w.heap.size,0,none⟩:Addr).add j)=some u:=by
  rw[hw0];exact World.news_of_block (w:=(w.drew).alloc (.cells #[.bool b] 4)) (cs:=#[.bool b]) (t:=4) (fr:=(0,0)) (heap_alloc_new w.drew _)
 have hs0:w0.heap.size=w.heap.size+1:=by rw[hw0];simp
 obtain⟨v',w1,hrun,ho1,hgr,_,hown⟩:=run_append_own_at (P:=Tryz.prog) w0 0 296 296 4 i4 (.bool false) 1 1 Tryz.underlying296 hi hz0 hz1 hz2 rfl (by omega) v bs.length (bs.map .bool) ho0 ⟨w.heap.size,0,none⟩ 1 1 [.bool b] rfl hcell (by simp[Value.oneCell']) (by unfold maxLen;omega) (by omega) (by omega)
 obtain⟨q,cap,rfl⟩:∃ q cap,v'=.slice (some ⟨q,0,none⟩) (bs.length+1) cap:=by
  rcases ho1.2 with ⟨_,h0⟩|⟨q,cap,cur,rfl,_⟩
  ·omega
  ·exact⟨q,cap,rfl⟩
 have hgv:v.ownBlock≠some g:=by
  intro e
  rcases h2.2 with ⟨rfl,_⟩|⟨q,cap,cur,rfl,_,hq,_⟩
  ·simp[Value.ownBlock] at e
  ·obtain rfl:q=g:=by simpa [Value.ownBlock] using e
   rw[h1] at hq;simp at hq
 have hg1:w1.heap[g]?=some (.cells #[v] 298 (0,0)):=by rw[hgr.block g (by omega) (λe=>hgv e.symm),hb0.block g hg];exact h1
 have hap:Apart G w w1:=(Apart.of_below hb0).grown hgr (λk hk=>.inl (h4 k hk))
 have P6:q≠g:=by
  rintro rfl
  rcases ho1.2 with ⟨_,h0⟩|⟨q',cap',cur',he,_,hq',_⟩
  ·omega
  ·simp only[Value.slice.injEq,Option.some.injEq,Addr.mk.injEq] at he
   rw[<-he.1.1,hg1] at hq';simp at hq'
 refine⟨some ⟨q,0,none⟩,cap,w1,hrun,cell_of_row _ _ 0 _ _ _ hg1,frozen_of_row _ _ 0 _ _ hg1,λk=>k=g\/(k=q/\k<w1.heap.size) ,⟨.slice (some ⟨q,0,none⟩) (bs.length+1) cap,?_,?_,.inl rfl,?_,?_⟩,hap.setCell (.inl h3) 0 _,?_⟩
 ·rw[heap_setCell_same _ _ _ _ _ _ hg1];rfl
 ·have h6:w1.ownsRow 0 4 1 (.slice (some ⟨q,0,none⟩) (bs.length+1) cap) (bs++[b]).length ((bs++[b]).map .bool):=by simpa using ho1
  refine⟨h6.1,?_⟩
  rcases h6.2 with ⟨h0,_⟩|⟨q',cap',cur,he,hlow,hq',h7⟩
  ·cases h0
  ·refine .inr ⟨q',cap',cur,he,hlow,?_,h7⟩
   simp only[Value.slice.injEq,Option.some.injEq,Addr.mk.injEq] at he
   rw[heap_setCell_other _ _ _ _ (by rw[<-he.1.1];exact P6)];exact hq'
 ·intro k hk
  obtain rfl:q=k:=by simpa [Value.ownBlock] using hk
  rcases ho1.2 with ⟨h0,_⟩|⟨q',cap',cur,he,hlow,hq',h7⟩
  ·cases h0
  ·simp only[Value.slice.injEq,Option.some.injEq,Addr.mk.injEq] at he
   exact .inr ⟨rfl,by rw[he.1.1];exact(Array.getElem?_eq_some_iff.1 hq').1⟩
 ·rintro k (rfl|⟨_,hk⟩)
  ·simpa using (show k<w1.heap.size from (Array.getElem?_eq_some_iff.1 hg1).1)
  ·simpa using hk
 ·rintro k (rfl|⟨rfl,_⟩)
  ·exact .inl h3
  ·rcases hown with h|h
   ·exact .inl (h4 k (by rw[<-h];rfl))
   ·have h9:k=w0.heap.size:=by simpa [Value.ownBlock] using h
    exact .inr (by omega)
theorem FW (w:World)(g:Nat)(bs:List Bool)(G:Nat->Prop)(h:RW w g bs G)(n W:Nat)(hW:W<=64)(hn:n<2^W)(hl:bs.length+W<=8192):
  Calls Tryz.prog 221 #[.pointer (some ⟨g,0,none⟩),.int .u64 (n:Int),.int .i64 (W:Int)] w λe w'=>e=.returned (.int .i64 0)/\Left RW w G g (bs++az n W) w':=by
 have Bw:n<18446744073709551616:=Nat.lt_of_lt_of_le hn (Nat.pow_le_pow_right (n:=2) (i:=W) (j:=64) (by omega) hW)
 have HN:Hid (n<18446744073709551616):=Bw
 have d0:(n:Int)/2^W=0:=by
  have:((n/2^W:Nat):Int)=0:=by rw[Nat.div_eq_of_lt hn];rfl
  simpa using this
 have hbl:Hid (bs.length+W<=8192):=hl
 obtain⟨v,h1,h2,h3,h4,h5⟩:=h
 have hH:Hid (RW w g bs G):=⟨v,h1,h2,h3,h4,h5⟩
 obtain⟨d,cd,rfl⟩:∃ d cd,v=.slice d bs.length cd:=by
  rcases h2.2 with ⟨rfl,h0⟩|⟨q,cap,cur,rfl,_⟩
  ·exact⟨none,0,by rw[h0]⟩
  ·exact⟨_,_,rfl⟩
 have c0:w.cell? ⟨g,0,none⟩=some (.slice d bs.length cd):=cell_of_row _ _ 0 _ _ _ h1
 have dl:decide ((8192:Int)<(bs.length:Int)+(W:Int))=false:=by simp;omega
 have VT:Left RW w G g (bs++(az n W).take 0) w:=⟨G,by rw[List.take_zero,List.append_nil];exact hH.out,Apart.refl _ _,λ_ h=>.inl h⟩
 have dW0:decide ((W:Int)<0)=false:=by simp
 have VU:decide ((64:Int)<(W:Int))=false:=by simp;omega
 clear h1 h2 h3 h4 h5 hn Bw
 go_enter Tryz.func221,Tryz.ntmps221
 go_wp2
 all_goals
  go_loopw [7] (λi wr=>∃ k:Nat,k<=W/\i=.int .i64 ((W:Int)-1-(k:Int))/\Left RW w G g (bs++(az n W).take k) wr) (λi _=>(intOf i+1).toNat)
  case atStart=>exact⟨0,Nat.zero_le _,by simp,VT⟩
  case round=>
   obtain⟨k,hk,rfl,G1,⟨v1,q1,q2,q3,q4,q5⟩,hap,hG1⟩:=hrel
   clear VT c0
   by_cases hlt:k<W
   ·obtain⟨j,hj⟩:=ai (W-1-k)
    have hji:(W:Int)-1-(k:Int)=(j:Int):=by omega
    have HJ:Hid (j=W-1-k):=hj
    have ZF:j<64:=by omega
    have hmin:min j 64=j:=by omega
    have hln:(bs++(az n W).take k).length<=10000:=by
     have:=hbl.out;rw[List.length_append,List.length_take,ak];omega
    obtain⟨B,hB⟩:=ai (bs++(az n W).take k)
    rw[<-hB] at q2 hln
    obtain⟨d1,mW,w1,hrun,e1,e2,G2,e3,e4,e5⟩:=P5 wr _ g B G1 (n.testBit j) v1 q1 q2 q3 q4 q5 hln rfl
    have hend:Left RW w G g (bs++(az n W).take (k+1)) (w1.setCell ⟨g,0,none⟩ (.slice d1 (B.length+1) mW)):=by
     refine⟨G2,?_,hap.trans e4 hG1,λi hi=>?_⟩
     ·rw[vT n W k hlt,<-List.append_assoc,<-hB,<-hj];exact e3
     ·rcases e5 i hi with h|h
      ·exact hG1 i h
      ·have:=hap.size;exact .inr (by omega)
    have HR:Hid ((Builtin.append_ #[296,296] 296 #[v1,.slice (some ⟨wr.heap.size,0,none⟩) 1 1]).run Tryz.prog ((wr.drew).alloc (.cells #[.bool (n.testBit j)] 4))=.ok (.slice d1 (B.length+1) mW) w1):=hrun
    have HE:Hid (Left RW w G g (bs++(az n W).take (k+1)) (w1.setCell ⟨g,0,none⟩ (.slice d1 (B.length+1) mW))):=hend
    have c1:wr.cell? ⟨g,0,none⟩=some v1:=cell_of_row _ _ 0 _ _ _ q1
    obtain⟨m,hm⟩:=ai (n/2^j%2)
    have hand:bits .and .u64 ((n:Int)/2^j) 1=(m:Int):=by
     have h1:=and_one (n/2^j) (Nat.lt_of_le_of_lt (Nat.div_le_self _ _) HN.out)
     rw[<-hm] at h1
     simpa using h1
    have heq:((m:Int)==1)=n.testBit j:=by
     rw[hm,Nat.testBit_eq_decide_div_mod_eq]
     by_cases h:n/2^j%2=1
     ·simp[h]
     ·have:n/2^j%2=0:=by have:=Nat.mod_lt (n/2^j) (show 0<2 by omega);omega
      simp[this]
    obtain⟨tb,htb⟩:=ai (n.testBit j)
    rw[<-htb] at heq HR
    have c2:((wr.alloc (.cells #[.bool tb] 4)).drew).cell? ⟨g,0,none⟩=some v1:=by
     have hb:Below wr.heap.size wr ((wr.alloc (.cells #[.bool tb] 4)).drew):=((Below.refl _ _).alloc (Nat.le_refl _) _).drew
     rw[hb.cell (p:=⟨g,0,none⟩) (World.block_lt_of_cell? wr _ c1)];exact c1
    rw[hji]
    clear hrun hend e3 e4 e5 q1 q2 q3 q4 q5 hap hG1 hB hm htb hln hj hji
    go_wp2
    go_region_law (refine aH rfl (.tmp 42) (.tmp 48) 296 rfl _ _ _ rfl rfl HR.out ?_)
    all_goals
     go_wp2
     go_roundw
     case rel=>exact⟨k+1,by omega,by have:=HJ.out;first|go_num|(congr 1;omega),HE.out⟩
     case measure=>simp[intOf]
   ·obtain rfl:k=W:=by omega
    have hneg:(k:Int)-1-(k:Int) = -1:=by omega
    rw[hneg]
    have hT:(az n k).take k=az n k:=by rw[List.take_of_length_le];rw[ak];exact Nat.le_refl _
    have HE:Hid (Left RW w G g (bs++az n k) wr):=⟨G1,by rw[<-hT];exact⟨v1,q1,q2,q3,q4,q5⟩,hap,hG1⟩
    clear q1 q2 q3 q4 q5 hap hG1 hT hneg
    go_wp2
    go_ret
    exact⟨rfl,HE.out⟩
def qX (k n:Nat)(W:Int):Nat:=if W<0\/64<W\/¬ n<2^W.toNat then 1 else if 8192<k+W.toNat then 2 else 0
def jF (bs:List Bool)(n:Nat)(W:Int):List Bool:=if qX bs.length n W=0 then bs++az n W.toNat else bs
def gp (k m:Nat):Nat:=if 1024<m\/8192<k+8*m then 2 else 0
def bV (bs:List Bool)(l:List UInt8):List Bool:=if gp bs.length l.length=0 then bs++bitsOf l else bs
theorem Bz (l:List UInt8)(k:Nat)(x:UInt8)(h:l[k]?=some x):bitsOf (l.take (k+1))=bitsOf (l.take k)++jT x:=by
 rw[bJ l k x h,gL];simp[bitsOf]
theorem DU (w:World)(g:Nat)(bs:List Bool)(G:Nat->Prop)(h:RW w g bs G)(x:Option Addr)(cx:Nat)(l:List UInt8)(hx:ag w x cx l)(Sc:∀ b off,x=some ⟨b,off,none⟩->l≠[]->¬ G b)(hk:bs.length<=8192):
  Calls Tryz.prog 223 #[.pointer (some ⟨g,0,none⟩),.slice x l.length cx] w λe w'=>e=.returned (.int .i64 (gp bs.length l.length:Nat))/\Left RW w G g (bV bs l) w':=by
 have hlm:l.length<=9223372036854775807:=by have:=hx.fits;have:=hx.room;unfold maxLen at this;omega
 have hsame:Left RW w G g bs w:=⟨G,h,Apart.refl _ _,λ_ h=>.inl h⟩
 have HH:=h
 obtain⟨v,h1,h2,_⟩:=h
 obtain⟨d,cd,rfl⟩:∃ d cd,v=.slice d bs.length cd:=by
  rcases h2.2 with ⟨rfl,h0⟩|⟨q,cap,cur,rfl,_⟩
  ·exact⟨none,0,by rw[h0]⟩
  ·exact⟨_,_,rfl⟩
 have c0:w.cell? ⟨g,0,none⟩=some (.slice d bs.length cd):=cell_of_row _ _ 0 _ _ _ h1
 by_cases hbad:1024<l.length\/8192<bs.length+8*l.length
 ·have e1:gp bs.length l.length=2:=by unfold gp;rw[if_pos hbad]
  have e2:bV bs l=bs:=by unfold bV;rw[e1];rfl
  rw[e1,e2]
  clear h1 h2 e1 e2 HH Sc hx
  by_cases hA:1024<l.length
  ·have dA:decide ((1024:Int)<(l.length:Int))=true:=by simp;omega
   clear hbad
   go_enter Tryz.func223,Tryz.ntmps223
   go_wp2
   go_ret
   exact⟨rfl,hsame⟩
  ·have dA:decide ((1024:Int)<(l.length:Int))=false:=by simp;omega
   have dB:decide ((8192:Int)<(bs.length:Int)+8*(l.length:Int))=true:=by simp;omega
   clear hbad
   go_enter Tryz.func223,Tryz.ntmps223
   go_wp2
   go_ret
   exact⟨rfl,hsame⟩
 ·have e1:gp bs.length l.length=0:=by unfold gp;rw[if_neg hbad]
  have e2:bV bs l=bs++bitsOf l:=by unfold bV;rw[if_pos e1]
  rw[e1,e2]
  have hl1:l.length<=1024:=by omega
  have hl2:bs.length+8*l.length<=8192:=by omega
  have dA:decide ((1024:Int)<(l.length:Int))=false:=by simp;omega
  have dB:decide ((8192:Int)<(bs.length:Int)+8*(l.length:Int))=false:=by simp;omega
  have HX:Hid (ag w x cx l):=hx
  have HXN:Hid (∀ b off,x=some ⟨b,off,none⟩->l≠[]->¬ G b):=Sc
  have hst:Left RW w G g (bs++bitsOf (l.take 0)) w:=⟨G,by rw[List.take_zero,bitsOf,List.append_nil];exact HH,Apart.refl _ _,λ_ h=>.inl h⟩
  clear h1 h2 e1 e2 HH Sc hx hbad hsame
  go_enter Tryz.func223,Tryz.ntmps223
  go_wp2
  go_loopw [5] (λi wr=>∃ k:Nat,k<=l.length/\i=.int .i64 k/\Left RW w G g (bs++bitsOf (l.take k)) wr) (λi _=>l.length-(intOf i).toNat)
  case atStart=>exact⟨0,Nat.zero_le _,rfl,hst⟩
  case round=>
   obtain⟨k,hk',rfl,G1,hR,hap,hG1⟩:=hrel
   clear hst c0
   by_cases hlt:k<l.length
   ·obtain⟨y,hy⟩:∃ y,l[k]?=some y:=⟨l[k],by simp[hlt]⟩
    have hs2:=hap.sees HX.out HXN.out
    obtain⟨b1,o1,rfl,hc1⟩:=hs2.get hy
    have hB:(bs++bitsOf (l.take k)).length+8<=8192:=by
     rw[List.length_append,aC,List.length_take];omega
    obtain⟨B2,hB2⟩:=ai (bs++bitsOf (l.take (k+1)))
    have hput:Calls Tryz.prog 221 #[.pointer (some ⟨g,0,none⟩),.int .u64 (y.toNat:Int),.int .i64 8] wr λe w'=>e=.returned (.int .i64 0)/\Left RW wr G1 g B2 w':=by
     rw[hB2,Bz l k y hy,<-List.append_assoc,<-qY]
     exact FW wr g _ G1 hR y.toNat 8 (by omega) (by have:=dZ y;omega) hB
    have HB2:Hid (B2=bs++bitsOf (l.take (k+1))):=hB2
    have wy:IntKind.u64.wrap (y.toNat:Int)=(y.toNat:Int):=by have:=dZ y;rw[IntKind.wrap_u64];omega
    clear hR hs2 hy hB2 hB
    go_wp2_with fail
    refine hput.mono ?_
    rintro e w2 ⟨rfl,G2,hR2,jh,hG2⟩
    have HE:Hid (Left RW w G g (bs++bitsOf (l.take (k+1))) w2):=⟨G2,by rw[<-HB2.out];exact hR2,hap.trans jh hG1,λi hi=>by
     rcases hG2 i hi with h|h
     ·exact hG1 i h
     ·have:=hap.size;exact .inr (by omega)⟩
    clear hput hR2 jh hG2
    go_wp2
    go_roundw
    case rel=>exact⟨k+1,by omega,by go_num,HE.out⟩
    case measure=>simp[intOf];omega
   ·obtain rfl:k=l.length:=by omega
    have HE:Hid (Left RW w G g (bs++bitsOf l) wr):=⟨G1,by rw[List.take_length] at hR;exact hR,hap,hG1⟩
    clear hR hap hG1
    go_wp2
    go_ret
    exact⟨rfl,HE.out⟩
theorem IL (l:List UInt8)(i:Nat)(x:UInt8):(l.map cellOf).set i (.int .u8 (x.toNat:Int))=(l.set i x).map cellOf:=by rw[List.map_set];rfl
theorem IM (m:Nat):dK [] m=List.replicate m 0:=by
 apply List.ext_getElem?
 intro i
 by_cases h:i<m
 ·rw[gM _ _ _ h,List.getElem?_replicate,if_pos h];rfl
 ·rw[List.getElem?_eq_none (by rw[aQ];omega),List.getElem?_eq_none (by simp;omega)]
theorem IP (w:World)(g:Nat)(bs:List Bool)(G:Nat->Prop)(h:RW w g bs G)(hk:bs.length<=8192):
  Calls Tryz.prog 209 #[.pointer (some ⟨g,0,none⟩)] w λe w'=>∃ d cd r,Hid (r=aZ bs)/\e=.returned (.slice d r.length cd)/\ag w' d cd r/\Below w.heap.size w w':=by
 obtain⟨i5,hi,hz0,hz1,hz2⟩:=info_parts Tryz.info5
 obtain⟨v,h1,h2,h3,_,h5⟩:=h
 have hgl:=h5 g h3
 obtain⟨d,cd,rfl⟩:∃ d cd,v=.slice d bs.length cd:=by
  rcases h2.2 with ⟨rfl,h0⟩|⟨q,cap,cur,rfl,_⟩
  ·exact⟨none,0,by rw[h0]⟩
  ·exact⟨_,_,rfl⟩
 have c0:w.cell? ⟨g,0,none⟩=some (.slice d bs.length cd):=cell_of_row _ _ 0 _ _ _ h1
 have HO:Hid (w.ownsRow 0 4 1 (.slice d bs.length cd) bs.length (bs.map .bool)):=h2
 obtain⟨N,hN⟩:=ai ((bs.length+7)/8)
 have HN:Hid (N=(bs.length+7)/8):=hN
 have q1:((bs.length:Int)+7)/8=(N:Int):=by omega
 have q2:((bs.length:Int)+7).tdiv 8=(N:Int):=by rw[Int.tdiv_eq_ediv_of_nonneg (by omega)];exact q1
 have Sd:N<=1024:=by omega
 clear h1 h2 h5 hN h3
 go_enter Tryz.func209,Tryz.ntmps209
 go_wp2_with (at_make;refine wpList_make_full _ rfl _ _ 24 rfl w.heap.size 5 i5 (.int .u8 0) 1 Tryz.underlying24 hi hz0 hz1 .i64 .i64 _ _ N rfl rfl rfl rfl ?b2 ?b3 ?b4 ?_)
 case b2=>rw[hz2];omega
 case b3=>unfold maxLen;omega
 case b4=>exact Nat.le_refl _
 intro w1 hown hgrow
 have hbel:Below w.heap.size w w1:=(Below.refl _ _).grown hgrow (Nat.le_refl _) (by intro k h;cases h)
 have ho0:w1.ownsRow w.heap.size 5 1 (.slice (some ⟨w.heap.size,0,none⟩) N N) N ((dK (bs.take 0) N).map cellOf):=by rw[List.take_zero,IM,<-jk];simpa using hown
 clear hgrow hown
 go_wp2
 go_loopw [4] (λi wr=>∃ k:Nat,k<=bs.length/\i=.int .i64 k/\wr.ownsRow w.heap.size 5 1 (.slice (some ⟨w.heap.size,0,none⟩) N N) N ((dK (bs.take k) N).map cellOf)/\Below w.heap.size w wr) (λi _=>bs.length-(intOf i).toNat)
 case atStart=>exact⟨0,Nat.zero_le _,rfl,ho0,hbel⟩
 case round=>
  obtain⟨p,hp,rfl,ho,hbl⟩:=hrel
  clear ho0 hbel q1 q2
  have c1:wr.cell? ⟨g,0,none⟩=some (.slice d bs.length cd):=by rw[hbl.cell (p:=⟨g,0,none⟩) hgl];exact c0
  by_cases hlt:p<bs.length
  ·obtain⟨t,ht⟩:=ai (bs[p])
   obtain⟨qb,rfl,hcb⟩:∃ qb,d=some ⟨qb,0,none⟩/\wr.cell? ⟨qb,p,none⟩=some (.bool t):=by
    have h2:=HO.out
    rcases h2.2 with ⟨_,h0⟩|⟨q,cap,cur,he,_⟩
    ·omega
    ·simp only[Value.slice.injEq] at he
     obtain⟨rfl,_,rfl⟩:=he
     have h6:=h2.cells (g:=q) rfl p (.bool t) (by simp[hlt,ht])
     rw[Addr.add_lit] at h6
     simp only[Nat.zero_add] at h6
     exact⟨q,rfl,by rw[hbl.cell (p:=⟨q,p,none⟩) (World.block_lt_of_cell? w _ h6)];exact h6⟩
   obtain⟨q,hq⟩:=ai (p/8)
   obtain⟨r,hr⟩:=ai (p%8)
   obtain⟨s,hs⟩:=ai (7-r)
   have hqN:q<N:=by have:=HN.out;omega
   obtain⟨x,hx⟩:∃ x,(dK (bs.take p) N)[q]?=some x:=⟨_,gM _ _ _ hqN⟩
   have hor:=LF bs N p hlt (by rw[<-hq];exact hqN) x (by rw[<-hq];exact hx)
   rw[<-hq,<-hr,<-hs,<-ht] at hor
   cases t with
   | false =>
     have hset : (dK    (bs.take p) N).set q x = dK    (bs.take p) N := by
       apply List.ext_getElem?
       intro i
       rw [List.getElem?_set]
       by_cases hi : q = i
       · subst hi; rw [if_pos rfl, if_pos (by rw [aQ]; exact hqN), hx]
       · rw [if_neg hi]
     rw [if_neg (by simp), hset] at hor
     rw [hor] at ho
     clear hor hset hx hq hr hs ht
     go_wp2
     go_roundw
     case rel => exact ⟨p + 1, by omega, by go_num, ho, hbl⟩
     case measure => simp [intOf]; omega
   | true =>
     rw [if_pos rfl] at hor
     have hs8 : s < 8 := by omega
     obtain ⟨y, hy⟩ := ai (x ||| UInt8.ofNat (2 ^ s))
     obtain ⟨T, hT⟩ := ai (2 ^ s)
     have hT8 : T < 256 := by rw [hT]; exact Nat.pow_lt_pow_right (a := 2) (n := 8) (by omega) (by omega)
     have eT : (2 : Int) ^ s = (T : Int) := by rw [hT]; simp
     have ey : bits .or .u8 (x.toNat : Int) (T : Int) = (y.toNat : Int) := by
       have h1 := bor x (UInt8.ofNat (2 ^ s))
       rw [← hy, UInt8.toNat_ofNat', ← hT, Nat.mod_eq_of_lt hT8] at h1
       exact h1
     have wT : IntKind.u8.wrap (T : Int) = (T : Int) := by rw [IntKind.wrap_u8]; omega
     rw [← hy] at hor
     have hcx : wr.cell? ⟨w.heap.size, q, none⟩ = some (.int .u8 (x.toNat : Int)) := by rw [ho.cellAt q (by omega), List.getElem?_map, hx]; rfl
     have hfx : wr.frozen? ⟨w.heap.size, q, none⟩ = false := ho.frozenAt q
     obtain ⟨ho2, _⟩ := ho.stored q (.int .u8 (y.toNat : Int))
     rw [IL, hor] at ho2
     have HO2 : Hid ((wr.setCell ⟨w.heap.size, q, none⟩ (.int .u8 (y.toNat : Int))).drew.ownsRow w.heap.size 5 1 (.slice (some ⟨w.heap.size, 0, none⟩) N N) N ((dK (bs.take (p + 1)) N).map cellOf)) := ho2.drew
     have K7 : Hid (Below w.heap.size w (wr.setCell ⟨w.heap.size, q, none⟩ (.int .u8 (y.toNat : Int))).drew) := (hbl.setCell (p := ⟨w.heap.size, q, none⟩) (Nat.le_refl _) _).drew
     have q1 : (p : Int) / 8 = (q : Int) := by omega
     have q2 : (p : Int).tdiv 8 = (q : Int) := by rw [Int.tdiv_eq_ediv_of_nonneg (by omega)]; exact q1
     have r1 : (p : Int) % 8 = (r : Int) := by omega
     have r2 : (p : Int).tmod 8 = (r : Int) := by rw [Int.tmod_eq_emod_of_nonneg (by omega)]; exact r1
     have s1 : 7 - (r : Int) = (s : Int) := by omega
     have s2 : IntKind.i64.wrap (7 - (r : Int)) = (s : Int) := by rw [IntKind.wrap_i64]; omega
     have gq0 : (0 : Int) ≤ (q : Int) := Int.natCast_nonneg _
     have gq1 : (q : Int) < (N : Int) := by omega
     have gs0 : (0 : Int) ≤ (s : Int) := Int.natCast_nonneg _
     clear hor ho ho2 hbl hx hy hT hq hr hs ht
     go_wp2
     go_region
     go_wp2
     go_roundw
     case rel => exact ⟨p + 1, by omega, by go_num, HO2.out, K7.out⟩
     case measure => simp [intOf]; omega
  ·obtain rfl:p=bs.length:=by omega
   rw[List.take_length] at ho
   have hpk:dK bs N=aZ bs:=by rw[HN.out];rfl
   rw[hpk] at ho
   have hpl:(aZ bs).length=N:=by rw[dH,HN.out]
   obtain⟨r,hr⟩:=ai (aZ bs)
   rw[<-hr] at ho hpl
   obtain⟨c,cc,hv,hs⟩:=ag.bA ho
   simp only[Value.slice.injEq] at hv
   rw[<-hv.1,<-hv.2.2] at hs
   have HR:Hid (r=aZ bs):=hr
   have HPL:Hid (r.length=N):=hpl
   clear hv ho hpk hr hpl
   go_wp2
   go_ret
   exact⟨_,_,r,HR,by rw[HPL.out];rfl,hs,hbl⟩
def RR (a:Option Addr)(cap:Nat)(l:List UInt8)(w:World)(g:Nat)(at_:Nat)(G:Nat->Prop):Prop:=
 w.heap[g]?=some (.cells #[.slice a l.length cap,.int .i64 (at_:Int)] 148 (0,0))/\G g/\∀ k,G k->k<w.heap.size
theorem jC (a:Option Addr)(cap:Nat)(l:List UInt8):Kept (RR a cap l) where
 lt:=λ⟨_,_,h⟩=>h
 keep:=λ{w w' b s F} ⟨h1,h2,h3⟩ hk=>⟨(hk b h2).trans h1,h2,λk hF=>by
  have h8:w'.heap[k]?=some (w.heap[k]'(h3 k hF)):=by rw[hk k hF];simp[h3 k hF]
  exact(Array.getElem?_eq_some_iff.1 h8).1⟩
theorem RR.cells {a:Option Addr}{cap:Nat}{w:World}{g at_:Nat}{G:Nat->Prop}(h:RR a cap l w g at_ G):w.cell? ⟨g,0,none⟩=some (.slice a l.length cap)/\w.cell? ⟨g,1,none⟩=some (.int .i64 (at_:Int))/\w.frozen? ⟨g,1,none⟩=false:=
 ⟨cell_of_row _ _ 0 _ _ _ h.1,cell_of_row _ _ 1 _ _ _ h.1,frozen_of_row _ _ 1 _ _ h.1⟩
theorem RR.moved {a:Option Addr}{cap:Nat}{w:World}{g at_:Nat}{G:Nat->Prop}(h:RR a cap l w g at_ G)(m:Nat):RR a cap l (w.setCell ⟨g,1,none⟩ (.int .i64 (m:Int))) g m G:=
 ⟨by rw[heap_setCell_same _ _ _ _ _ _ h.1];rfl,h.2.1,λk hk=>by simpa using h.2.2 k hk⟩
theorem ko (a:Option Addr)(cap:Nat)(l:List UInt8)(w:World)(g at_:Nat)(G:Nat->Prop)(h:RR a cap l w g at_ G)(hl:l.length<=140737488355328)(hat:at_<=8*l.length):
  Calls Tryz.prog 133 #[.pointer (some ⟨g,0,none⟩)] w λe w'=>e=.returned (.int .i64 ((8*l.length-at_:Nat):Int))/\∃ m,w'=w.drewN m:=by
 obtain⟨c0,c1,_⟩:=h.cells
 have e1:8*(l.length:Int)-(at_:Int)=((8*l.length-at_:Nat):Int):=by omega
 obtain⟨R,hR⟩:=ai (8*l.length-at_)
 rw[<-hR] at e1 ⊢
 clear hR h
 go_enter Tryz.func133,Tryz.ntmps133
 go_wp2
 go_quiet (fail)
 go_wp2
 go_ret
 exact⟨rfl,_,rfl⟩
theorem or_bit (N:Nat)(b:Bool)(h:N<9223372036854775808):bits .or .u64 (((2*N:Nat)):Int) (b.toNat:Int)=((2*N+b.toNat:Nat):Int):=by
 have hb:b.toNat<2:=by cases b<;>simp
 have h1:=u64_or_nat (2*N) b.toNat (by omega) (by omega)
 rw[h1]
 congr 1
 have h2:=Nat.shiftLeft_add_eq_or_of_lt (a:=N) (i:=1) (b:=b.toNat) (by omega)
 rw[Nat.shiftLeft_eq,Nat.pow_one,Nat.mul_comm] at h2
 exact h2.symm
theorem LG (n:Nat)(h:n<256):bits .and .u8 (n:Int) 1=((n%2:Nat):Int):=by
 have:=u8_and_nat n 1 h (by omega)
 rw[Nat.and_one_is_mod] at this
 exact this
theorem vJ (n j:Nat):n/2^j%2=(n.testBit j).toNat:=by
 rw[Nat.testBit_eq_decide_div_mod_eq]
 rcases Nat.mod_two_eq_zero_or_one (n/2^j) with h|h<;>simp[h]
def aG (l:List UInt8)(at_ k:Nat):List Bool:=((bitsOf l).drop at_).take k
theorem DV (l:List UInt8)(at_ k:Nat)(t:Bool)(h:(bitsOf l)[at_+k]?=some t):aG l at_ (k+1)=aG l at_ k++[t]:=by
 unfold aG
 rw[List.take_add_one,List.getElem?_drop,h];rfl
theorem mX (l:List UInt8)(at_ k:Nat):(aG l at_ k).length<=k:=by unfold aG;rw[List.length_take];omega
theorem zU (a:Option Addr)(cap:Nat)(l:List UInt8)(w:World)(g at_:Nat)(G:Nat->Prop)(h:RR a cap l w g at_ G)(hs:ag w a cap l)(hsn:∀ b off,a=some ⟨b,off,none⟩->l≠[]->¬ G b)(hl:l.length<=140737488355328)(V:Nat)(hV:V<=64)(hat:at_+V<=8*l.length):
  Calls Tryz.prog 134 #[.pointer (some ⟨g,0,none⟩),.int .i64 (V:Int)] w λe w'=>e=.returned (.tuple #[.int .u64 ((num (aG l at_ V):Nat):Int),.int .i64 0])/\Left (RR a cap l) w G g (at_+V) w':=by
 have hlf:=ko a cap l w g at_ G h hl (by omega)
 obtain⟨R,hR⟩:=ai (8*l.length-at_)
 rw[<-hR] at hlf
 have hVR:V<=R:=by omega
 have TE:R<=9223372036854775807:=by omega
 have dW0:decide ((V:Int)<0)=false:=by simp
 have VU:decide ((64:Int)<(V:Int))=false:=by simp;omega
 have HH:Hid (RR a cap l w g at_ G):=h
 have HS:Hid (ag w a cap l):=hs
 have Sg:Hid (∀ b off,a=some ⟨b,off,none⟩->l≠[]->¬ G b):=hsn
 clear h hs hsn hR
 go_enter Tryz.func134,Tryz.ntmps134
 go_wp2_with fail
 refine hlf.mono ?_
 rintro e w1 ⟨rfl,m,hm⟩
 have oH:Hid (Left (RR a cap l) w G g (at_+0) w1):=by
  rw[hm];exact⟨G,(jC a cap l).keep HH.out (λ_ _=>rfl),⟨rfl,rfl,rfl,Nat.le_refl _,λ_ _ _=>rfl⟩,λ_ h=>.inl h⟩
 clear hlf hm
 go_wp2
 go_loopw [6,7] (λnv i wr=>∃ k:Nat,k<=V/\i=.int .i64 k/\nv=.int .u64 ((num (aG l at_ k):Nat):Int)/\Left (RR a cap l) w G g (at_+k) wr) (λ_ i _=>V-(intOf i).toNat)
 case atStart=>exact⟨0,Nat.zero_le _,rfl,by simp[aG,num],oH.out⟩
 case round=>
  obtain⟨k,hk,rfl,rfl,G1,hr,hap,hG1⟩:=hrel
  clear oH
  by_cases hlt:k<V
  ·obtain⟨c0,c1,f1⟩:=hr.cells
   obtain⟨p,hp⟩:=ai (at_+k)
   rw[<-hp] at c1 hr
   obtain⟨q,hq⟩:=ai (p/8)
   obtain⟨r,hr8⟩:=ai (p%8)
   obtain⟨s,hs⟩:=ai (7-r)
   have VV:q<l.length:=by omega
   obtain⟨x,hx⟩:∃ x,l[q]?=some x:=⟨l[q],by simp[VV]⟩
   obtain⟨b1,o1,rfl,hc1⟩:=(hap.sees HS.out Sg.out).get hx
   obtain⟨t,ht⟩:=ai (x.toNat.testBit s)
   have hbit:(bitsOf l)[at_+k]?=some t:=by rw[ht,hs,hr8,<-hp];exact rZ l p x (by rw[<-hq];exact hx)
   obtain⟨N,hN⟩:=ai (num (aG l at_ k))
   have VW:N<9223372036854775808:=by
    rw[hN]
    have h1:=mg (aG l at_ k)
    have h2:2^(aG l at_ k).length<=2^63:=Nat.pow_le_pow_right (by omega) (by have:=mX l at_ k;omega)
    omega
   have hnext:num (aG l at_ (k+1))=2*N+t.toNat:=by rw[DV l at_ k t hbit,BA,hN]
   obtain⟨N2,Sd⟩:=ai (2*N+t.toNat)
   obtain⟨tn,htn⟩:=ai t.toNat
   have ZG:tn<2:=by rw[htn];cases t<;>simp
   have ZH:bits .and .u8 ((x.toNat:Int)/2^s) 1=(tn:Int):=by
    have h1:=LG (x.toNat/2^s) (Nat.lt_of_le_of_lt (Nat.div_le_self _ _) (dZ x))
    rw[vJ,<-ht,<-htn] at h1
    simpa using h1
   have eor:bits .or .u64 ((N:Int)*2) (tn:Int)=(N2:Int):=by
    have h1:=or_bit N t VW
    rw[<-Sd,<-htn] at h1
    rw[<-h1];congr 1;omega
   have wtn:IntKind.u64.wrap (tn:Int)=(tn:Int):=by rw[IntKind.wrap_u64];omega
   have wN:IntKind.u64.wrap ((N:Int)*2)=(N:Int)*2:=by rw[IntKind.wrap_u64];omega
   have tL:Hid (∀ m,Left (RR (some ⟨b1,o1,none⟩) cap l) w G g (at_+(k+1)) ((wr.drewN m).setCell ⟨g,1,none⟩ (.int .i64 ((p+1:Nat):Int)))):=λm=>by
    refine⟨G1,?_,?_,hG1⟩
    ·rw[show at_+(k+1)=p+1 by omega]
     exact RR.moved ((jC _ cap l).keep hr (w':=wr.drewN m) (λ_ _=>rfl)) (p+1)
    ·have h1:Apart G w (wr.drewN m):=⟨hap.os,hap.tape,hap.output,hap.size,hap.block⟩
     exact h1.setCell (hG1 g hr.2.1) 1 _
   have FX:Hid (num (aG l at_ (k+1))=N2):=by rw[hnext,Sd];exact rfl
   have q1:(p:Int)/8=(q:Int):=by omega
   have q2:(p:Int).tdiv 8=(q:Int):=by rw[Int.tdiv_eq_ediv_of_nonneg (by omega)];exact q1
   have r1:(p:Int)%8=(r:Int):=by omega
   have r2:(p:Int).tmod 8=(r:Int):=by rw[Int.tmod_eq_emod_of_nonneg (by omega)];exact r1
   have s1:7-(r:Int)=(s:Int):=by omega
   have s2:IntKind.i64.wrap (7-(r:Int))=(s:Int):=by rw[IntKind.wrap_i64];omega
   have gq0:(0:Int)<=(q:Int):=Int.natCast_nonneg _
   have gq1:(q:Int)<(l.length:Int):=by omega
   have gs0:(0:Int)<=(s:Int):=Int.natCast_nonneg _
   have hp2:p+1<=9223372036854775807:=by omega
   have hs8:s<8:=by omega
   have hmin:min s 8=s:=by omega
   rw[<-hN]
   clear hr hap hG1 hp hq hr8 hs hx ht hbit hN hnext Sd htn VW
   go_wp2
   go_quiet (fail)
   go_wp2
   go_roundw
   case rel=>exact⟨k+1,by omega,by go_num,by rw[FX.out],tL.out _⟩
   case measure=>simp[intOf];omega
  ·obtain rfl:k=V:=by omega
   have HE:Hid (Left (RR a cap l) w G g (at_+k) wr):=⟨G1,hr,hap,hG1⟩
   clear hr hap hG1
   go_wp2
   go_ret2
   exact⟨rfl,HE.out⟩
def kQ (left:Nat)(W:Int):Nat:=if W<0\/64<W then 1 else if (left:Int)<W then 3 else 0
def nN (l:List UInt8)(at_:Nat)(W:Int):Nat:=if kQ (8*l.length-at_) W=0 then num (aG l at_ W.toNat) else 0
def iL (l:List UInt8)(at_:Nat)(W:Int):Nat:=if kQ (8*l.length-at_) W=0 then at_+W.toNat else at_
theorem BB (l:List UInt8)(at_:Nat)(W:Int)(h:at_<=8*l.length):iL l at_ W<=8*l.length:=by
 unfold iL
 by_cases h0:kQ (8*l.length-at_) W=0
 ·rw[if_pos h0]
  unfold kQ at h0
  by_cases h1:W<0\/64<W
  ·rw[if_pos h1] at h0;cases h0
  ·rw[if_neg h1] at h0
   by_cases h2:((8*l.length-at_:Nat):Int)<W
   ·rw[if_pos h2] at h0;cases h0
   ·omega
 ·rw[if_neg h0];exact h
theorem LH (a:Option Addr)(cap:Nat)(l:List UInt8)(w:World)(g at_:Nat)(G:Nat->Prop)(h:RR a cap l w g at_ G)(hs:ag w a cap l)(hsn:∀ b off,a=some ⟨b,off,none⟩->l≠[]->¬ G b)(hl:l.length<=140737488355328)(W:Int)(hat:at_<=8*l.length):
  Calls Tryz.prog 134 #[.pointer (some ⟨g,0,none⟩),.int .i64 W] w λe w'=>e=.returned (.tuple #[.int .u64 ((nN l at_ W:Nat):Int),.int .i64 ((kQ (8*l.length-at_) W:Nat):Int)])/\Left (RR a cap l) w G g (iL l at_ W) w':=by
 have hsame:∀ m,Left (RR a cap l) w G g at_ (w.drewN m):=λm=>⟨G,(jC a cap l).keep h (λ_ _=>rfl),⟨rfl,rfl,rfl,Nat.le_refl _,λ_ _ _=>rfl⟩,λ_ h=>.inl h⟩
 by_cases hbad:W<0\/64<W
 ·have e1:kQ (8*l.length-at_) W=1:=by unfold kQ;rw[if_pos hbad]
  have e2:nN l at_ W=0:=by unfold nN;rw[e1];rfl
  have e3:iL l at_ W=at_:=by unfold iL;rw[e1];rfl
  rw[e1,e2,e3]
  have H0:Hid (Left (RR a cap l) w G g at_ w):=hsame 0
  clear h hs hsn e1 e2 e3 hsame
  by_cases h0:W<0
  ·clear hbad
   go_enter Tryz.func134,Tryz.ntmps134
   go_wp2
   go_ret2
   exact⟨rfl,H0.out⟩
  ·have h64:64<W:=by omega
   clear hbad
   go_enter Tryz.func134,Tryz.ntmps134
   go_wp2
   go_ret2
   exact⟨rfl,H0.out⟩
 obtain⟨V,rfl⟩:∃ V:Nat,W=(V:Int):=⟨W.toNat,by omega⟩
 have hV:V<=64:=by omega
 by_cases hsh:((8*l.length-at_:Nat):Int)<(V:Int)
 ·have e1:kQ (8*l.length-at_) V=3:=by unfold kQ;rw[if_neg hbad,if_pos hsh]
  have e2:nN l at_ V=0:=by unfold nN;rw[e1];rfl
  have e3:iL l at_ V=at_:=by unfold iL;rw[e1];rfl
  rw[e1,e2,e3]
  have hlf:=ko a cap l w g at_ G h hl hat
  obtain⟨R,hR⟩:=ai (8*l.length-at_)
  rw[<-hR] at hlf hsh
  have hVR:R<V:=by omega
  have TE:R<=9223372036854775807:=by omega
  have zV:Hid (∀ m,Left (RR a cap l) w G g at_ (w.drewN m)):=hsame
  have dW0:decide ((V:Int)<0)=false:=by simp
  have VU:decide ((64:Int)<(V:Int))=false:=by simp;omega
  clear h hs hsn e1 e2 e3 hsame hR hsh hbad
  go_enter Tryz.func134,Tryz.ntmps134
  go_wp2_with fail
  refine hlf.mono ?_
  rintro e w1 ⟨rfl,m,rfl⟩
  clear hlf
  go_wp2
  go_ret2
  exact⟨rfl,zV.out m⟩
 ·have e1:kQ (8*l.length-at_) V=0:=by unfold kQ;rw[if_neg hbad,if_neg hsh]
  have e2:nN l at_ V=num (aG l at_ V):=by unfold nN;rw[if_pos e1];rfl
  have e3:iL l at_ V=at_+V:=by unfold iL;rw[if_pos e1];rfl
  rw[e1,e2,e3]
  exact zU a cap l w g at_ G h hs hsn hl V hV (by omega)
theorem IQ (t:List Bool)(h:t.length=8):jT (UInt8.ofNat (num t))=t:=by
 match t,h with
 | [b0, b1, b2, b3, b4, b5, b6, b7], _ =>
   have := uG (fun k => [b0, b1, b2, b3, b4, b5, b6, b7].getD k false)
   unfold byteOf at this
   exact this
theorem cu (l:List UInt8)(at_ k:Nat)(h:at_+k<=8*l.length):(aG l at_ k).length=k:=by
 unfold aG;rw[List.length_take,List.length_drop,aC];omega
theorem yE (l:List UInt8)(at_ k m:Nat):aG l at_ (k+m)=aG l at_ k++aG l (at_+k) m:=by
 unfold aG;rw[List.take_add,List.drop_drop]
theorem yF (l:List UInt8)(at_ k:Nat)(h:at_+8*(k+1)<=8*l.length):aZ (aG l at_ (8*(k+1)))=aZ (aG l at_ (8*k))++[UInt8.ofNat (num (aG l (at_+8*k) 8))]:=by
 apply nO
 rw[gL,jl,jl,cu l at_ _ h,cu l at_ _ (by omega)]
 have h1:bitsOf [UInt8.ofNat (num (aG l (at_+8*k) 8))]=aG l (at_+8*k) 8:=by
  rw[bitsOf,bitsOf,List.append_nil,IQ _ (cu l _ _ (by omega))]
 rw[h1,show 8*((8*(k+1)+7)/8)-8*(k+1)=0 by omega,show 8*((8*k+7)/8)-8*k=0 by omega,List.replicate_zero,List.append_nil,List.append_nil,show 8*(k+1)=8*k+8 by omega,yE]
def fU (left:Nat)(n:Int):Nat:=if n<0\/1024<n then 1 else if (left:Int)<8*n then 3 else 0
def jd (l:List UInt8)(at_:Nat)(n:Int):List UInt8:=if fU (8*l.length-at_) n=0 then aZ (aG l at_ (8*n.toNat)) else []
def dV (l:List UInt8)(at_:Nat)(n:Int):Nat:=if fU (8*l.length-at_) n=0 then at_+8*n.toNat else at_
theorem LJ (a:Option Addr)(cap:Nat)(l:List UInt8)(w:World)(g at_:Nat)(G:Nat->Prop)(h:RR a cap l w g at_ G)(hs:ag w a cap l)(hsn:∀ b off,a=some ⟨b,off,none⟩->l≠[]->¬ G b)(hsl:∀ b off,a=some ⟨b,off,none⟩->l≠[]->b<w.heap.size)(hl:l.length<=140737488355328)(n:Nat)(hn:n<=1024)(hat:at_+8*n<=8*l.length):
  Calls Tryz.prog 175 #[.pointer (some ⟨g,0,none⟩),.int .i64 (n:Int)] w λe w'=>∃ d cd r,Hid (r=aZ (aG l at_ (8*n)))/\e=.returned (.tuple #[.slice d r.length cd,.int .i64 0])/\ag w' d cd r/\Left (RR a cap l) w G g (at_+8*n) w':=by
 have hlf:=ko a cap l w g at_ G h hl (by omega)
 obtain⟨R,hR⟩:=ai (8*l.length-at_)
 rw[<-hR] at hlf
 have hVR:8*n<=R:=by omega
 have TE:R<=9223372036854775807:=by omega
 have HH:Hid (RR a cap l w g at_ G):=h
 have HS:Hid (ag w a cap l):=hs
 have Sg:Hid (∀ b off,a=some ⟨b,off,none⟩->l≠[]->¬ G b):=hsn
 have HSL:Hid (∀ b off,a=some ⟨b,off,none⟩->l≠[]->b<w.heap.size):=hsl
 clear h hs hsn hR hsl
 go_enter Tryz.func175,Tryz.ntmps175
 go_wp2_with fail
 refine hlf.mono ?_
 rintro e w1 ⟨rfl,m,hm⟩
 have oH:Hid (Left (RR a cap l) w G g (at_+8*0) w1):=by
  rw[hm];exact⟨G,(jC a cap l).keep HH.out (λ_ _=>rfl),⟨rfl,rfl,rfl,Nat.le_refl _,λ_ _ _=>rfl⟩,λ_ h=>.inl h⟩
 have VX:w1.ownsRow w.heap.size 5 1 (.slice none 0 0) ([]:List UInt8).length (([]:List UInt8).map cellOf):=World.ownsRow_nil _ _ _ _
 clear hlf hm
 go_wp2
 go_loopw [6,7,8,9] (λv i _ _ wr=>∃ (k:Nat) (acc:List UInt8) (d:Option Addr) (cd:Nat),k<=n/\i=.int .i64 k/\v=.slice d acc.length cd/\Hid (acc=aZ (aG l at_ (8*k)))/\Hid (acc.length=k)/\wr.ownsRow w.heap.size 5 1 (.slice d acc.length cd) acc.length (acc.map cellOf) /\
   Hid (∃ G1,RR a cap l wr g (at_+8*k) G1/\Apart G w wr/\(∀ i,G1 i->G i\/w.heap.size<=i)/\∀ q,(Value.slice d acc.length cd).ownBlock=some q->¬ G1 q)) (λ_ i _ _ _=>n-(intOf i).toNat)
 case atStart=>
  obtain⟨G1,h1,h2,h3⟩:=oH.out
  exact⟨0,[],none,0,Nat.zero_le _,rfl,rfl,by rw[show aG l at_ (8*0)=[] from by simp[aG]];exact rfl,rfl,VX,G1,h1,h2,h3,λq h=>by simp[Value.ownBlock] at h⟩
 case round=>
  obtain⟨k,acc,d,cd,hk,rfl,rfl,hacc,hal,own,hst⟩:=hrel
  clear oH VX
  by_cases hlt:k<n
  ·obtain⟨G1,hr,hap,hG1,hq⟩:=hst.out
   have hs1:=hap.sees HS.out Sg.out
   have hget:=zU a cap l wr g (at_+8*k) G1 hr hs1 (λb off he hne hf=>by
    rcases hG1 b hf with h|h
    ·exact Sg.out b off he hne h
    ·have:=HSL.out b off he hne;omega) hl 8 (by omega) (by omega)
   obtain⟨N,hN⟩:=ai (num (aG l (at_+8*k) 8))
   rw[<-hN] at hget
   have Si:Calls Tryz.prog 134 #[.pointer (some ⟨g,0,none⟩),.int .i64 8] wr λe w'=>e=.returned (.tuple #[.int .u64 (N:Int),.int .i64 0])/\Left (RR a cap l) wr G1 g (at_+8*k+8) w':=hget
   have hN8:N<256:=by
    rw[hN]
    have h1:=mg (aG l (at_+8*k) 8)
    have h2:2^(aG l (at_+8*k) 8).length<=2^8:=Nat.pow_le_pow_right (by omega) (mX l _ 8)
    omega
   have HN:Hid (N=num (aG l (at_+8*k) 8)):=hN
   have DW:∀ q,(Value.slice d acc.length cd).ownBlock=some q->q<wr.heap.size:=λq hq=>(own.lt _ hq).2
   clear hget hN hst hs1
   go_wp2_with fail
   refine Si.mono ?_
   rintro e w2 ⟨rfl,G2,hr2,jh,hG2⟩
   have VY:w2.ownsRow w.heap.size 5 1 (.slice d acc.length cd) acc.length (acc.map cellOf):=by
    refine⟨own.1,?_⟩
    rcases own.2 with h0|⟨q,c2,cur,he,hlow,hqq,h7⟩
    ·exact .inl h0
    ·refine .inr ⟨q,c2,cur,he,hlow,?_,h7⟩
     have Pv:(Value.slice d acc.length cd).ownBlock=some q:=by rw[he];rfl
     rw[jh.block q (DW q Pv) (hq q Pv)];exact hqq
   have P6:∀ q,(Value.slice d acc.length cd).ownBlock=some q->¬ G2 q:=λq h hg=>by
    rcases hG2 q hg with h1|h1
    ·exact hq q h h1
    ·have:=DW q h;omega
   obtain⟨x,hx⟩:=ai (UInt8.ofNat N:UInt8)
   have hxN:(x.toNat:Int)=(N:Int):=by rw[hx,UInt8.toNat_ofNat'];simp;omega
   have hsz2:w.heap.size<=w2.heap.size:=Nat.le_trans hap.size jh.size
   have hsx:ag (w2.alloc (.cells #[.int .u8 (N:Int)] 5)) (some ⟨w2.heap.size,0,none⟩) 1 [x]:=⟨Nat.le_refl _,by unfold maxLen;simp,by simp,λ_=>⟨_,0,rfl,λi y hy=>by
    match i,hy with
    | 0,hy=>simp at hy;subst hy;rw[hxN];exact cell_of_row _ _ 0 _ _ _ (heap_alloc_new w2 _)
    | k+1,hy=>simp at hy⟩⟩
   have hbA:Below w2.heap.size w2 (w2.alloc (.cells #[.int .u8 (N:Int)] 5)):=(Below.refl _ _).alloc (Nat.le_refl _) _
   obtain⟨i5,hi,hz0,hz1,hz2⟩:=info_parts Tryz.info5
   have iX:=gW VY hbA
   obtain⟨v',w3,hrun,ho',hgr,_,Pv⟩:=run_append_own_at (P:=Tryz.prog) (w2.alloc (.cells #[.int .u8 (N:Int)] 5)) w.heap.size 24 24 5 i5 (.int .u8 0) 1 1 Tryz.underlying24 hi hz0 hz1 hz2 rfl (by omega) (.slice d acc.length cd) acc.length (acc.map cellOf) iX ⟨w2.heap.size,0,none⟩ 1 1 ([x].map cellOf) (by simp) (hsx.news _ rfl) (bu [x]) (by have:=hal.out;unfold maxLen;omega) (by have:=hal.out;omega) (by simp;omega)
   have ho3:w3.ownsRow w.heap.size 5 1 v' (acc++[x]).length ((acc++[x]).map cellOf):=by simpa using ho'
   obtain⟨d3,c3,rfl,_⟩:=ag.bA ho3
   obtain⟨A,hA⟩:=ai (acc++[x])
   rw[<-hA] at ho3 hrun Pv
   have hAl:Hid (A.length=k+1):=by rw[hA,List.length_append,hal.out];exact rfl
   have HR:Hid ((Builtin.append_ #[24,24] 24 #[.slice d acc.length cd,.slice (some ⟨w2.heap.size,0,none⟩) 1 1]).run Tryz.prog (w2.alloc (.cells #[.int .u8 (N:Int)] 5))=.ok (.slice d3 A.length c3) w3):=hrun
   have HAE:Hid (A=aZ (aG l at_ (8*(k+1)))):=by rw[hA,hacc.out,hx,HN.out];exact(yF l at_ k (by omega)).symm
   have hsA:(w2.alloc (.cells #[.int .u8 (N:Int)] 5)).heap.size=w2.heap.size+1:=by simp
   have HST:Hid (∃ G1,RR a cap l w3 g (at_+8*(k+1)) G1/\Apart G w w3/\(∀ i,G1 i->G i\/w.heap.size<=i)/\∀ q,(Value.slice d3 A.length c3).ownBlock=some q->¬ G1 q):=by
    refine⟨G2,?_,?_,?_,?_⟩
    ·rw[show at_+8*(k+1)=at_+8*k+8 by omega]
     refine(jC a cap l).keep hr2 λq hg=>?_
     have hlt2:=(jC a cap l).lt hr2 q hg
     rw[hgr.block q (by omega) (λe=>P6 q e.symm hg),hbA.block q hlt2]
    ·have h1:Apart G w w2:=hap.trans jh hG1
     have h2:Apart G w (w2.alloc (.cells #[.int .u8 (N:Int)] 5)):=h1.trans (Apart.of_below (F:=λ_=>False) hbA) (λ_ h=>h.elim)
     exact h2.grown hgr (λq hq2=>.inr (own.lt _ hq2).1)
    ·intro i hi2
     rcases hG2 i hi2 with h|h
     ·exact hG1 i h
     ·have:=hap.size;exact .inr (by omega)
    ·intro q hq2 hg
     rcases Pv with h|h
     ·exact P6 q (by rw[<-h];exact hq2) hg
     ·rw[h] at hq2
      have h9:q=(w2.alloc (.cells #[.int .u8 (N:Int)] 5)).heap.size:=by simpa using hq2.symm
      have:=(jC a cap l).lt hr2 q hg
      omega
   have wN:IntKind.u8.wrap (N:Int)=(N:Int):=by rw[IntKind.wrap_u8];omega
   clear Si hrun ho' hgr Pv hA own VY iX hr2 jh hG2 hr hap hG1 hq P6 hsx hx hxN hacc DW hbA hsA
   go_wp2_with (at_builtin;refine wpList_append_run rfl _ _ 24 rfl _ _ _ rfl rfl HR.out ?_)
   go_roundw
   case rel=>exact⟨k+1,A,d3,c3,by omega,by go_num,rfl,HAE,hAl,ho3,HST⟩
   case measure=>simp[intOf];omega
  ·obtain rfl:k=n:=by omega
   obtain⟨G1,hr,hap,hG1,_⟩:=hst.out
   have HE:Hid (Left (RR a cap l) w G g (at_+8*k) wr):=⟨G1,hr,hap,hG1⟩
   obtain⟨d2,c2,hv,hs2⟩:=ag.bA own
   simp only[Value.slice.injEq] at hv
   rw[<-hv.1,<-hv.2.2] at hs2
   clear hr hap hG1 hv own hst
   go_wp2
   go_ret2
   exact⟨d,cd,acc,hacc,rfl,hs2,HE.out⟩
theorem IU (a:Option Addr)(cap:Nat)(l:List UInt8)(w:World)(g at_:Nat)(G:Nat->Prop)(h:RR a cap l w g at_ G)(hs:ag w a cap l)(hsn:∀ b off,a=some ⟨b,off,none⟩->l≠[]->¬ G b)(hsl:∀ b off,a=some ⟨b,off,none⟩->l≠[]->b<w.heap.size)(hl:l.length<=140737488355328)(n:Int)(hat:at_<=8*l.length):
  Calls Tryz.prog 175 #[.pointer (some ⟨g,0,none⟩),.int .i64 n] w λe w'=>∃ d cd r,Hid (r=jd l at_ n)/\e=.returned (.tuple #[.slice d r.length cd,.int .i64 ((fU (8*l.length-at_) n:Nat):Int)])/\ag w' d cd r/\Left (RR a cap l) w G g (dV l at_ n) w':=by
 have hsame:∀ m,Left (RR a cap l) w G g at_ (w.drewN m):=λm=>⟨G,(jC a cap l).keep h (λ_ _=>rfl),⟨rfl,rfl,rfl,Nat.le_refl _,λ_ _ _=>rfl⟩,λ_ h=>.inl h⟩
 by_cases hbad:n<0\/1024<n
 ·have e1:fU (8*l.length-at_) n=1:=by unfold fU;rw[if_pos hbad]
  have e2:jd l at_ n=[]:=by unfold jd;rw[e1];rfl
  have e3:dV l at_ n=at_:=by unfold dV;rw[e1];rfl
  rw[e1,e2,e3]
  have H0:Hid (Left (RR a cap l) w G g at_ w):=hsame 0
  clear h hs hsn hsl e1 e2 e3 hsame
  by_cases h0:n<0
  ·clear hbad
   go_enter Tryz.func175,Tryz.ntmps175
   go_wp2
   go_ret2
   exact⟨none,0,[],rfl,rfl,ag.nil' _,H0.out⟩
  ·have h64:1024<n:=by omega
   clear hbad
   go_enter Tryz.func175,Tryz.ntmps175
   go_wp2
   go_ret2
   exact⟨none,0,[],rfl,rfl,ag.nil' _,H0.out⟩
 obtain⟨V,rfl⟩:∃ V:Nat,n=(V:Int):=⟨n.toNat,by omega⟩
 have hV:V<=1024:=by omega
 by_cases hsh:((8*l.length-at_:Nat):Int)<8*(V:Int)
 ·have e1:fU (8*l.length-at_) V=3:=by unfold fU;rw[if_neg hbad,if_pos hsh]
  have e2:jd l at_ V=[]:=by unfold jd;rw[e1];rfl
  have e3:dV l at_ V=at_:=by unfold dV;rw[e1];rfl
  rw[e1,e2,e3]
  have hlf:=ko a cap l w g at_ G h hl hat
  obtain⟨R,hR⟩:=ai (8*l.length-at_)
  rw[<-hR] at hlf hsh
  have hVR:R<8*V:=by omega
  have TE:R<=9223372036854775807:=by omega
  have zV:Hid (∀ m,Left (RR a cap l) w G g at_ (w.drewN m)):=hsame
  clear h hs hsn hsl e1 e2 e3 hsame hR hsh hbad
  go_enter Tryz.func175,Tryz.ntmps175
  go_wp2_with fail
  refine hlf.mono ?_
  rintro e w1 ⟨rfl,m,rfl⟩
  clear hlf
  go_wp2
  go_ret2
  exact⟨none,0,[],rfl,rfl,ag.nil' _,zV.out m⟩
 ·have e1:fU (8*l.length-at_) V=0:=by unfold fU;rw[if_neg hbad,if_neg hsh]
  have e2:jd l at_ V=aZ (aG l at_ (8*V)):=by unfold jd;rw[if_pos e1];rfl
  have e3:dV l at_ V=at_+8*V:=by unfold dV;rw[if_pos e1];rfl
  rw[e1,e2,e3]
  exact LJ a cap l w g at_ G h hs hsn hsl hl V hV (by omega)
def jN (l:List UInt8)(at_:Nat):Nat:=if 7<8*l.length-at_ then 4 else if num (aG l at_ (8*l.length-at_))=0 then 0 else 4
theorem LK (a:Option Addr)(cap:Nat)(l:List UInt8)(w:World)(g at_:Nat)(G:Nat->Prop)(h:RR a cap l w g at_ G)(hs:ag w a cap l)(hsl:∀ b off,a=some ⟨b,off,none⟩->l≠[]->b<w.heap.size)(hl:l.length<=140737488355328)(hat:at_<=8*l.length):
  Calls Tryz.prog 79 #[.pointer (some ⟨g,0,none⟩)] w λe w'=>e=.returned (.int .i64 ((jN l at_:Nat):Int))/\Below w.heap.size w w':=by
 obtain⟨c0,c1,_⟩:=h.cells
 have HS:Hid (ag w a cap l):=hs
 have HSL:Hid (∀ b off,a=some ⟨b,off,none⟩->l≠[]->b<w.heap.size):=hsl
 clear h hs hsl
 go_enter Tryz.func79,Tryz.ntmps79
 go_wp2
 go_region
 obtain⟨W0,hW0⟩:=ai ((w.alloc (.cells #[.slice a l.length cap,.int .i64 (at_:Int)] 148)).drew)
 have hB0:Below w.heap.size w W0:=by rw[hW0];exact((Below.refl _ _).alloc (Nat.le_refl _) _).drew
 have hsz0:W0.heap.size=w.heap.size+1:=by rw[hW0];simp
 have hr0:RR a cap l W0 w.heap.size at_ (λk=>k=w.heap.size):=⟨by rw[hW0];exact heap_alloc_new w _,rfl,by rintro k rfl;omega⟩
 rw[<-hW0]
 have hlf:=ko a cap l W0 w.heap.size at_ _ hr0 hl hat
 obtain⟨R,hR⟩:=ai (8*l.length-at_)
 rw[<-hR] at hlf
 have HR:Hid (R=8*l.length-at_):=hR
 have TE:R<=9223372036854775807:=by omega
 clear hW0 c0 c1 hR
 go_wp2_with fail
 refine hlf.mono ?_
 rintro e w1 ⟨rfl,m1,hw1⟩
 have hr1:RR a cap l w1 w.heap.size at_ (λk=>k=w.heap.size):=by rw[hw1];exact(jC a cap l).keep hr0 (λ_ _=>rfl)
 have hB1:Below w.heap.size w w1:=by rw[hw1];exact⟨hB0.os,hB0.tape,hB0.output,hB0.size,hB0.block⟩
 clear hlf hw1 hr0 hB0 hsz0
 by_cases h7:7<R
 ·have e1:jN l at_=4:=by unfold jN;rw[if_pos (by rw[<-HR.out];exact h7)]
  have bG:Hid (jN l at_=4):=e1
  clear e1 hr1
  go_wp2
  go_ret
  exact⟨by rw[bG.out];rfl,hB1⟩
 ·have TF:=ko a cap l w1 w.heap.size at_ _ hr1 hl hat
  rw[<-HR.out] at TF
  go_wp2_with fail
  refine TF.mono ?_
  rintro e w2 ⟨rfl,m2,hw2⟩
  have hr2:RR a cap l w2 w.heap.size at_ (λk=>k=w.heap.size):=by rw[hw2];exact(jC a cap l).keep hr1 (λ_ _=>rfl)
  have hB2:Below w.heap.size w w2:=by rw[hw2];exact⟨hB1.os,hB1.tape,hB1.output,hB1.size,hB1.block⟩
  have hget:=zU a cap l w2 w.heap.size at_ _ hr2 (HS.out.below hB2) (λb off he hne hf=>by have:=HSL.out b off he hne;omega) hl R (by omega) (by have:=HR.out;omega)
  obtain⟨Z,hZ⟩:=ai (num (aG l at_ R))
  rw[<-hZ] at hget
  have HZ:Hid (Z=num (aG l at_ R)):=hZ
  clear TF hw2 hr1 hB1 hZ
  go_wp2_with fail
  refine hget.mono ?_
  rintro e w3 ⟨rfl,hL3⟩
  have hB3:=hL3.below hB2 (by rintro k rfl;exact Nat.le_refl _) hB2.size
  clear hget hr2 hL3
  by_cases hz:Z=0
  ·have e1:jN l at_=0:=by unfold jN;rw[if_neg (by rw[<-HR.out];exact h7),if_pos (by rw[<-HR.out,<-HZ.out];exact hz)]
   have bG:Hid (jN l at_=0):=e1
   clear e1 HZ
   subst hz
   go_wp2
   go_ret
   exact⟨by rw[bG.out];rfl,hB3⟩
  ·have e1:jN l at_=4:=by unfold jN;rw[if_neg (by rw[<-HR.out];exact h7),if_neg (by rw[<-HR.out,<-HZ.out];exact hz)]
   have bG:Hid (jN l at_=4):=e1
   clear e1
   go_wp2
   go_ret
   exact⟨by rw[bG.out];rfl,hB3⟩
structure Fr where
 k:Int
 f:Int
 t:Int
 e:Int
 s:Int
 r:Int
 n:Nat
 m:Int
 v:Int
 i:Int
 key:List UInt8
 body:List UInt8
 tag:List UInt8
def Fr.zero:Fr:=⟨0,0,0,0,0,0,0,0,0,0,[],[],[]⟩
def iY (n most:Int):Bool:=decide (0<=n/\n<=most)
def si (F:Fr):Bool:=iY F.f 7&&iY F.t 7&&iY F.e 65535&&iY F.s 1048576&&iY F.r 1048576&&iY F.m 1099511627776&&iY F.v 255&&iY F.i 256
def bH (F:Fr):Bool:=
 si F&&decide (F.body.length<=16) &&
  (if F.k = 1 then decide (F.key.length = 16 ∧ F.t = 0 ∧ F.n = 0 ∧ F.m = 0 ∧ F.s = 0)
   else if F.k = 2 then decide (F.f ≠ F.t ∧ F.key.length = 0 ∧ F.e = 0 ∧ F.i = 0 ∧ F.r = 0 ∧ F.v = 0 ∧ F.body.length = 0 ∧ F.m = 0 ∧ F.s = 0)
   else if F.k = 3 then decide (F.f ≠ F.t ∧ F.key.length = 16 ∧ F.r = 0 ∧ F.v = 0 ∧ F.body.length = 0)
   else false)
def dw (F:Fr):Bool:=bH F&&decide (F.tag.length=8)
def iy (F:Fr):List Bool:=az F.t.toNat 4++az F.n 64
def oO (F:Fr):List Bool:=iy F++az F.m.toNat 48++az F.e.toNat 16++az F.s.toNat 24++az F.i.toNat 16++bitsOf F.key
def oP (F:Fr):List Bool:=az F.e.toNat 16++az F.r.toNat 24++az F.v.toNat 8++az F.i.toNat 16++bitsOf F.key++az F.body.length 5++bitsOf F.body
def fV (F:Fr):List Bool:=if F.k=1 then oP F else if F.k=2 then iy F else oO F
def aU (F:Fr):List Bool:=az F.k.toNat 4++az F.f.toNat 4++fV F
def mY (F:Fr):List UInt8:=aZ (aU F)
def IV (F:Fr):List UInt8:=sj (aZ (aU F++bitsOf F.tag))
structure Rs where
 at_:Nat
 miss:Bool
def bq (l:List UInt8)(s:Rs)(W:Nat):Nat:=nN l s.at_ (W:Int)
def bE (l:List UInt8)(s:Rs)(W:Nat):Rs:=⟨iL l s.at_ (W:Int),s.miss||decide (kQ (8*l.length-s.at_) (W:Int)≠0)⟩
def iZ (l:List UInt8)(s:Rs)(n:Nat):List UInt8:=jd l s.at_ (n:Int)
def eX (l:List UInt8)(s:Rs)(n:Nat):Rs:=⟨dV l s.at_ (n:Int),s.miss||decide (fU (8*l.length-s.at_) (n:Int)≠0)⟩
def vU (l:List UInt8)(F:Fr)(s:Rs):Fr×Rs:=
 let s1:=bE l s 4
 ({ F with t:=bq l s 4,n:=bq l s1 64 },bE l s1 64)
def FY (l:List UInt8)(F:Fr)(s:Rs):Fr×Rs:=
 let p:=vU l F s
 let s1:=bE l p.2 48
 let s2:=bE l s1 16
 let s3:=bE l s2 24
 let s4:=bE l s3 16
 ({ p.1 with m:=bq l p.2 48,e:=bq l s1 16,s:=bq l s2 24,i:=bq l s3 16,key:=iZ l s4 16 },eX l s4 16)
def FZ (l:List UInt8)(F:Fr)(s:Rs):Fr×Rs:=
 let s1:=bE l s 16
 let s2:=bE l s1 24
 let s3:=bE l s2 8
 let s4:=bE l s3 16
 let s5:=eX l s4 16
 let s6:=bE l s5 5
 ({ F with e:=bq l s 16,r:=bq l s1 24,v:=bq l s2 8,i:=bq l s3 16,key:=iZ l s4 16,body:=iZ l s6 (bq l s5 5) },eX l s6 (bq l s5 5))
def mZ (l:List UInt8):Fr×Rs:=
 let s0:Rs:=⟨0,false⟩
 let s1:=bE l s0 4
 let s2:=bE l s1 4
 let F:Fr:={ Fr.zero with k:=bq l s0 4,f:=bq l s1 4 }
 if F.k=1 then FZ l F s2 else if F.k=2 then vU l F s2 else if F.k=3 then FY l F s2 else (F,s2)
def aD (l:List UInt8):Fr×Rs:=
 let p:=mZ l
 ({ p.1 with tag:=iZ l p.2 8 },eX l p.2 8)
def fF (l:List UInt8):Bool := !(aD l).2.miss&&decide (jN l (aD l).2.at_=0)&&dw (aD l).1
def iH (l:List UInt8):Nat:=if l.length<3 then 3 else if iQ l=false then 8 else if fF (l.take (l.length-3))=false then 4 else 0
def aX (l:List UInt8):Fr:=if iH l=0 then (aD (l.take (l.length-3))).1 else Fr.zero
theorem dI (l:List UInt8)(s:Rs)(W:Nat):bq l s W<2^W:=by
 unfold bq nN
 split
 ·refine Nat.lt_of_lt_of_le (mg _) (Nat.pow_le_pow_right (by omega) ?_)
  have:=mX l s.at_ W
  simpa using this
 ·exact Nat.two_pow_pos W
theorem Ga:∀ (a b:List Bool),a.length=b.length->num a=num b->a=b:=by
 intro a
 induction a with
 | nil=>intro b h _;cases b;rfl;simp at h
 | cons x a ih =>
   intro b h hn
   cases b with
   | nil => simp at h
   | cons y b =>
     have hl : a.length = b.length := by simpa using h
     rw [su, su, hl] at hn
     have ha := mg a
     have hb := mg b
     rw [hl] at ha
     have hxy : x = y := by
       cases x <;> cases y <;> simp at hn ⊢ <;> omega
     subst hxy
     rw [ih b hl (by omega)]
theorem IW (t:List Bool):az (num t) t.length=t:=by
 apply Ga
 ·rw[ak]
 ·rw[tO,Nat.mod_eq_of_lt (mg t)]
structure K8 (l:List UInt8)(s:Rs)(B:List Bool):Prop where
 ok:s.miss=false
 le:s.at_<=8*l.length
 bits:(bitsOf l).take s.at_=B
 len:B.length=s.at_
theorem K8.start (l:List UInt8):K8 l ⟨0,false⟩ []:=⟨rfl,Nat.zero_le _,by simp,rfl⟩
theorem K8.number {s:Rs}(h:K8 l s B)(W:Nat)(hm:(bE l s W).miss=false):K8 l (bE l s W) (B++az (bq l s W) W):=by
 have h0:kQ (8*l.length-s.at_) (W:Int)=0:=by
  unfold bE at hm
  simp only[h.ok,Bool.false_or,decide_eq_false_iff_not,ne_eq,Decidable.not_not] at hm
  exact hm
 have hW:s.at_+W<=8*l.length/\W<=64:=by
  have hle:=h.le
  unfold kQ at h0
  by_cases h1:(W:Int)<0\/64<(W:Int)
  ·rw[if_pos h1] at h0;cases h0
  ·rw[if_neg h1] at h0
   by_cases h2:((8*l.length-s.at_:Nat):Int)<W
   ·rw[if_pos h2] at h0;cases h0
   ·omega
 have TG:(bE l s W).at_=s.at_+W:=by unfold bE iL;simp[h0]
 have en:bq l s W=num (aG l s.at_ W):=by unfold bq nN;rw[if_pos h0];simp
 have eb:az (bq l s W) W=aG l s.at_ W:=by
  rw[en]
  have:=IW (aG l s.at_ W)
  rw[cu l s.at_ W hW.1] at this
  exact this
 refine⟨hm,by rw[TG];exact hW.1,?_,by rw[TG,List.length_append,h.len,ak]⟩
 rw[TG,List.take_add,h.bits,eb];rfl
theorem K8.Vs {s:Rs}(h:K8 l s B)(n:Nat)(hm:(eX l s n).miss=false):K8 l (eX l s n) (B++bitsOf (iZ l s n))/\(iZ l s n).length=n:=by
 have h0:fU (8*l.length-s.at_) (n:Int)=0:=by
  unfold eX at hm
  simp only[h.ok,Bool.false_or,decide_eq_false_iff_not,ne_eq,Decidable.not_not] at hm
  exact hm
 have hW:s.at_+8*n<=8*l.length:=by
  have hle:=h.le
  unfold fU at h0
  by_cases h1:(n:Int)<0\/1024<(n:Int)
  ·rw[if_pos h1] at h0;cases h0
  ·rw[if_neg h1] at h0
   by_cases h2:((8*l.length-s.at_:Nat):Int)<8*n
   ·rw[if_pos h2] at h0;cases h0
   ·omega
 have TG:(eX l s n).at_=s.at_+8*n:=by unfold eX dV;simp[h0]
 have en:iZ l s n=aZ (aG l s.at_ (8*n)):=by unfold iZ jd;rw[if_pos h0];simp
 have hnl:=cu l s.at_ (8*n) hW
 have eb:bitsOf (iZ l s n)=aG l s.at_ (8*n):=by
  rw[en,jl,hnl,show 8*((8*n+7)/8)-8*n=0 by omega,List.replicate_zero,List.append_nil]
 have hlen:(iZ l s n).length=n:=by rw[en,dH,hnl];omega
 refine⟨⟨hm,by rw[TG];exact hW,?_,by rw[TG,List.length_append,h.len,aC,hlen]⟩,hlen⟩
 rw[TG,List.take_add,h.bits,eb];rfl
theorem fu {s:Rs}{W:Nat}(h:(bE l s W).miss=false):s.miss=false:=by
 unfold bE at h;simp only[Bool.or_eq_false_iff] at h;exact h.1
theorem qi {s:Rs}{W:Nat}(h:(eX l s W).miss=false):s.miss=false:=by
 unfold eX at h;simp only[Bool.or_eq_false_iff] at h;exact h.1
theorem P7 (n most:Int):iY n most=true↔0<=n/\n<=most:=by simp[iY]
theorem ql (F:Fr):si F=true↔(0<=F.f/\F.f<=7)/\(0<=F.t/\F.t<=7)/\(0<=F.e/\F.e<=65535)/\(0<=F.s/\F.s<=1048576)/\(0<=F.r/\F.r<=1048576)/\(0<=F.m/\F.m<=1099511627776)/\(0<=F.v/\F.v<=255)/\(0<=F.i/\F.i<=256):=by
 simp[si,P7,and_assoc]
theorem zW {F G:Fr}(h0:F.k=G.k)(h1:F.f=G.f)(h2:F.t=G.t)(h3:F.e=G.e)(h4:F.s=G.s)(h5:F.r=G.r)(h6:F.n=G.n)(h7:F.m=G.m)(h8:F.v=G.v)(h9:F.i=G.i)(h10:F.key=G.key)(h11:F.body=G.body)(h12:F.tag=G.tag):F=G:=by
 cases F;cases G;simp_all
theorem uH:∀ k,num (List.replicate k false)=0
 | 0=>rfl
 | k+1=>by rw[List.replicate_succ,su,uH k];simp
theorem DX (t:List Bool)(h:num t=0):t=List.replicate t.length false:=Ga _ _ (by simp) (by rw[h,uH])
theorem K8.ended {s:Rs}(h:K8 l s B)(he:jN l s.at_=0):aZ B=l:=by
 have hle:=h.le
 have h7:8*l.length-s.at_<=7:=by
  unfold jN at he
  by_cases h1:7<8*l.length-s.at_
  ·rw[if_pos h1] at he;cases he
  ·omega
 have hz:num (aG l s.at_ (8*l.length-s.at_))=0:=by
  unfold jN at he
  rw[if_neg (by omega)] at he
  by_cases h1:num (aG l s.at_ (8*l.length-s.at_))=0
  ·exact h1
  ·rw[if_neg h1] at he;cases he
 have hr:=DX _ hz
 have hnl:=cu l s.at_ (8*l.length-s.at_) (by omega)
 rw[hnl] at hr
 have hall:bitsOf l=B++List.replicate (8*l.length-s.at_) false:=by
  rw[<-hr,<-h.bits]
  unfold aG
  rw[List.take_of_length_le (l:=(bitsOf l).drop s.at_) (by rw[List.length_drop,aC];omega),List.take_append_drop]
 apply nO
 rw[jl,hall,h.len]
 congr 2
 omega
theorem DY (l:List UInt8)(hm:(aD l).2.miss=false)(hr:dw (aD l).1=true):K8 l (aD l).2 (aU (aD l).1++bitsOf (aD l).1.tag):=by
 have hst:=K8.start l
 have hk3:(aD l).1.k=1\/(aD l).1.k=2\/(aD l).1.k=3:=by
  unfold dw bH at hr
  by_cases k1:(aD l).1.k=1
  ·exact .inl k1
  ·by_cases k2:(aD l).1.k=2
   ·exact .inr (.inl k2)
   ·by_cases k3:(aD l).1.k=3
    ·exact .inr (.inr k3)
    ·simp[k1,k2,k3] at hr
 clear hr
 obtain⟨s1,hs1⟩:=ai (bE l ⟨0,false⟩ 4)
 obtain⟨s2,hs2⟩:=ai (bE l s1 4)
 by_cases k1:((bq l ⟨0,false⟩ 4:Nat):Int)=1
 ·have hcore:mZ l=FZ l { Fr.zero with k:=bq l ⟨0,false⟩ 4,f:=bq l s1 4 } s2:=by
   rw[hs2,hs1];unfold mZ;simp only[k1,if_true]
  unfold aD at hm ⊢
  rw[hcore] at hm ⊢
  simp only[FZ] at hm ⊢
  have m8:=qi hm
  have m7:=qi m8
  have m6:=fu m7
  have m5:=qi m6
  have m4:=fu m5
  have m3:=fu m4
  have m2:=fu m3
  have m1:=fu m2
  rw[hs2] at m1
  have m0:=fu m1
  rw[hs1] at m0
  have d1:=hst.number 4 m0
  rw[<-hs1] at d1 m0
  have d2:=d1.number 4 m1
  rw[<-hs2] at d2 m1
  have d3:=d2.number 16 m2
  have d4:=d3.number 24 m3
  have d5:=d4.number 8 m4
  have d6:=d5.number 16 m5
  obtain⟨d7,z7⟩:=d6.Vs 16 m6
  have d8:=d7.number 5 m7
  obtain⟨d9,z9⟩:=d8.Vs _ m8
  obtain⟨d10,_⟩:=d9.Vs 8 hm
  simp only[aU,fV,k1,if_true,oP,Int.toNat_natCast,z9]
  rw[show (1:Int).toNat=bq l ⟨0,false⟩ 4 from by omega]
  simpa only [List.append_assoc,List.nil_append] using d10
 ·by_cases k2:((bq l ⟨0,false⟩ 4:Nat):Int)=2
  ·have hcore:mZ l=vU l { Fr.zero with k:=bq l ⟨0,false⟩ 4,f:=bq l s1 4 } s2:=by
    rw[hs2,hs1];unfold mZ;simp only[k2];rfl
   unfold aD at hm ⊢
   rw[hcore] at hm ⊢
   simp only[vU] at hm ⊢
   have m3:=qi hm
   have m2:=fu m3
   have m1:=fu m2
   rw[hs2] at m1
   have m0:=fu m1
   rw[hs1] at m0
   have d1:=hst.number 4 m0
   rw[<-hs1] at d1 m0
   have d2:=d1.number 4 m1
   rw[<-hs2] at d2 m1
   have d3:=d2.number 4 m2
   have d4:=d3.number 64 m3
   obtain⟨d10,_⟩:=d4.Vs 8 hm
   simp only[aU,fV,k2,if_true,iy,Int.toNat_natCast]
   rw[show (2:Int).toNat=bq l ⟨0,false⟩ 4 from by omega,if_neg (by decide)]
   simpa only [List.append_assoc,List.nil_append] using d10
  ·by_cases k3:((bq l ⟨0,false⟩ 4:Nat):Int)=3
   ·have hcore:mZ l=FY l { Fr.zero with k:=bq l ⟨0,false⟩ 4,f:=bq l s1 4 } s2:=by
     rw[hs2,hs1];unfold mZ;simp only[k3];rfl
    unfold aD at hm ⊢
    rw[hcore] at hm ⊢
    simp only[FY,vU] at hm ⊢
    have m8:=qi hm
    have m7:=qi m8
    have m6:=fu m7
    have m5:=fu m6
    have m4:=fu m5
    have m3:=fu m4
    have m2:=fu m3
    have m1:=fu m2
    rw[hs2] at m1
    have m0:=fu m1
    rw[hs1] at m0
    have d1:=hst.number 4 m0
    rw[<-hs1] at d1 m0
    have d2:=d1.number 4 m1
    rw[<-hs2] at d2 m1
    have d3:=d2.number 4 m2
    have d4:=d3.number 64 m3
    have d5:=d4.number 48 m4
    have d6:=d5.number 16 m5
    have d7:=d6.number 24 m6
    have d8:=d7.number 16 m7
    obtain⟨d9,_⟩:=d8.Vs 16 m8
    obtain⟨d10,_⟩:=d9.Vs 8 hm
    simp only[aU,fV,k3,oO,iy,Int.toNat_natCast]
    rw[show (3:Int).toNat=bq l ⟨0,false⟩ 4 from by omega,if_neg (by decide),if_neg (by decide)]
    simpa only [List.append_assoc,List.nil_append] using d10
   ·exfalso
    have hcore:mZ l=({ Fr.zero with k:=bq l ⟨0,false⟩ 4,f:=bq l s1 4 },s2):=by
     rw[hs2,hs1];unfold mZ;simp only[k1,k2,k3];rfl
    unfold aD at hk3
    rw[hcore] at hk3
    simp only at hk3
    omega
theorem P8 (l:List UInt8)(h:iH l=0):dw (aX l)=true/\IV (aX l)=l/\(aX l).n<18446744073709551616:=by
 have hF:aX l=(aD (l.take (l.length-3))).1:=by unfold aX;rw[if_pos h]
 unfold iH at h
 by_cases h3:l.length<3
 ·rw[if_pos h3] at h;cases h
 ·rw[if_neg h3] at h
  by_cases hg:iQ l=false
  ·rw[if_pos hg] at h;cases h
  ·rw[if_neg hg] at h
   by_cases hf:fF (l.take (l.length-3))=false
   ·rw[if_pos hf] at h;cases h
   ·have hf':fF (l.take (l.length-3))=true:=by simpa using hf
    have hg':iQ l=true:=by simpa using hg
    unfold fF at hf'
    simp only[Bool.and_eq_true,Bool.not_eq_true',decide_eq_true_eq] at hf'
    obtain⟨⟨hm,he⟩,hr⟩:=hf'
    have hd:=DY _ hm hr
    have hp:=hd.ended he
    rw[hF]
    refine⟨hr,?_,?_⟩
    ·unfold IV
     rw[hp]
     unfold iQ at hg'
     simp only[decide_eq_true_eq] at hg'
     exact hg'.2
    ·have Bw:∀ s,bq (l.take (l.length-3)) s 64<18446744073709551616:=λs=>dI _ s 64
     obtain⟨B,hB⟩:=ai 18446744073709551616
     have hB0:0<B:=by omega
     rw[<-hB] at Bw ⊢
     clear hB
     unfold aD mZ
     dsimp only
     split
     ·dsimp only[FZ,Fr.zero];exact hB0
     ·split
      ·dsimp only[vU];exact Bw _
      ·split
       ·dsimp only[FY,vU];exact Bw _
       ·dsimp only[Fr.zero];exact hB0
end Go.Proofs.YtmffplhaclnehaaGreatDoor
