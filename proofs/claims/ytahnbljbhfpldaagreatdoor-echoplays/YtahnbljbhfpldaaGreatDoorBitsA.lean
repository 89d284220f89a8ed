/-
  The document's writer: its Put.

  The document's writer: its Done.
  The document's reader: its Left and Get.

  The document's reader: its Get with errors, Bytes and End.

  The document's reader: its Bytes and End.
  Frames as bits, and back. No program here.
-/
import Derived.Test.YtahnbljbhfpldaaGreatDoorRows
import Derived.Test.YtahnbljbhfpldaaGreatDoorPure
import Derived.Deep.QuietTactic
import Derived.BigQuiet
import Derived.BigRegion
namespace Go.Proofs.YtahnbljbhfpldaaGreatDoor
set_option maxRecDepth 20000
set_option maxHeartbeats 3200000
open Go.ChangeShapes Go.WideShapes Go.ChangeAt Go.RowKit
def RW (w:World)(g:Nat)(bs:List Bool)(G:Nat->Prop):Prop:=
 ∃ v,w.heap[g]?=some (.cells #[v] 179 (0,0))/\w.ownsRow 0 4 1 v bs.length (bs.map .bool)/\G g/\(∀ k,v.ownBlock=some k->G k)/\∀ k,G k->k<w.heap.size
theorem rw_kept:Kept RW where
 lt:=λ⟨_,_,_,_,_,h⟩=>h
 keep:=λ{w w' b s F} ⟨v,h1,h2,h3,h4,h5⟩ hk=>by
  refine⟨v,(hk b h3).trans h1,?_,h3,h4,λk hF=>?_⟩
  ·refine⟨h2.1,?_⟩
   rcases h2.2 with h0|⟨g,cap,cur,rfl,hlow,hg,h7⟩
   ·exact .inl h0
   ·exact .inr ⟨g,cap,cur,rfl,hlow,(hk g (h4 g rfl)).trans hg,h7⟩
  ·have h8:w'.heap[k]?=some (w.heap[k]'(h5 k hF)):=by rw[hk k hF];simp[h5 k hF]
   exact(Array.getElem?_eq_some_iff.1 h8).1
theorem Tryz.info4:(Tryz.prog.info? 4).map (λi=>(i.zero,i.size,i.bytes))=some (some (.bool false),1,1):=by kernel_rfl
theorem and_one (n:Nat)(h:n<18446744073709551616):bits .and .u64 (n:Int) 1=((n%2:Nat):Int):=by
 have:=u64_and_nat n 1 h (by omega)
 rw[Nat.and_one_is_mod] at this
 exact this
theorem rw_more (w w0:World)(g:Nat)(bs:List Bool)(G:Nat->Prop)(b:Bool)(v:Value)(h1:w.heap[g]?=some (.cells #[v] 179 (0,0)))(h2:w.ownsRow 0 4 1 v bs.length (bs.map .bool))(h3:G g)(h4:∀ k,v.ownBlock=some k->G k)(h5:∀ k,G k->k<w.heap.size)(hl:bs.length<=10000)(hw0:w0=(w.drew).alloc (.cells #[.bool b] 4)):
  ∃ d cd w1, (Builtin.append_ #[177, 177] 177 #[v, .slice (some ⟨w.heap.size, 0, none⟩) 1 1]).run Tryz.prog w0 = .ok (.slice d (bs.length + 1) cd) w1 ∧ w1.cell? ⟨g, 0, none⟩ = some v ∧ w1.frozen? ⟨g, 0, none⟩ = false ∧
    Left RW w G g (bs ++ [b]) (w1.setCell ⟨g, 0, none⟩ (.slice d (bs.length + 1) cd)) := by
 obtain⟨i4,hi,hz0,hz1,hz2⟩:=info_parts Tryz.info4
 have hb0:Below w.heap.size w w0:=by rw[hw0];exact((Below.refl _ _).drew).alloc (Nat.le_refl _) _
 have hg:g<w.heap.size:=h5 g h3
 have ho0:w0.ownsRow 0 4 1 v bs.length (bs.map .bool):=by
  refine⟨h2.1,?_⟩
  rcases h2.2 with h0|⟨q,cap,cur,rfl,hlow,hq,h7⟩
  ·exact .inl h0
  ·exact .inr ⟨q,cap,cur,rfl,hlow,by rw[hb0.block q (Array.getElem?_eq_some_iff.1 hq).1];exact hq,h7⟩
 have hcell:∀ j u,([.bool b]:List Value)[j]?=some u->w0.cell? ((⟨w.heap.size,0,none⟩:Addr).add j)=some u:=by
  rw[hw0];exact World.news_of_block (w:=(w.drew).alloc (.cells #[.bool b] 4)) (cs:=#[.bool b]) (t:=4) (fr:=(0,0)) (heap_alloc_new w.drew _)
 have hs0:w0.heap.size=w.heap.size+1:=by rw[hw0];simp
 obtain⟨v',w1,hrun,ho1,hgr,_,hown⟩:=run_append_own_at (P:=Tryz.prog) w0 0 177 177 4 i4 (.bool false) 1 1 Tryz.underlying177 hi hz0 hz1 hz2 rfl (by omega) v bs.length (bs.map .bool) ho0 ⟨w.heap.size,0,none⟩ 1 1 [.bool b] rfl hcell (by simp[Value.oneCell']) (by unfold maxLen;omega) (by omega) (by omega)
 obtain⟨q,cap,rfl⟩:∃ q cap,v'=.slice (some ⟨q,0,none⟩) (bs.length+1) cap:=by
  rcases ho1.2 with ⟨_,h0⟩|⟨q,cap,cur,rfl,_⟩
  ·omega
  ·exact⟨q,cap,rfl⟩
 have hgv:v.ownBlock≠some g:=by
  intro e
  rcases h2.2 with ⟨rfl,_⟩|⟨q,cap,cur,rfl,_,hq,_⟩
  ·simp[Value.ownBlock] at e
  ·obtain rfl:q=g:=by simpa [Value.ownBlock] using e
   rw[h1] at hq;simp at hq
 have hg1:w1.heap[g]?=some (.cells #[v] 179 (0,0)):=by rw[hgr.block g (by omega) (λe=>hgv e.symm),hb0.block g hg];exact h1
 have hap:Apart G w w1:=(Apart.of_below hb0).grown hgr (λk hk=>.inl (h4 k hk))
 have hqn:q≠g:=by
  rintro rfl
  rcases ho1.2 with ⟨_,h0⟩|⟨q',cap',cur',he,_,hq',_⟩
  ·omega
  ·simp only[Value.slice.injEq,Option.some.injEq,Addr.mk.injEq] at he
   rw[<-he.1.1,hg1] at hq';simp at hq'
 refine⟨some ⟨q,0,none⟩,cap,w1,hrun,cell_of_row _ _ 0 _ _ _ hg1,frozen_of_row _ _ 0 _ _ hg1,λk=>k=g\/(k=q/\k<w1.heap.size) ,⟨.slice (some ⟨q,0,none⟩) (bs.length+1) cap,?_,?_,.inl rfl,?_,?_⟩,hap.setCell (.inl h3) 0 _,?_⟩
 ·rw[heap_setCell_same _ _ _ _ _ _ hg1];rfl
 ·have h6:w1.ownsRow 0 4 1 (.slice (some ⟨q,0,none⟩) (bs.length+1) cap) (bs++[b]).length ((bs++[b]).map .bool):=by simpa using ho1
  refine⟨h6.1,?_⟩
  rcases h6.2 with ⟨h0,_⟩|⟨q',cap',cur,he,hlow,hq',h7⟩
  ·cases h0
  ·refine .inr ⟨q',cap',cur,he,hlow,?_,h7⟩
   simp only[Value.slice.injEq,Option.some.injEq,Addr.mk.injEq] at he
   rw[heap_setCell_other _ _ _ _ (by rw[<-he.1.1];exact hqn)];exact hq'
 ·intro k hk
  obtain rfl:q=k:=by simpa [Value.ownBlock] using hk
  rcases ho1.2 with ⟨h0,_⟩|⟨q',cap',cur,he,hlow,hq',h7⟩
  ·cases h0
  ·simp only[Value.slice.injEq,Option.some.injEq,Addr.mk.injEq] at he
   exact .inr ⟨rfl,by rw[he.1.1];exact(Array.getElem?_eq_some_iff.1 hq').1⟩
 ·rintro k (rfl|⟨_,hk⟩)
  ·simpa using (show k<w1.heap.size from (Array.getElem?_eq_some_iff.1 hg1).1)
  ·simpa using hk
 ·rintro k (rfl|⟨rfl,_⟩)
  ·exact .inl h3
  ·rcases hown with h|h
   ·exact .inl (h4 k (by rw[<-h];rfl))
   ·have h9:k=w0.heap.size:=by simpa [Value.ownBlock] using h
    exact .inr (by omega)
theorem rput_ok (w:World)(g:Nat)(bs:List Bool)(G:Nat->Prop)(h:RW w g bs G)(n W:Nat)(hW:W<=64)(hn:n<2^W)(hl:bs.length+W<=8192):
  Calls Tryz.prog 126 #[.pointer (some ⟨g,0,none⟩),.int .u64 (n:Int),.int .i64 (W:Int)] w λe w'=>e=.returned (.int .i64 0)/\Left RW w G g (bs++bitsN n W) w':=by
 have hn64:n<18446744073709551616:=Nat.lt_of_lt_of_le hn (Nat.pow_le_pow_right (n:=2) (i:=W) (j:=64) (by omega) hW)
 have HN:Hid (n<18446744073709551616):=hn64
 have d0:(n:Int)/2^W=0:=by
  have:((n/2^W:Nat):Int)=0:=by rw[Nat.div_eq_of_lt hn];rfl
  simpa using this
 have hbl:Hid (bs.length+W<=8192):=hl
 obtain⟨v,h1,h2,h3,h4,h5⟩:=h
 have hH:Hid (RW w g bs G):=⟨v,h1,h2,h3,h4,h5⟩
 obtain⟨d,cd,rfl⟩:∃ d cd,v=.slice d bs.length cd:=by
  rcases h2.2 with ⟨rfl,h0⟩|⟨q,cap,cur,rfl,_⟩
  ·exact⟨none,0,by rw[h0]⟩
  ·exact⟨_,_,rfl⟩
 have c0:w.cell? ⟨g,0,none⟩=some (.slice d bs.length cd):=cell_of_row _ _ 0 _ _ _ h1
 have dl:decide ((8192:Int)<(bs.length:Int)+(W:Int))=false:=by simp;omega
 have hLw:Left RW w G g (bs++(bitsN n W).take 0) w:=⟨G,by rw[List.take_zero,List.append_nil];exact hH.out,Apart.refl _ _,λ_ h=>.inl h⟩
 have dW0:decide ((W:Int)<0)=false:=by simp
 have dW64:decide ((64:Int)<(W:Int))=false:=by simp;omega
 clear h1 h2 h3 h4 h5 hn hn64
 go_enter Tryz.func126,Tryz.ntmps126
 go_wp2
 all_goals
  go_loopw [7] (λi wr=>∃ k:Nat,k<=W/\i=.int .i64 ((W:Int)-1-(k:Int))/\Left RW w G g (bs++(bitsN n W).take k) wr) (λi _=>(intOf i+1).toNat)
  case atStart=>exact⟨0,Nat.zero_le _,by simp,hLw⟩
  case round=>
   obtain⟨k,hk,rfl,G1,⟨v1,q1,q2,q3,q4,q5⟩,hap,hG1⟩:=hrel
   clear hLw c0
   by_cases hlt:k<W
   ·obtain⟨j,hj⟩:∃ j,j=W-1-k:=⟨_,rfl⟩
    have hji:(W:Int)-1-(k:Int)=(j:Int):=by omega
    have HJ:Hid (j=W-1-k):=hj
    have hj64:j<64:=by omega
    have hmin:min j 64=j:=by omega
    have hln:(bs++(bitsN n W).take k).length<=10000:=by
     have:=hbl.out;rw[List.length_append,List.length_take,bitsN_length];omega
    obtain⟨B,hB⟩:∃ B,B=bs++(bitsN n W).take k:=⟨_,rfl⟩
    rw[<-hB] at q2 hln
    obtain⟨d1,cd1,w1,hrun,e1,e2,G2,e3,e4,e5⟩:=rw_more wr _ g B G1 (n.testBit j) v1 q1 q2 q3 q4 q5 hln rfl
    have hend:Left RW w G g (bs++(bitsN n W).take (k+1)) (w1.setCell ⟨g,0,none⟩ (.slice d1 (B.length+1) cd1)):=by
     refine⟨G2,?_,hap.trans e4 hG1,λi hi=>?_⟩
     ·rw[bitsN_take n W k hlt,<-List.append_assoc,<-hB,<-hj];exact e3
     ·rcases e5 i hi with h|h
      ·exact hG1 i h
      ·have:=hap.size;exact .inr (by omega)
    have HR:Hid ((Builtin.append_ #[177,177] 177 #[v1,.slice (some ⟨wr.heap.size,0,none⟩) 1 1]).run Tryz.prog ((wr.drew).alloc (.cells #[.bool (n.testBit j)] 4))=.ok (.slice d1 (B.length+1) cd1) w1):=hrun
    have HE:Hid (Left RW w G g (bs++(bitsN n W).take (k+1)) (w1.setCell ⟨g,0,none⟩ (.slice d1 (B.length+1) cd1))):=hend
    have c1:wr.cell? ⟨g,0,none⟩=some v1:=cell_of_row _ _ 0 _ _ _ q1
    obtain⟨m,hm⟩:∃ m,m=n/2^j%2:=⟨_,rfl⟩
    have hand:bits .and .u64 ((n:Int)/2^j) 1=(m:Int):=by
     have h1:=and_one (n/2^j) (Nat.lt_of_le_of_lt (Nat.div_le_self _ _) HN.out)
     rw[<-hm] at h1
     simpa using h1
    have heq:((m:Int)==1)=n.testBit j:=by
     rw[hm,Nat.testBit_eq_decide_div_mod_eq]
     by_cases h:n/2^j%2=1
     ·simp[h]
     ·have:n/2^j%2=0:=by have:=Nat.mod_lt (n/2^j) (show 0<2 by omega);omega
      simp[this]
    obtain⟨tb,htb⟩:∃ tb,tb=n.testBit j:=⟨_,rfl⟩
    rw[<-htb] at heq HR
    have c2:((wr.alloc (.cells #[.bool tb] 4)).drew).cell? ⟨g,0,none⟩=some v1:=by
     have hb:Below wr.heap.size wr ((wr.alloc (.cells #[.bool tb] 4)).drew):=((Below.refl _ _).alloc (Nat.le_refl _) _).drew
     rw[hb.cell (p:=⟨g,0,none⟩) (World.block_lt_of_cell? wr _ c1)];exact c1
    rw[hji]
    clear hrun hend e3 e4 e5 q1 q2 q3 q4 q5 hap hG1 hB hm htb hln hj hji
    go_wp2
    go_region_law (refine step_append_run rfl (.tmp 42) (.tmp 48) 177 rfl _ _ _ rfl rfl HR.out ?_)
    all_goals
     go_wp2
     go_roundw
     case rel=>exact⟨k+1,by omega,by have:=HJ.out;first|go_num|(congr 1;omega),HE.out⟩
     case measure=>simp[intOf]
   ·obtain rfl:k=W:=by omega
    have hneg:(k:Int)-1-(k:Int) = -1:=by omega
    rw[hneg]
    have hT:(bitsN n k).take k=bitsN n k:=by rw[List.take_of_length_le];rw[bitsN_length];exact Nat.le_refl _
    have HE:Hid (Left RW w G g (bs++bitsN n k) wr):=⟨G1,by rw[<-hT];exact⟨v1,q1,q2,q3,q4,q5⟩,hap,hG1⟩
    clear q1 q2 q3 q4 q5 hap hG1 hT hneg
    go_wp2
    go_ret
    exact⟨rfl,HE.out⟩
def putP (k n:Nat)(W:Int):Nat:=if W<0\/64<W\/¬ n<2^W.toNat then 1 else if 8192<k+W.toNat then 2 else 0
def putB (bs:List Bool)(n:Nat)(W:Int):List Bool:=if putP bs.length n W=0 then bs++bitsN n W.toNat else bs
def bytesP (k m:Nat):Nat:=if 1024<m\/8192<k+8*m then 2 else 0
def bytesB (bs:List Bool)(l:List UInt8):List Bool:=if bytesP bs.length l.length=0 then bs++bitsOf l else bs
theorem bitsOf_take (l:List UInt8)(k:Nat)(x:UInt8)(h:l[k]?=some x):bitsOf (l.take (k+1))=bitsOf (l.take k)++bitsU x:=by
 rw[take_snoc l k x h,bitsOf_app];simp[bitsOf]
theorem rbytes_any (w:World)(g:Nat)(bs:List Bool)(G:Nat->Prop)(h:RW w g bs G)(x:Option Addr)(cx:Nat)(l:List UInt8)(hx:Sees w x cx l)(hxn:∀ b off,x=some ⟨b,off,none⟩->l≠[]->¬ G b)(hk:bs.length<=8192):
  Calls Tryz.prog 98 #[.pointer (some ⟨g,0,none⟩),.slice x l.length cx] w λe w'=>e=.returned (.int .i64 (bytesP bs.length l.length:Nat))/\Left RW w G g (bytesB bs l) w':=by
 have hlm:l.length<=9223372036854775807:=by have:=hx.fits;have:=hx.room;unfold maxLen at this;omega
 have hsame:Left RW w G g bs w:=⟨G,h,Apart.refl _ _,λ_ h=>.inl h⟩
 have HH:=h
 obtain⟨v,h1,h2,_⟩:=h
 obtain⟨d,cd,rfl⟩:∃ d cd,v=.slice d bs.length cd:=by
  rcases h2.2 with ⟨rfl,h0⟩|⟨q,cap,cur,rfl,_⟩
  ·exact⟨none,0,by rw[h0]⟩
  ·exact⟨_,_,rfl⟩
 have c0:w.cell? ⟨g,0,none⟩=some (.slice d bs.length cd):=cell_of_row _ _ 0 _ _ _ h1
 by_cases hbad:1024<l.length\/8192<bs.length+8*l.length
 ·have e1:bytesP bs.length l.length=2:=by unfold bytesP;rw[if_pos hbad]
  have e2:bytesB bs l=bs:=by unfold bytesB;rw[e1];rfl
  rw[e1,e2]
  clear h1 h2 e1 e2 HH hxn hx
  by_cases hA:1024<l.length
  ·have dA:decide ((1024:Int)<(l.length:Int))=true:=by simp;omega
   clear hbad
   go_enter Tryz.func98,Tryz.ntmps98
   go_wp2
   go_ret
   exact⟨rfl,hsame⟩
  ·have dA:decide ((1024:Int)<(l.length:Int))=false:=by simp;omega
   have dB:decide ((8192:Int)<(bs.length:Int)+8*(l.length:Int))=true:=by simp;omega
   clear hbad
   go_enter Tryz.func98,Tryz.ntmps98
   go_wp2
   go_ret
   exact⟨rfl,hsame⟩
 ·have e1:bytesP bs.length l.length=0:=by unfold bytesP;rw[if_neg hbad]
  have e2:bytesB bs l=bs++bitsOf l:=by unfold bytesB;rw[if_pos e1]
  rw[e1,e2]
  have hl1:l.length<=1024:=by omega
  have hl2:bs.length+8*l.length<=8192:=by omega
  have dA:decide ((1024:Int)<(l.length:Int))=false:=by simp;omega
  have dB:decide ((8192:Int)<(bs.length:Int)+8*(l.length:Int))=false:=by simp;omega
  have HX:Hid (Sees w x cx l):=hx
  have HXN:Hid (∀ b off,x=some ⟨b,off,none⟩->l≠[]->¬ G b):=hxn
  have hst:Left RW w G g (bs++bitsOf (l.take 0)) w:=⟨G,by rw[List.take_zero,bitsOf,List.append_nil];exact HH,Apart.refl _ _,λ_ h=>.inl h⟩
  clear h1 h2 e1 e2 HH hxn hx hbad hsame
  go_enter Tryz.func98,Tryz.ntmps98
  go_wp2
  go_loopw [5] (λi wr=>∃ k:Nat,k<=l.length/\i=.int .i64 k/\Left RW w G g (bs++bitsOf (l.take k)) wr) (λi _=>l.length-(intOf i).toNat)
  case atStart=>exact⟨0,Nat.zero_le _,rfl,hst⟩
  case round=>
   obtain⟨k,hk',rfl,G1,hR,hap,hG1⟩:=hrel
   clear hst c0
   by_cases hlt:k<l.length
   ·obtain⟨y,hy⟩:∃ y,l[k]?=some y:=⟨l[k],by simp[hlt]⟩
    have hs2:=hap.sees HX.out HXN.out
    obtain⟨b1,o1,rfl,hc1⟩:=hs2.get hy
    have hB:(bs++bitsOf (l.take k)).length+8<=8192:=by
     rw[List.length_append,bitsOf_length,List.length_take];omega
    obtain⟨B2,hB2⟩:∃ B2,B2=bs++bitsOf (l.take (k+1)):=⟨_,rfl⟩
    have hput:Calls Tryz.prog 126 #[.pointer (some ⟨g,0,none⟩),.int .u64 (y.toNat:Int),.int .i64 8] wr λe w'=>e=.returned (.int .i64 0)/\Left RW wr G1 g B2 w':=by
     rw[hB2,bitsOf_take l k y hy,<-List.append_assoc,<-bitsN_byte]
     exact rput_ok wr g _ G1 hR y.toNat 8 (by omega) (by have:=toNat_lt256 y;omega) hB
    have HB2:Hid (B2=bs++bitsOf (l.take (k+1))):=hB2
    have wy:IntKind.u64.wrap (y.toNat:Int)=(y.toNat:Int):=by have:=toNat_lt256 y;rw[IntKind.wrap_u64];omega
    clear hR hs2 hy hB2 hB
    go_wp2_with fail
    refine hput.mono ?_
    rintro e w2 ⟨rfl,G2,hR2,hap2,hG2⟩
    have HE:Hid (Left RW w G g (bs++bitsOf (l.take (k+1))) w2):=⟨G2,by rw[<-HB2.out];exact hR2,hap.trans hap2 hG1,λi hi=>by
     rcases hG2 i hi with h|h
     ·exact hG1 i h
     ·have:=hap.size;exact .inr (by omega)⟩
    clear hput hR2 hap2 hG2
    go_wp2
    go_roundw
    case rel=>exact⟨k+1,by omega,by go_num,HE.out⟩
    case measure=>simp[intOf];omega
   ·obtain rfl:k=l.length:=by omega
    have HE:Hid (Left RW w G g (bs++bitsOf l) wr):=⟨G1,by rw[List.take_length] at hR;exact hR,hap,hG1⟩
    clear hR hap hG1
    go_wp2
    go_ret
    exact⟨rfl,HE.out⟩
theorem set_cellU (l:List UInt8)(i:Nat)(x:UInt8):(l.map cellOf).set i (.int .u8 (x.toNat:Int))=(l.set i x).map cellOf:=by rw[List.map_set];rfl
theorem packN_nil (m:Nat):packN [] m=List.replicate m 0:=by
 apply List.ext_getElem?
 intro i
 by_cases h:i<m
 ·rw[packN_at _ _ _ h,List.getElem?_replicate,if_pos h];rfl
 ·rw[List.getElem?_eq_none (by rw[packN_length];omega),List.getElem?_eq_none (by simp;omega)]
theorem rdone_any (w:World)(g:Nat)(bs:List Bool)(G:Nat->Prop)(h:RW w g bs G)(hk:bs.length<=8192):
  Calls Tryz.prog 100 #[.pointer (some ⟨g,0,none⟩)] w λe w'=>∃ d cd r,Hid (r=packL bs)/\e=.returned (.slice d r.length cd)/\Sees w' d cd r/\Below w.heap.size w w':=by
 obtain⟨i5,hi,hz0,hz1,hz2⟩:=info_parts Tryz.info5
 obtain⟨v,h1,h2,h3,_,h5⟩:=h
 have hgl:=h5 g h3
 obtain⟨d,cd,rfl⟩:∃ d cd,v=.slice d bs.length cd:=by
  rcases h2.2 with ⟨rfl,h0⟩|⟨q,cap,cur,rfl,_⟩
  ·exact⟨none,0,by rw[h0]⟩
  ·exact⟨_,_,rfl⟩
 have c0:w.cell? ⟨g,0,none⟩=some (.slice d bs.length cd):=cell_of_row _ _ 0 _ _ _ h1
 have HO:Hid (w.ownsRow 0 4 1 (.slice d bs.length cd) bs.length (bs.map .bool)):=h2
 obtain⟨N,hN⟩:∃ N,N=(bs.length+7)/8:=⟨_,rfl⟩
 have HN:Hid (N=(bs.length+7)/8):=hN
 have q1:((bs.length:Int)+7)/8=(N:Int):=by omega
 have q2:((bs.length:Int)+7).tdiv 8=(N:Int):=by rw[Int.tdiv_eq_ediv_of_nonneg (by omega)];exact q1
 have hN2:N<=1024:=by omega
 clear h1 h2 h5 hN h3
 go_enter Tryz.func100,Tryz.ntmps100
 go_wp2_with (at_make;refine wpList_make_full _ rfl _ _ 24 rfl w.heap.size 5 i5 (.int .u8 0) 1 Tryz.underlying24 hi hz0 hz1 .i64 .i64 _ _ N rfl rfl rfl rfl ?b2 ?b3 ?b4 ?_)
 case b2=>rw[hz2];omega
 case b3=>unfold maxLen;omega
 case b4=>exact Nat.le_refl _
 intro w1 hown hgrow
 have hbel:Below w.heap.size w w1:=(Below.refl _ _).grown hgrow (Nat.le_refl _) (by intro k h;cases h)
 have ho0:w1.ownsRow w.heap.size 5 1 (.slice (some ⟨w.heap.size,0,none⟩) N N) N ((packN (bs.take 0) N).map cellOf):=by rw[List.take_zero,packN_nil,<-made_bytes];simpa using hown
 clear hgrow hown
 go_wp2
 go_loopw [4] (λi wr=>∃ k:Nat,k<=bs.length/\i=.int .i64 k/\wr.ownsRow w.heap.size 5 1 (.slice (some ⟨w.heap.size,0,none⟩) N N) N ((packN (bs.take k) N).map cellOf)/\Below w.heap.size w wr) (λi _=>bs.length-(intOf i).toNat)
 case atStart=>exact⟨0,Nat.zero_le _,rfl,ho0,hbel⟩
 case round=>
  obtain⟨p,hp,rfl,ho,hbl⟩:=hrel
  clear ho0 hbel q1 q2
  have c1:wr.cell? ⟨g,0,none⟩=some (.slice d bs.length cd):=by rw[hbl.cell (p:=⟨g,0,none⟩) hgl];exact c0
  by_cases hlt:p<bs.length
  ·obtain⟨t,ht⟩:∃ t,t=bs[p]:=⟨_,rfl⟩
   obtain⟨qb,rfl,hcb⟩:∃ qb,d=some ⟨qb,0,none⟩/\wr.cell? ⟨qb,p,none⟩=some (.bool t):=by
    have h2:=HO.out
    rcases h2.2 with ⟨_,h0⟩|⟨q,cap,cur,he,_⟩
    ·omega
    ·simp only[Value.slice.injEq] at he
     obtain⟨rfl,_,rfl⟩:=he
     have h6:=h2.cells (g:=q) rfl p (.bool t) (by simp[hlt,ht])
     rw[Addr.add_lit] at h6
     simp only[Nat.zero_add] at h6
     exact⟨q,rfl,by rw[hbl.cell (p:=⟨q,p,none⟩) (World.block_lt_of_cell? w _ h6)];exact h6⟩
   obtain⟨q,hq⟩:∃ q,q=p/8:=⟨_,rfl⟩
   obtain⟨r,hr⟩:∃ r,r=p%8:=⟨_,rfl⟩
   obtain⟨s,hs⟩:∃ s,s=7-r:=⟨_,rfl⟩
   have hqN:q<N:=by have:=HN.out;omega
   obtain⟨x,hx⟩:∃ x,(packN (bs.take p) N)[q]?=some x:=⟨_,packN_at _ _ _ hqN⟩
   have hor:=packN_or bs N p hlt (by rw[<-hq];exact hqN) x (by rw[<-hq];exact hx)
   rw[<-hq,<-hr,<-hs,<-ht] at hor
   cases t with
   | false =>
     have hset : (packN (bs.take p) N).set q x = packN (bs.take p) N := by
       apply List.ext_getElem?
       intro i
       rw [List.getElem?_set]
       by_cases hi : q = i
       · subst hi; rw [if_pos rfl, if_pos (by rw [packN_length]; exact hqN), hx]
       · rw [if_neg hi]
     rw [if_neg (by simp), hset] at hor
     rw [hor] at ho
     clear hor hset hx hq hr hs ht
     go_wp2
     go_roundw
     case rel => exact ⟨p + 1, by omega, by go_num, ho, hbl⟩
     case measure => simp [intOf]; omega
   | true =>
     rw [if_pos rfl] at hor
     have hs8 : s < 8 := by omega
     obtain ⟨y, hy⟩ : ∃ y, y = x ||| UInt8.ofNat (2 ^ s) := ⟨_, rfl⟩
     obtain ⟨T, hT⟩ : ∃ T, T = 2 ^ s := ⟨_, rfl⟩
     have hT8 : T < 256 := by rw [hT]; exact Nat.pow_lt_pow_right (a := 2) (n := 8) (by omega) (by omega)
     have eT : (2 : Int) ^ s = (T : Int) := by rw [hT]; simp
     have ey : bits .or .u8 (x.toNat : Int) (T : Int) = (y.toNat : Int) := by
       have h1 := bor x (UInt8.ofNat (2 ^ s))
       rw [← hy, UInt8.toNat_ofNat', ← hT, Nat.mod_eq_of_lt hT8] at h1
       exact h1
     have wT : IntKind.u8.wrap (T : Int) = (T : Int) := by rw [IntKind.wrap_u8]; omega
     rw [← hy] at hor
     have hcx : wr.cell? ⟨w.heap.size, q, none⟩ = some (.int .u8 (x.toNat : Int)) := by rw [ho.cellAt q (by omega), List.getElem?_map, hx]; rfl
     have hfx : wr.frozen? ⟨w.heap.size, q, none⟩ = false := ho.frozenAt q
     obtain ⟨ho2, _⟩ := ho.stored q (.int .u8 (y.toNat : Int))
     rw [set_cellU, hor] at ho2
     have HO2 : Hid ((wr.setCell ⟨w.heap.size, q, none⟩ (.int .u8 (y.toNat : Int))).drew.ownsRow w.heap.size 5 1 (.slice (some ⟨w.heap.size, 0, none⟩) N N) N ((packN (bs.take (p + 1)) N).map cellOf)) := ho2.drew
     have HBL : Hid (Below w.heap.size w (wr.setCell ⟨w.heap.size, q, none⟩ (.int .u8 (y.toNat : Int))).drew) := (hbl.setCell (p := ⟨w.heap.size, q, none⟩) (Nat.le_refl _) _).drew
     have q1 : (p : Int) / 8 = (q : Int) := by omega
     have q2 : (p : Int).tdiv 8 = (q : Int) := by rw [Int.tdiv_eq_ediv_of_nonneg (by omega)]; exact q1
     have r1 : (p : Int) % 8 = (r : Int) := by omega
     have r2 : (p : Int).tmod 8 = (r : Int) := by rw [Int.tmod_eq_emod_of_nonneg (by omega)]; exact r1
     have s1 : 7 - (r : Int) = (s : Int) := by omega
     have s2 : IntKind.i64.wrap (7 - (r : Int)) = (s : Int) := by rw [IntKind.wrap_i64]; omega
     have gq0 : (0 : Int) ≤ (q : Int) := Int.natCast_nonneg _
     have gq1 : (q : Int) < (N : Int) := by omega
     have gs0 : (0 : Int) ≤ (s : Int) := Int.natCast_nonneg _
     clear hor ho ho2 hbl hx hy hT hq hr hs ht
     go_wp2
     go_region
     go_wp2
     go_roundw
     case rel => exact ⟨p + 1, by omega, by go_num, HO2.out, HBL.out⟩
     case measure => simp [intOf]; omega
  ·obtain rfl:p=bs.length:=by omega
   rw[List.take_length] at ho
   have hpk:packN bs N=packL bs:=by rw[HN.out];rfl
   rw[hpk] at ho
   have hpl:(packL bs).length=N:=by rw[packL_length,HN.out]
   obtain⟨r,hr⟩:∃ r,r=packL bs:=⟨_,rfl⟩
   rw[<-hr] at ho hpl
   obtain⟨c,cc,hv,hs⟩:=Sees.of_own ho
   simp only[Value.slice.injEq] at hv
   rw[<-hv.1,<-hv.2.2] at hs
   have HR:Hid (r=packL bs):=hr
   have HPL:Hid (r.length=N):=hpl
   clear hv ho hpk hr hpl
   go_wp2
   go_ret
   exact⟨_,_,r,HR,by rw[HPL.out];rfl,hs,hbl⟩
def RR (a:Option Addr)(cap:Nat)(l:List UInt8)(w:World)(g:Nat)(at_:Nat)(G:Nat->Prop):Prop:=
 w.heap[g]?=some (.cells #[.slice a l.length cap,.int .i64 (at_:Int)] 129 (0,0))/\G g/\∀ k,G k->k<w.heap.size
theorem rr_kept (a:Option Addr)(cap:Nat)(l:List UInt8):Kept (RR a cap l) where
 lt:=λ⟨_,_,h⟩=>h
 keep:=λ{w w' b s F} ⟨h1,h2,h3⟩ hk=>⟨(hk b h2).trans h1,h2,λk hF=>by
  have h8:w'.heap[k]?=some (w.heap[k]'(h3 k hF)):=by rw[hk k hF];simp[h3 k hF]
  exact(Array.getElem?_eq_some_iff.1 h8).1⟩
theorem RR.cells {a:Option Addr}{cap:Nat}{l:List UInt8}{w:World}{g at_:Nat}{G:Nat->Prop}(h:RR a cap l w g at_ G):w.cell? ⟨g,0,none⟩=some (.slice a l.length cap)/\w.cell? ⟨g,1,none⟩=some (.int .i64 (at_:Int))/\w.frozen? ⟨g,1,none⟩=false:=
 ⟨cell_of_row _ _ 0 _ _ _ h.1,cell_of_row _ _ 1 _ _ _ h.1,frozen_of_row _ _ 1 _ _ h.1⟩
theorem RR.moved {a:Option Addr}{cap:Nat}{l:List UInt8}{w:World}{g at_:Nat}{G:Nat->Prop}(h:RR a cap l w g at_ G)(m:Nat):RR a cap l (w.setCell ⟨g,1,none⟩ (.int .i64 (m:Int))) g m G:=
 ⟨by rw[heap_setCell_same _ _ _ _ _ _ h.1];rfl,h.2.1,λk hk=>by simpa using h.2.2 k hk⟩
theorem rleft_any (a:Option Addr)(cap:Nat)(l:List UInt8)(w:World)(g at_:Nat)(G:Nat->Prop)(h:RR a cap l w g at_ G)(hl:l.length<=140737488355328)(hat:at_<=8*l.length):
  Calls Tryz.prog 108 #[.pointer (some ⟨g,0,none⟩)] w λe w'=>e=.returned (.int .i64 ((8*l.length-at_:Nat):Int))/\∃ m,w'=w.drewN m:=by
 obtain⟨c0,c1,_⟩:=h.cells
 have e1:8*(l.length:Int)-(at_:Int)=((8*l.length-at_:Nat):Int):=by omega
 obtain⟨R,hR⟩:∃ R,R=8*l.length-at_:=⟨_,rfl⟩
 rw[<-hR] at e1 ⊢
 clear hR h
 go_enter Tryz.func108,Tryz.ntmps108
 go_wp2
 go_quiet (fail)
 go_wp2
 go_ret
 exact⟨rfl,_,rfl⟩
theorem or_bit (N:Nat)(b:Bool)(h:N<9223372036854775808):bits .or .u64 (((2*N:Nat)):Int) (b.toNat:Int)=((2*N+b.toNat:Nat):Int):=by
 have hb:b.toNat<2:=by cases b<;>simp
 have h1:=u64_or_nat (2*N) b.toNat (by omega) (by omega)
 rw[h1]
 congr 1
 have h2:=Nat.shiftLeft_add_eq_or_of_lt (a:=N) (i:=1) (b:=b.toNat) (by omega)
 rw[Nat.shiftLeft_eq,Nat.pow_one,Nat.mul_comm] at h2
 exact h2.symm
theorem and_one8 (n:Nat)(h:n<256):bits .and .u8 (n:Int) 1=((n%2:Nat):Int):=by
 have:=u8_and_nat n 1 h (by omega)
 rw[Nat.and_one_is_mod] at this
 exact this
theorem bit_mod (n j:Nat):n/2^j%2=(n.testBit j).toNat:=by
 rw[Nat.testBit_eq_decide_div_mod_eq]
 rcases Nat.mod_two_eq_zero_or_one (n/2^j) with h|h<;>simp[h]
def nextB (l:List UInt8)(at_ k:Nat):List Bool:=((bitsOf l).drop at_).take k
theorem nextB_snoc (l:List UInt8)(at_ k:Nat)(t:Bool)(h:(bitsOf l)[at_+k]?=some t):nextB l at_ (k+1)=nextB l at_ k++[t]:=by
 unfold nextB
 rw[List.take_add_one,List.getElem?_drop,h];rfl
theorem nextB_len (l:List UInt8)(at_ k:Nat):(nextB l at_ k).length<=k:=by unfold nextB;rw[List.length_take];omega
theorem rget_ok (a:Option Addr)(cap:Nat)(l:List UInt8)(w:World)(g at_:Nat)(G:Nat->Prop)(h:RR a cap l w g at_ G)(hs:Sees w a cap l)(hsn:∀ b off,a=some ⟨b,off,none⟩->l≠[]->¬ G b)(hl:l.length<=140737488355328)(V:Nat)(hV:V<=64)(hat:at_+V<=8*l.length):
  Calls Tryz.prog 109 #[.pointer (some ⟨g,0,none⟩),.int .i64 (V:Int)] w λe w'=>e=.returned (.tuple #[.int .u64 ((num (nextB l at_ V):Nat):Int),.int .i64 0])/\Left (RR a cap l) w G g (at_+V) w':=by
 have hlf:=rleft_any a cap l w g at_ G h hl (by omega)
 obtain⟨R,hR⟩:∃ R,R=8*l.length-at_:=⟨_,rfl⟩
 rw[<-hR] at hlf
 have hVR:V<=R:=by omega
 have hRm:R<=9223372036854775807:=by omega
 have dW0:decide ((V:Int)<0)=false:=by simp
 have dW64:decide ((64:Int)<(V:Int))=false:=by simp;omega
 have HH:Hid (RR a cap l w g at_ G):=h
 have HS:Hid (Sees w a cap l):=hs
 have HSN:Hid (∀ b off,a=some ⟨b,off,none⟩->l≠[]->¬ G b):=hsn
 clear h hs hsn hR
 go_enter Tryz.func109,Tryz.ntmps109
 go_wp2_with fail
 refine hlf.mono ?_
 rintro e w1 ⟨rfl,m,hm⟩
 have HL0:Hid (Left (RR a cap l) w G g (at_+0) w1):=by
  rw[hm];exact⟨G,(rr_kept a cap l).keep HH.out (λ_ _=>rfl),⟨rfl,rfl,rfl,Nat.le_refl _,λ_ _ _=>rfl⟩,λ_ h=>.inl h⟩
 clear hlf hm
 go_wp2
 go_loopw [6,7] (λnv i wr=>∃ k:Nat,k<=V/\i=.int .i64 k/\nv=.int .u64 ((num (nextB l at_ k):Nat):Int)/\Left (RR a cap l) w G g (at_+k) wr) (λ_ i _=>V-(intOf i).toNat)
 case atStart=>exact⟨0,Nat.zero_le _,rfl,by simp[nextB,num],HL0.out⟩
 case round=>
  obtain⟨k,hk,rfl,rfl,G1,hr,hap,hG1⟩:=hrel
  clear HL0
  by_cases hlt:k<V
  ·obtain⟨c0,c1,f1⟩:=hr.cells
   obtain⟨p,hp⟩:∃ p,p=at_+k:=⟨_,rfl⟩
   rw[<-hp] at c1 hr
   obtain⟨q,hq⟩:∃ q,q=p/8:=⟨_,rfl⟩
   obtain⟨r,hr8⟩:∃ r,r=p%8:=⟨_,rfl⟩
   obtain⟨s,hs⟩:∃ s,s=7-r:=⟨_,rfl⟩
   have hql:q<l.length:=by omega
   obtain⟨x,hx⟩:∃ x,l[q]?=some x:=⟨l[q],by simp[hql]⟩
   obtain⟨b1,o1,rfl,hc1⟩:=(hap.sees HS.out HSN.out).get hx
   obtain⟨t,ht⟩:∃ t,t=x.toNat.testBit s:=⟨_,rfl⟩
   have hbit:(bitsOf l)[at_+k]?=some t:=by rw[ht,hs,hr8,<-hp];exact bits_at l p x (by rw[<-hq];exact hx)
   obtain⟨N,hN⟩:∃ N,N=num (nextB l at_ k):=⟨_,rfl⟩
   have hNlt:N<9223372036854775808:=by
    rw[hN]
    have h1:=num_lt (nextB l at_ k)
    have h2:2^(nextB l at_ k).length<=2^63:=Nat.pow_le_pow_right (by omega) (by have:=nextB_len l at_ k;omega)
    omega
   have hnext:num (nextB l at_ (k+1))=2*N+t.toNat:=by rw[nextB_snoc l at_ k t hbit,num_snoc,hN]
   obtain⟨N2,hN2⟩:∃ N2,N2=2*N+t.toNat:=⟨_,rfl⟩
   obtain⟨tn,htn⟩:∃ tn,tn=t.toNat:=⟨_,rfl⟩
   have htn2:tn<2:=by rw[htn];cases t<;>simp
   have eand:bits .and .u8 ((x.toNat:Int)/2^s) 1=(tn:Int):=by
    have h1:=and_one8 (x.toNat/2^s) (Nat.lt_of_le_of_lt (Nat.div_le_self _ _) (toNat_lt256 x))
    rw[bit_mod,<-ht,<-htn] at h1
    simpa using h1
   have eor:bits .or .u64 ((N:Int)*2) (tn:Int)=(N2:Int):=by
    have h1:=or_bit N t hNlt
    rw[<-hN2,<-htn] at h1
    rw[<-h1];congr 1;omega
   have wtn:IntKind.u64.wrap (tn:Int)=(tn:Int):=by rw[IntKind.wrap_u64];omega
   have wN:IntKind.u64.wrap ((N:Int)*2)=(N:Int)*2:=by rw[IntKind.wrap_u64];omega
   have HEND:Hid (∀ m,Left (RR (some ⟨b1,o1,none⟩) cap l) w G g (at_+(k+1)) ((wr.drewN m).setCell ⟨g,1,none⟩ (.int .i64 ((p+1:Nat):Int)))):=λm=>by
    refine⟨G1,?_,?_,hG1⟩
    ·rw[show at_+(k+1)=p+1 by omega]
     exact RR.moved ((rr_kept _ cap l).keep hr (w':=wr.drewN m) (λ_ _=>rfl)) (p+1)
    ·have h1:Apart G w (wr.drewN m):=⟨hap.os,hap.tape,hap.output,hap.size,hap.block⟩
     exact h1.setCell (hG1 g hr.2.1) 1 _
   have HNX:Hid (num (nextB l at_ (k+1))=N2):=by rw[hnext,hN2];exact rfl
   have q1:(p:Int)/8=(q:Int):=by omega
   have q2:(p:Int).tdiv 8=(q:Int):=by rw[Int.tdiv_eq_ediv_of_nonneg (by omega)];exact q1
   have r1:(p:Int)%8=(r:Int):=by omega
   have r2:(p:Int).tmod 8=(r:Int):=by rw[Int.tmod_eq_emod_of_nonneg (by omega)];exact r1
   have s1:7-(r:Int)=(s:Int):=by omega
   have s2:IntKind.i64.wrap (7-(r:Int))=(s:Int):=by rw[IntKind.wrap_i64];omega
   have gq0:(0:Int)<=(q:Int):=Int.natCast_nonneg _
   have gq1:(q:Int)<(l.length:Int):=by omega
   have gs0:(0:Int)<=(s:Int):=Int.natCast_nonneg _
   have hp2:p+1<=9223372036854775807:=by omega
   have hs8:s<8:=by omega
   have hmin:min s 8=s:=by omega
   rw[<-hN]
   clear hr hap hG1 hp hq hr8 hs hx ht hbit hN hnext hN2 htn hNlt
   go_wp2
   go_quiet (fail)
   go_wp2
   go_roundw
   case rel=>exact⟨k+1,by omega,by go_num,by rw[HNX.out],HEND.out _⟩
   case measure=>simp[intOf];omega
  ·obtain rfl:k=V:=by omega
   have HE:Hid (Left (RR a cap l) w G g (at_+k) wr):=⟨G1,hr,hap,hG1⟩
   clear hr hap hG1
   go_wp2
   go_ret2
   exact⟨rfl,HE.out⟩
def getP (left:Nat)(W:Int):Nat:=if W<0\/64<W then 1 else if (left:Int)<W then 3 else 0
def getN (l:List UInt8)(at_:Nat)(W:Int):Nat:=if getP (8*l.length-at_) W=0 then num (nextB l at_ W.toNat) else 0
def getAt (l:List UInt8)(at_:Nat)(W:Int):Nat:=if getP (8*l.length-at_) W=0 then at_+W.toNat else at_
theorem getAt_le (l:List UInt8)(at_:Nat)(W:Int)(h:at_<=8*l.length):getAt l at_ W<=8*l.length:=by
 unfold getAt
 by_cases h0:getP (8*l.length-at_) W=0
 ·rw[if_pos h0]
  unfold getP at h0
  by_cases h1:W<0\/64<W
  ·rw[if_pos h1] at h0;cases h0
  ·rw[if_neg h1] at h0
   by_cases h2:((8*l.length-at_:Nat):Int)<W
   ·rw[if_pos h2] at h0;cases h0
   ·omega
 ·rw[if_neg h0];exact h
theorem rget_any (a:Option Addr)(cap:Nat)(l:List UInt8)(w:World)(g at_:Nat)(G:Nat->Prop)(h:RR a cap l w g at_ G)(hs:Sees w a cap l)(hsn:∀ b off,a=some ⟨b,off,none⟩->l≠[]->¬ G b)(hl:l.length<=140737488355328)(W:Int)(hat:at_<=8*l.length):
  Calls Tryz.prog 109 #[.pointer (some ⟨g,0,none⟩),.int .i64 W] w λe w'=>e=.returned (.tuple #[.int .u64 ((getN l at_ W:Nat):Int),.int .i64 ((getP (8*l.length-at_) W:Nat):Int)])/\Left (RR a cap l) w G g (getAt l at_ W) w':=by
 have hsame:∀ m,Left (RR a cap l) w G g at_ (w.drewN m):=λm=>⟨G,(rr_kept a cap l).keep h (λ_ _=>rfl),⟨rfl,rfl,rfl,Nat.le_refl _,λ_ _ _=>rfl⟩,λ_ h=>.inl h⟩
 by_cases hbad:W<0\/64<W
 ·have e1:getP (8*l.length-at_) W=1:=by unfold getP;rw[if_pos hbad]
  have e2:getN l at_ W=0:=by unfold getN;rw[e1];rfl
  have e3:getAt l at_ W=at_:=by unfold getAt;rw[e1];rfl
  rw[e1,e2,e3]
  have H0:Hid (Left (RR a cap l) w G g at_ w):=hsame 0
  clear h hs hsn e1 e2 e3 hsame
  by_cases h0:W<0
  ·clear hbad
   go_enter Tryz.func109,Tryz.ntmps109
   go_wp2
   go_ret2
   exact⟨rfl,H0.out⟩
  ·have h64:64<W:=by omega
   clear hbad
   go_enter Tryz.func109,Tryz.ntmps109
   go_wp2
   go_ret2
   exact⟨rfl,H0.out⟩
 obtain⟨V,rfl⟩:∃ V:Nat,W=(V:Int):=⟨W.toNat,by omega⟩
 have hV:V<=64:=by omega
 by_cases hsh:((8*l.length-at_:Nat):Int)<(V:Int)
 ·have e1:getP (8*l.length-at_) V=3:=by unfold getP;rw[if_neg hbad,if_pos hsh]
  have e2:getN l at_ V=0:=by unfold getN;rw[e1];rfl
  have e3:getAt l at_ V=at_:=by unfold getAt;rw[e1];rfl
  rw[e1,e2,e3]
  have hlf:=rleft_any a cap l w g at_ G h hl hat
  obtain⟨R,hR⟩:∃ R,R=8*l.length-at_:=⟨_,rfl⟩
  rw[<-hR] at hlf hsh
  have hVR:R<V:=by omega
  have hRm:R<=9223372036854775807:=by omega
  have HS0:Hid (∀ m,Left (RR a cap l) w G g at_ (w.drewN m)):=hsame
  have dW0:decide ((V:Int)<0)=false:=by simp
  have dW64:decide ((64:Int)<(V:Int))=false:=by simp;omega
  clear h hs hsn e1 e2 e3 hsame hR hsh hbad
  go_enter Tryz.func109,Tryz.ntmps109
  go_wp2_with fail
  refine hlf.mono ?_
  rintro e w1 ⟨rfl,m,rfl⟩
  clear hlf
  go_wp2
  go_ret2
  exact⟨rfl,HS0.out m⟩
 ·have e1:getP (8*l.length-at_) V=0:=by unfold getP;rw[if_neg hbad,if_neg hsh]
  have e2:getN l at_ V=num (nextB l at_ V):=by unfold getN;rw[if_pos e1];rfl
  have e3:getAt l at_ V=at_+V:=by unfold getAt;rw[if_pos e1];rfl
  rw[e1,e2,e3]
  exact rget_ok a cap l w g at_ G h hs hsn hl V hV (by omega)
theorem bitsU_num (t:List Bool)(h:t.length=8):bitsU (UInt8.ofNat (num t))=t:=by
 match t,h with
 | [b0, b1, b2, b3, b4, b5, b6, b7], _ =>
   have := byteOf_bits (fun k => [b0, b1, b2, b3, b4, b5, b6, b7].getD k false)
   unfold byteOf at this
   exact this
theorem nextB_length (l:List UInt8)(at_ k:Nat)(h:at_+k<=8*l.length):(nextB l at_ k).length=k:=by
 unfold nextB;rw[List.length_take,List.length_drop,bitsOf_length];omega
theorem nextB_add (l:List UInt8)(at_ k m:Nat):nextB l at_ (k+m)=nextB l at_ k++nextB l (at_+k) m:=by
 unfold nextB;rw[List.take_add,List.drop_drop]
theorem pack_step (l:List UInt8)(at_ k:Nat)(h:at_+8*(k+1)<=8*l.length):packL (nextB l at_ (8*(k+1)))=packL (nextB l at_ (8*k))++[UInt8.ofNat (num (nextB l (at_+8*k) 8))]:=by
 apply bitsOf_inj
 rw[bitsOf_app,packL_bits,packL_bits,nextB_length l at_ _ h,nextB_length l at_ _ (by omega)]
 have h1:bitsOf [UInt8.ofNat (num (nextB l (at_+8*k) 8))]=nextB l (at_+8*k) 8:=by
  rw[bitsOf,bitsOf,List.append_nil,bitsU_num _ (nextB_length l _ _ (by omega))]
 rw[h1,show 8*((8*(k+1)+7)/8)-8*(k+1)=0 by omega,show 8*((8*k+7)/8)-8*k=0 by omega,List.replicate_zero,List.append_nil,List.append_nil,show 8*(k+1)=8*k+8 by omega,nextB_add]
def takeP (left:Nat)(n:Int):Nat:=if n<0\/1024<n then 1 else if (left:Int)<8*n then 3 else 0
def takeL (l:List UInt8)(at_:Nat)(n:Int):List UInt8:=if takeP (8*l.length-at_) n=0 then packL (nextB l at_ (8*n.toNat)) else []
def takeAt (l:List UInt8)(at_:Nat)(n:Int):Nat:=if takeP (8*l.length-at_) n=0 then at_+8*n.toNat else at_
theorem rtake_ok (a:Option Addr)(cap:Nat)(l:List UInt8)(w:World)(g at_:Nat)(G:Nat->Prop)(h:RR a cap l w g at_ G)(hs:Sees w a cap l)(hsn:∀ b off,a=some ⟨b,off,none⟩->l≠[]->¬ G b)(hsl:∀ b off,a=some ⟨b,off,none⟩->l≠[]->b<w.heap.size)(hl:l.length<=140737488355328)(n:Nat)(hn:n<=1024)(hat:at_+8*n<=8*l.length):
  Calls Tryz.prog 136 #[.pointer (some ⟨g,0,none⟩),.int .i64 (n:Int)] w λe w'=>∃ d cd r,Hid (r=packL (nextB l at_ (8*n)))/\e=.returned (.tuple #[.slice d r.length cd,.int .i64 0])/\Sees w' d cd r/\Left (RR a cap l) w G g (at_+8*n) w':=by
 have hlf:=rleft_any a cap l w g at_ G h hl (by omega)
 obtain⟨R,hR⟩:∃ R,R=8*l.length-at_:=⟨_,rfl⟩
 rw[<-hR] at hlf
 have hVR:8*n<=R:=by omega
 have hRm:R<=9223372036854775807:=by omega
 have HH:Hid (RR a cap l w g at_ G):=h
 have HS:Hid (Sees w a cap l):=hs
 have HSN:Hid (∀ b off,a=some ⟨b,off,none⟩->l≠[]->¬ G b):=hsn
 have HSL:Hid (∀ b off,a=some ⟨b,off,none⟩->l≠[]->b<w.heap.size):=hsl
 clear h hs hsn hR hsl
 go_enter Tryz.func136,Tryz.ntmps136
 go_wp2_with fail
 refine hlf.mono ?_
 rintro e w1 ⟨rfl,m,hm⟩
 have HL0:Hid (Left (RR a cap l) w G g (at_+8*0) w1):=by
  rw[hm];exact⟨G,(rr_kept a cap l).keep HH.out (λ_ _=>rfl),⟨rfl,rfl,rfl,Nat.le_refl _,λ_ _ _=>rfl⟩,λ_ h=>.inl h⟩
 have own0:w1.ownsRow w.heap.size 5 1 (.slice none 0 0) ([]:List UInt8).length (([]:List UInt8).map cellOf):=World.ownsRow_nil _ _ _ _
 clear hlf hm
 go_wp2
 go_loopw [6,7,8,9] (λv i _ _ wr=>∃ (k:Nat) (acc:List UInt8) (d:Option Addr) (cd:Nat),k<=n/\i=.int .i64 k/\v=.slice d acc.length cd/\Hid (acc=packL (nextB l at_ (8*k)))/\Hid (acc.length=k)/\wr.ownsRow w.heap.size 5 1 (.slice d acc.length cd) acc.length (acc.map cellOf) /\
   Hid (∃ G1,RR a cap l wr g (at_+8*k) G1/\Apart G w wr/\(∀ i,G1 i->G i\/w.heap.size<=i)/\∀ q,(Value.slice d acc.length cd).ownBlock=some q->¬ G1 q)) (λ_ i _ _ _=>n-(intOf i).toNat)
 case atStart=>
  obtain⟨G1,h1,h2,h3⟩:=HL0.out
  exact⟨0,[],none,0,Nat.zero_le _,rfl,rfl,by rw[show nextB l at_ (8*0)=[] from by simp[nextB]];exact rfl,rfl,own0,G1,h1,h2,h3,λq h=>by simp[Value.ownBlock] at h⟩
 case round=>
  obtain⟨k,acc,d,cd,hk,rfl,rfl,hacc,hal,own,hst⟩:=hrel
  clear HL0 own0
  by_cases hlt:k<n
  ·obtain⟨G1,hr,hap,hG1,hq⟩:=hst.out
   have hs1:=hap.sees HS.out HSN.out
   have hget:=rget_ok a cap l wr g (at_+8*k) G1 hr hs1 (λb off he hne hf=>by
    rcases hG1 b hf with h|h
    ·exact HSN.out b off he hne h
    ·have:=HSL.out b off he hne;omega) hl 8 (by omega) (by omega)
   obtain⟨N,hN⟩:∃ N,N=num (nextB l (at_+8*k) 8):=⟨_,rfl⟩
   rw[<-hN] at hget
   have hget2:Calls Tryz.prog 109 #[.pointer (some ⟨g,0,none⟩),.int .i64 8] wr λe w'=>e=.returned (.tuple #[.int .u64 (N:Int),.int .i64 0])/\Left (RR a cap l) wr G1 g (at_+8*k+8) w':=hget
   have hN8:N<256:=by
    rw[hN]
    have h1:=num_lt (nextB l (at_+8*k) 8)
    have h2:2^(nextB l (at_+8*k) 8).length<=2^8:=Nat.pow_le_pow_right (by omega) (nextB_len l _ 8)
    omega
   have HN:Hid (N=num (nextB l (at_+8*k) 8)):=hN
   have hownlt:∀ q,(Value.slice d acc.length cd).ownBlock=some q->q<wr.heap.size:=λq hq=>(own.lt _ hq).2
   clear hget hN hst hs1
   go_wp2_with fail
   refine hget2.mono ?_
   rintro e w2 ⟨rfl,G2,hr2,hap2,hG2⟩
   have own2:w2.ownsRow w.heap.size 5 1 (.slice d acc.length cd) acc.length (acc.map cellOf):=by
    refine⟨own.1,?_⟩
    rcases own.2 with h0|⟨q,c2,cur,he,hlow,hqq,h7⟩
    ·exact .inl h0
    ·refine .inr ⟨q,c2,cur,he,hlow,?_,h7⟩
     have hob:(Value.slice d acc.length cd).ownBlock=some q:=by rw[he];rfl
     rw[hap2.block q (hownlt q hob) (hq q hob)];exact hqq
   have hqn:∀ q,(Value.slice d acc.length cd).ownBlock=some q->¬ G2 q:=λq h hg=>by
    rcases hG2 q hg with h1|h1
    ·exact hq q h h1
    ·have:=hownlt q h;omega
   obtain⟨x,hx⟩:∃ x:UInt8,x=UInt8.ofNat N:=⟨_,rfl⟩
   have hxN:(x.toNat:Int)=(N:Int):=by rw[hx,UInt8.toNat_ofNat'];simp;omega
   have hsz2:w.heap.size<=w2.heap.size:=Nat.le_trans hap.size hap2.size
   have hsx:Sees (w2.alloc (.cells #[.int .u8 (N:Int)] 5)) (some ⟨w2.heap.size,0,none⟩) 1 [x]:=⟨Nat.le_refl _,by unfold maxLen;simp,by simp,λ_=>⟨_,0,rfl,λi y hy=>by
    match i,hy with
    | 0,hy=>simp at hy;subst hy;rw[hxN];exact cell_of_row _ _ 0 _ _ _ (heap_alloc_new w2 _)
    | k+1,hy=>simp at hy⟩⟩
   have hbA:Below w2.heap.size w2 (w2.alloc (.cells #[.int .u8 (N:Int)] 5)):=(Below.refl _ _).alloc (Nat.le_refl _) _
   obtain⟨i5,hi,hz0,hz1,hz2⟩:=info_parts Tryz.info5
   have ownA:=own_keepB own2 hbA
   obtain⟨v',w3,hrun,ho',hgr,_,hob⟩:=run_append_own_at (P:=Tryz.prog) (w2.alloc (.cells #[.int .u8 (N:Int)] 5)) w.heap.size 24 24 5 i5 (.int .u8 0) 1 1 Tryz.underlying24 hi hz0 hz1 hz2 rfl (by omega) (.slice d acc.length cd) acc.length (acc.map cellOf) ownA ⟨w2.heap.size,0,none⟩ 1 1 ([x].map cellOf) (by simp) (hsx.news _ rfl) (bytes_oneCell [x]) (by have:=hal.out;unfold maxLen;omega) (by have:=hal.out;omega) (by simp;omega)
   have ho3:w3.ownsRow w.heap.size 5 1 v' (acc++[x]).length ((acc++[x]).map cellOf):=by simpa using ho'
   obtain⟨d3,c3,rfl,_⟩:=Sees.of_own ho3
   obtain⟨A,hA⟩:∃ A,A=acc++[x]:=⟨_,rfl⟩
   rw[<-hA] at ho3 hrun hob
   have hAl:Hid (A.length=k+1):=by rw[hA,List.length_append,hal.out];exact rfl
   have HR:Hid ((Builtin.append_ #[24,24] 24 #[.slice d acc.length cd,.slice (some ⟨w2.heap.size,0,none⟩) 1 1]).run Tryz.prog (w2.alloc (.cells #[.int .u8 (N:Int)] 5))=.ok (.slice d3 A.length c3) w3):=hrun
   have HAE:Hid (A=packL (nextB l at_ (8*(k+1)))):=by rw[hA,hacc.out,hx,HN.out];exact(pack_step l at_ k (by omega)).symm
   have hsA:(w2.alloc (.cells #[.int .u8 (N:Int)] 5)).heap.size=w2.heap.size+1:=by simp
   have HST:Hid (∃ G1,RR a cap l w3 g (at_+8*(k+1)) G1/\Apart G w w3/\(∀ i,G1 i->G i\/w.heap.size<=i)/\∀ q,(Value.slice d3 A.length c3).ownBlock=some q->¬ G1 q):=by
    refine⟨G2,?_,?_,?_,?_⟩
    ·rw[show at_+8*(k+1)=at_+8*k+8 by omega]
     refine(rr_kept a cap l).keep hr2 λq hg=>?_
     have hlt2:=(rr_kept a cap l).lt hr2 q hg
     rw[hgr.block q (by omega) (λe=>hqn q e.symm hg),hbA.block q hlt2]
    ·have h1:Apart G w w2:=hap.trans hap2 hG1
     have h2:Apart G w (w2.alloc (.cells #[.int .u8 (N:Int)] 5)):=h1.trans (Apart.of_below (F:=λ_=>False) hbA) (λ_ h=>h.elim)
     exact h2.grown hgr (λq hq2=>.inr (own.lt _ hq2).1)
    ·intro i hi2
     rcases hG2 i hi2 with h|h
     ·exact hG1 i h
     ·have:=hap.size;exact .inr (by omega)
    ·intro q hq2 hg
     rcases hob with h|h
     ·exact hqn q (by rw[<-h];exact hq2) hg
     ·rw[h] at hq2
      have h9:q=(w2.alloc (.cells #[.int .u8 (N:Int)] 5)).heap.size:=by simpa using hq2.symm
      have:=(rr_kept a cap l).lt hr2 q hg
      omega
   have wN:IntKind.u8.wrap (N:Int)=(N:Int):=by rw[IntKind.wrap_u8];omega
   clear hget2 hrun ho' hgr hob hA own own2 ownA hr2 hap2 hG2 hr hap hG1 hq hqn hsx hx hxN hacc hownlt hbA hsA
   go_wp2_with (at_builtin;refine wpList_append_run rfl _ _ 24 rfl _ _ _ rfl rfl HR.out ?_)
   go_roundw
   case rel=>exact⟨k+1,A,d3,c3,by omega,by go_num,rfl,HAE,hAl,ho3,HST⟩
   case measure=>simp[intOf];omega
  ·obtain rfl:k=n:=by omega
   obtain⟨G1,hr,hap,hG1,_⟩:=hst.out
   have HE:Hid (Left (RR a cap l) w G g (at_+8*k) wr):=⟨G1,hr,hap,hG1⟩
   obtain⟨d2,c2,hv,hs2⟩:=Sees.of_own own
   simp only[Value.slice.injEq] at hv
   rw[<-hv.1,<-hv.2.2] at hs2
   clear hr hap hG1 hv own hst
   go_wp2
   go_ret2
   exact⟨d,cd,acc,hacc,rfl,hs2,HE.out⟩
theorem rtake_any (a:Option Addr)(cap:Nat)(l:List UInt8)(w:World)(g at_:Nat)(G:Nat->Prop)(h:RR a cap l w g at_ G)(hs:Sees w a cap l)(hsn:∀ b off,a=some ⟨b,off,none⟩->l≠[]->¬ G b)(hsl:∀ b off,a=some ⟨b,off,none⟩->l≠[]->b<w.heap.size)(hl:l.length<=140737488355328)(n:Int)(hat:at_<=8*l.length):
  Calls Tryz.prog 136 #[.pointer (some ⟨g,0,none⟩),.int .i64 n] w λe w'=>∃ d cd r,Hid (r=takeL l at_ n)/\e=.returned (.tuple #[.slice d r.length cd,.int .i64 ((takeP (8*l.length-at_) n:Nat):Int)])/\Sees w' d cd r/\Left (RR a cap l) w G g (takeAt l at_ n) w':=by
 have hsame:∀ m,Left (RR a cap l) w G g at_ (w.drewN m):=λm=>⟨G,(rr_kept a cap l).keep h (λ_ _=>rfl),⟨rfl,rfl,rfl,Nat.le_refl _,λ_ _ _=>rfl⟩,λ_ h=>.inl h⟩
 by_cases hbad:n<0\/1024<n
 ·have e1:takeP (8*l.length-at_) n=1:=by unfold takeP;rw[if_pos hbad]
  have e2:takeL l at_ n=[]:=by unfold takeL;rw[e1];rfl
  have e3:takeAt l at_ n=at_:=by unfold takeAt;rw[e1];rfl
  rw[e1,e2,e3]
  have H0:Hid (Left (RR a cap l) w G g at_ w):=hsame 0
  clear h hs hsn hsl e1 e2 e3 hsame
  by_cases h0:n<0
  ·clear hbad
   go_enter Tryz.func136,Tryz.ntmps136
   go_wp2
   go_ret2
   exact⟨none,0,[],rfl,rfl,Sees.nil' _,H0.out⟩
  ·have h64:1024<n:=by omega
   clear hbad
   go_enter Tryz.func136,Tryz.ntmps136
   go_wp2
   go_ret2
   exact⟨none,0,[],rfl,rfl,Sees.nil' _,H0.out⟩
 obtain⟨V,rfl⟩:∃ V:Nat,n=(V:Int):=⟨n.toNat,by omega⟩
 have hV:V<=1024:=by omega
 by_cases hsh:((8*l.length-at_:Nat):Int)<8*(V:Int)
 ·have e1:takeP (8*l.length-at_) V=3:=by unfold takeP;rw[if_neg hbad,if_pos hsh]
  have e2:takeL l at_ V=[]:=by unfold takeL;rw[e1];rfl
  have e3:takeAt l at_ V=at_:=by unfold takeAt;rw[e1];rfl
  rw[e1,e2,e3]
  have hlf:=rleft_any a cap l w g at_ G h hl hat
  obtain⟨R,hR⟩:∃ R,R=8*l.length-at_:=⟨_,rfl⟩
  rw[<-hR] at hlf hsh
  have hVR:R<8*V:=by omega
  have hRm:R<=9223372036854775807:=by omega
  have HS0:Hid (∀ m,Left (RR a cap l) w G g at_ (w.drewN m)):=hsame
  clear h hs hsn hsl e1 e2 e3 hsame hR hsh hbad
  go_enter Tryz.func136,Tryz.ntmps136
  go_wp2_with fail
  refine hlf.mono ?_
  rintro e w1 ⟨rfl,m,rfl⟩
  clear hlf
  go_wp2
  go_ret2
  exact⟨none,0,[],rfl,rfl,Sees.nil' _,HS0.out m⟩
 ·have e1:takeP (8*l.length-at_) V=0:=by unfold takeP;rw[if_neg hbad,if_neg hsh]
  have e2:takeL l at_ V=packL (nextB l at_ (8*V)):=by unfold takeL;rw[if_pos e1];rfl
  have e3:takeAt l at_ V=at_+8*V:=by unfold takeAt;rw[if_pos e1];rfl
  rw[e1,e2,e3]
  exact rtake_ok a cap l w g at_ G h hs hsn hsl hl V hV (by omega)
def endP (l:List UInt8)(at_:Nat):Nat:=if 7<8*l.length-at_ then 4 else if num (nextB l at_ (8*l.length-at_))=0 then 0 else 4
theorem rend_any (a:Option Addr)(cap:Nat)(l:List UInt8)(w:World)(g at_:Nat)(G:Nat->Prop)(h:RR a cap l w g at_ G)(hs:Sees w a cap l)(hsl:∀ b off,a=some ⟨b,off,none⟩->l≠[]->b<w.heap.size)(hl:l.length<=140737488355328)(hat:at_<=8*l.length):
  Calls Tryz.prog 70 #[.pointer (some ⟨g,0,none⟩)] w λe w'=>e=.returned (.int .i64 ((endP l at_:Nat):Int))/\Below w.heap.size w w':=by
 obtain⟨c0,c1,_⟩:=h.cells
 have HS:Hid (Sees w a cap l):=hs
 have HSL:Hid (∀ b off,a=some ⟨b,off,none⟩->l≠[]->b<w.heap.size):=hsl
 clear h hs hsl
 go_enter Tryz.func70,Tryz.ntmps70
 go_wp2
 go_region
 obtain⟨W0,hW0⟩:∃ W0,W0=(w.alloc (.cells #[.slice a l.length cap,.int .i64 (at_:Int)] 129)).drew:=⟨_,rfl⟩
 have hB0:Below w.heap.size w W0:=by rw[hW0];exact((Below.refl _ _).alloc (Nat.le_refl _) _).drew
 have hsz0:W0.heap.size=w.heap.size+1:=by rw[hW0];simp
 have hr0:RR a cap l W0 w.heap.size at_ (λk=>k=w.heap.size):=⟨by rw[hW0];exact heap_alloc_new w _,rfl,by rintro k rfl;omega⟩
 rw[<-hW0]
 have hlf:=rleft_any a cap l W0 w.heap.size at_ _ hr0 hl hat
 obtain⟨R,hR⟩:∃ R,R=8*l.length-at_:=⟨_,rfl⟩
 rw[<-hR] at hlf
 have HR:Hid (R=8*l.length-at_):=hR
 have hRm:R<=9223372036854775807:=by omega
 clear hW0 c0 c1 hR
 go_wp2_with fail
 refine hlf.mono ?_
 rintro e w1 ⟨rfl,m1,hw1⟩
 have hr1:RR a cap l w1 w.heap.size at_ (λk=>k=w.heap.size):=by rw[hw1];exact(rr_kept a cap l).keep hr0 (λ_ _=>rfl)
 have hB1:Below w.heap.size w w1:=by rw[hw1];exact⟨hB0.os,hB0.tape,hB0.output,hB0.size,hB0.block⟩
 clear hlf hw1 hr0 hB0 hsz0
 by_cases h7:7<R
 ·have e1:endP l at_=4:=by unfold endP;rw[if_pos (by rw[<-HR.out];exact h7)]
  have HE1:Hid (endP l at_=4):=e1
  clear e1 hr1
  go_wp2
  go_ret
  exact⟨by rw[HE1.out];rfl,hB1⟩
 ·have hlf2:=rleft_any a cap l w1 w.heap.size at_ _ hr1 hl hat
  rw[<-HR.out] at hlf2
  go_wp2_with fail
  refine hlf2.mono ?_
  rintro e w2 ⟨rfl,m2,hw2⟩
  have hr2:RR a cap l w2 w.heap.size at_ (λk=>k=w.heap.size):=by rw[hw2];exact(rr_kept a cap l).keep hr1 (λ_ _=>rfl)
  have hB2:Below w.heap.size w w2:=by rw[hw2];exact⟨hB1.os,hB1.tape,hB1.output,hB1.size,hB1.block⟩
  have hget:=rget_ok a cap l w2 w.heap.size at_ _ hr2 (HS.out.below hB2) (λb off he hne hf=>by have:=HSL.out b off he hne;omega) hl R (by omega) (by have:=HR.out;omega)
  obtain⟨Z,hZ⟩:∃ Z,Z=num (nextB l at_ R):=⟨_,rfl⟩
  rw[<-hZ] at hget
  have HZ:Hid (Z=num (nextB l at_ R)):=hZ
  clear hlf2 hw2 hr1 hB1 hZ
  go_wp2_with fail
  refine hget.mono ?_
  rintro e w3 ⟨rfl,hL3⟩
  have hB3:=hL3.below hB2 (by rintro k rfl;exact Nat.le_refl _) hB2.size
  clear hget hr2 hL3
  by_cases hz:Z=0
  ·have e1:endP l at_=0:=by unfold endP;rw[if_neg (by rw[<-HR.out];exact h7),if_pos (by rw[<-HR.out,<-HZ.out];exact hz)]
   have HE1:Hid (endP l at_=0):=e1
   clear e1 HZ
   subst hz
   go_wp2
   go_ret
   exact⟨by rw[HE1.out];rfl,hB3⟩
  ·have e1:endP l at_=4:=by unfold endP;rw[if_neg (by rw[<-HR.out];exact h7),if_neg (by rw[<-HR.out,<-HZ.out];exact hz)]
   have HE1:Hid (endP l at_=4):=e1
   clear e1
   go_wp2
   go_ret
   exact⟨by rw[HE1.out];rfl,hB3⟩
structure Fr where
 k:Int
 f:Int
 t:Int
 e:Int
 s:Int
 r:Int
 n:Nat
 m:Int
 v:Int
 i:Int
 key:List UInt8
 body:List UInt8
 tag:List UInt8
def Fr.zero:Fr:=⟨0,0,0,0,0,0,0,0,0,0,[],[],[]⟩
def inB (n most:Int):Bool:=decide (0<=n/\n<=most)
def numsB (F:Fr):Bool:=inB F.f 7&&inB F.t 7&&inB F.e 65535&&inB F.s 1048576&&inB F.r 1048576&&inB F.m 1099511627776&&inB F.v 255&&inB F.i 256
def coreB (F:Fr):Bool:=
 numsB F&&decide (F.body.length<=16) &&
  (if F.k = 1 then decide (F.key.length = 16 ∧ F.t = 0 ∧ F.n = 0 ∧ F.m = 0 ∧ F.s = 0)
   else if F.k = 2 then decide (F.f ≠ F.t ∧ F.key.length = 0 ∧ F.e = 0 ∧ F.i = 0 ∧ F.r = 0 ∧ F.v = 0 ∧ F.body.length = 0 ∧ F.m = 0 ∧ F.s = 0)
   else if F.k = 3 then decide (F.f ≠ F.t ∧ F.key.length = 16 ∧ F.r = 0 ∧ F.v = 0 ∧ F.body.length = 0)
   else false)
def rightB (F:Fr):Bool:=coreB F&&decide (F.tag.length=8)
def pingBits (F:Fr):List Bool:=bitsN F.t.toNat 4++bitsN F.n 64
def pongBits (F:Fr):List Bool:=pingBits F++bitsN F.m.toNat 48++bitsN F.e.toNat 16++bitsN F.s.toNat 24++bitsN F.i.toNat 16++bitsOf F.key
def dataBits (F:Fr):List Bool:=bitsN F.e.toNat 16++bitsN F.r.toNat 24++bitsN F.v.toNat 8++bitsN F.i.toNat 16++bitsOf F.key++bitsN F.body.length 5++bitsOf F.body
def kindBits (F:Fr):List Bool:=if F.k=1 then dataBits F else if F.k=2 then pingBits F else pongBits F
def coreBits (F:Fr):List Bool:=bitsN F.k.toNat 4++bitsN F.f.toNat 4++kindBits F
def coreL (F:Fr):List UInt8:=packL (coreBits F)
def putL (F:Fr):List UInt8:=fixL (packL (coreBits F++bitsOf F.tag))
structure Rs where
 at_:Nat
 miss:Bool
def numN (l:List UInt8)(s:Rs)(W:Nat):Nat:=getN l s.at_ (W:Int)
def numS (l:List UInt8)(s:Rs)(W:Nat):Rs:=⟨getAt l s.at_ (W:Int),s.miss||decide (getP (8*l.length-s.at_) (W:Int)≠0)⟩
def lstN (l:List UInt8)(s:Rs)(n:Nat):List UInt8:=takeL l s.at_ (n:Int)
def lstS (l:List UInt8)(s:Rs)(n:Nat):Rs:=⟨takeAt l s.at_ (n:Int),s.miss||decide (takeP (8*l.length-s.at_) (n:Int)≠0)⟩
def pingR (l:List UInt8)(F:Fr)(s:Rs):Fr×Rs:=
 let s1:=numS l s 4
 ({ F with t:=numN l s 4,n:=numN l s1 64 },numS l s1 64)
def pongR (l:List UInt8)(F:Fr)(s:Rs):Fr×Rs:=
 let p:=pingR l F s
 let s1:=numS l p.2 48
 let s2:=numS l s1 16
 let s3:=numS l s2 24
 let s4:=numS l s3 16
 ({ p.1 with m:=numN l p.2 48,e:=numN l s1 16,s:=numN l s2 24,i:=numN l s3 16,key:=lstN l s4 16 },lstS l s4 16)
def dataR (l:List UInt8)(F:Fr)(s:Rs):Fr×Rs:=
 let s1:=numS l s 16
 let s2:=numS l s1 24
 let s3:=numS l s2 8
 let s4:=numS l s3 16
 let s5:=lstS l s4 16
 let s6:=numS l s5 5
 ({ F with e:=numN l s 16,r:=numN l s1 24,v:=numN l s2 8,i:=numN l s3 16,key:=lstN l s4 16,body:=lstN l s6 (numN l s5 5) },lstS l s6 (numN l s5 5))
def coreR (l:List UInt8):Fr×Rs:=
 let s0:Rs:=⟨0,false⟩
 let s1:=numS l s0 4
 let s2:=numS l s1 4
 let F:Fr:={ Fr.zero with k:=numN l s0 4,f:=numN l s1 4 }
 if F.k=1 then dataR l F s2 else if F.k=2 then pingR l F s2 else if F.k=3 then pongR l F s2 else (F,s2)
def wholeR (l:List UInt8):Fr×Rs:=
 let p:=coreR l
 ({ p.1 with tag:=lstN l p.2 8 },lstS l p.2 8)
def fineB (l:List UInt8):Bool := !(wholeR l).2.miss&&decide (endP l (wholeR l).2.at_=0)&&rightB (wholeR l).1
def getE (l:List UInt8):Nat:=if l.length<3 then 3 else if goodL l=false then 8 else if fineB (l.take (l.length-3))=false then 4 else 0
def getF (l:List UInt8):Fr:=if getE l=0 then (wholeR (l.take (l.length-3))).1 else Fr.zero
theorem num_lt2 (l:List UInt8)(s:Rs)(W:Nat):numN l s W<2^W:=by
 unfold numN getN
 split
 ·refine Nat.lt_of_lt_of_le (num_lt _) (Nat.pow_le_pow_right (by omega) ?_)
  have:=nextB_len l s.at_ W
  simpa using this
 ·exact Nat.two_pow_pos W
theorem num_inj:∀ (a b:List Bool),a.length=b.length->num a=num b->a=b:=by
 intro a
 induction a with
 | nil=>intro b h _;cases b;rfl;simp at h
 | cons x a ih =>
   intro b h hn
   cases b with
   | nil => simp at h
   | cons y b =>
     have hl : a.length = b.length := by simpa using h
     rw [num_cons, num_cons, hl] at hn
     have ha := num_lt a
     have hb := num_lt b
     rw [hl] at ha
     have hxy : x = y := by
       cases x <;> cases y <;> simp at hn ⊢ <;> omega
     subst hxy
     rw [ih b hl (by omega)]
theorem bitsN_num (t:List Bool):bitsN (num t) t.length=t:=by
 apply num_inj
 ·rw[bitsN_length]
 ·rw[num_bitsN,Nat.mod_eq_of_lt (num_lt t)]
structure Did (l:List UInt8)(s:Rs)(B:List Bool):Prop where
 ok:s.miss=false
 le:s.at_<=8*l.length
 bits:(bitsOf l).take s.at_=B
 len:B.length=s.at_
theorem Did.start (l:List UInt8):Did l ⟨0,false⟩ []:=⟨rfl,Nat.zero_le _,by simp,rfl⟩
theorem Did.number {l:List UInt8}{s:Rs}{B:List Bool}(h:Did l s B)(W:Nat)(hm:(numS l s W).miss=false):Did l (numS l s W) (B++bitsN (numN l s W) W):=by
 have h0:getP (8*l.length-s.at_) (W:Int)=0:=by
  unfold numS at hm
  simp only[h.ok,Bool.false_or,decide_eq_false_iff_not,ne_eq,Decidable.not_not] at hm
  exact hm
 have hW:s.at_+W<=8*l.length/\W<=64:=by
  have hle:=h.le
  unfold getP at h0
  by_cases h1:(W:Int)<0\/64<(W:Int)
  ·rw[if_pos h1] at h0;cases h0
  ·rw[if_neg h1] at h0
   by_cases h2:((8*l.length-s.at_:Nat):Int)<W
   ·rw[if_pos h2] at h0;cases h0
   ·omega
 have eat:(numS l s W).at_=s.at_+W:=by unfold numS getAt;simp[h0]
 have en:numN l s W=num (nextB l s.at_ W):=by unfold numN getN;rw[if_pos h0];simp
 have eb:bitsN (numN l s W) W=nextB l s.at_ W:=by
  rw[en]
  have:=bitsN_num (nextB l s.at_ W)
  rw[nextB_length l s.at_ W hW.1] at this
  exact this
 refine⟨hm,by rw[eat];exact hW.1,?_,by rw[eat,List.length_append,h.len,bitsN_length]⟩
 rw[eat,List.take_add,h.bits,eb];rfl
theorem Did.lst {l:List UInt8}{s:Rs}{B:List Bool}(h:Did l s B)(n:Nat)(hm:(lstS l s n).miss=false):Did l (lstS l s n) (B++bitsOf (lstN l s n))/\(lstN l s n).length=n:=by
 have h0:takeP (8*l.length-s.at_) (n:Int)=0:=by
  unfold lstS at hm
  simp only[h.ok,Bool.false_or,decide_eq_false_iff_not,ne_eq,Decidable.not_not] at hm
  exact hm
 have hW:s.at_+8*n<=8*l.length:=by
  have hle:=h.le
  unfold takeP at h0
  by_cases h1:(n:Int)<0\/1024<(n:Int)
  ·rw[if_pos h1] at h0;cases h0
  ·rw[if_neg h1] at h0
   by_cases h2:((8*l.length-s.at_:Nat):Int)<8*n
   ·rw[if_pos h2] at h0;cases h0
   ·omega
 have eat:(lstS l s n).at_=s.at_+8*n:=by unfold lstS takeAt;simp[h0]
 have en:lstN l s n=packL (nextB l s.at_ (8*n)):=by unfold lstN takeL;rw[if_pos h0];simp
 have hnl:=nextB_length l s.at_ (8*n) hW
 have eb:bitsOf (lstN l s n)=nextB l s.at_ (8*n):=by
  rw[en,packL_bits,hnl,show 8*((8*n+7)/8)-8*n=0 by omega,List.replicate_zero,List.append_nil]
 have hlen:(lstN l s n).length=n:=by rw[en,packL_length,hnl];omega
 refine⟨⟨hm,by rw[eat];exact hW,?_,by rw[eat,List.length_append,h.len,bitsOf_length,hlen]⟩,hlen⟩
 rw[eat,List.take_add,h.bits,eb];rfl
theorem numS_ok {l:List UInt8}{s:Rs}{W:Nat}(h:(numS l s W).miss=false):s.miss=false:=by
 unfold numS at h;simp only[Bool.or_eq_false_iff] at h;exact h.1
theorem lstS_ok {l:List UInt8}{s:Rs}{W:Nat}(h:(lstS l s W).miss=false):s.miss=false:=by
 unfold lstS at h;simp only[Bool.or_eq_false_iff] at h;exact h.1
theorem inB_iff (n most:Int):inB n most=true↔0<=n/\n<=most:=by simp[inB]
theorem numsB_iff (F:Fr):numsB F=true↔(0<=F.f/\F.f<=7)/\(0<=F.t/\F.t<=7)/\(0<=F.e/\F.e<=65535)/\(0<=F.s/\F.s<=1048576)/\(0<=F.r/\F.r<=1048576)/\(0<=F.m/\F.m<=1099511627776)/\(0<=F.v/\F.v<=255)/\(0<=F.i/\F.i<=256):=by
 simp[numsB,inB_iff,and_assoc]
theorem fr_ext {F G:Fr}(h0:F.k=G.k)(h1:F.f=G.f)(h2:F.t=G.t)(h3:F.e=G.e)(h4:F.s=G.s)(h5:F.r=G.r)(h6:F.n=G.n)(h7:F.m=G.m)(h8:F.v=G.v)(h9:F.i=G.i)(h10:F.key=G.key)(h11:F.body=G.body)(h12:F.tag=G.tag):F=G:=by
 cases F;cases G;simp_all
theorem num_noughts:∀ k,num (List.replicate k false)=0
 | 0=>rfl
 | k+1=>by rw[List.replicate_succ,num_cons,num_noughts k];simp
theorem noughts_of (t:List Bool)(h:num t=0):t=List.replicate t.length false:=num_inj _ _ (by simp) (by rw[h,num_noughts])
theorem Did.ended {l:List UInt8}{s:Rs}{B:List Bool}(h:Did l s B)(he:endP l s.at_=0):packL B=l:=by
 have hle:=h.le
 have h7:8*l.length-s.at_<=7:=by
  unfold endP at he
  by_cases h1:7<8*l.length-s.at_
  ·rw[if_pos h1] at he;cases he
  ·omega
 have hz:num (nextB l s.at_ (8*l.length-s.at_))=0:=by
  unfold endP at he
  rw[if_neg (by omega)] at he
  by_cases h1:num (nextB l s.at_ (8*l.length-s.at_))=0
  ·exact h1
  ·rw[if_neg h1] at he;cases he
 have hr:=noughts_of _ hz
 have hnl:=nextB_length l s.at_ (8*l.length-s.at_) (by omega)
 rw[hnl] at hr
 have hall:bitsOf l=B++List.replicate (8*l.length-s.at_) false:=by
  rw[<-hr,<-h.bits]
  unfold nextB
  rw[List.take_of_length_le (l:=(bitsOf l).drop s.at_) (by rw[List.length_drop,bitsOf_length];omega),List.take_append_drop]
 apply bitsOf_inj
 rw[packL_bits,hall,h.len]
 congr 2
 omega
theorem fix_take (l:List UInt8):(fixL l).length=l.length+3/\(fixL l).take ((fixL l).length-3)=l:=by
 have h:(fixL l).length=l.length+3:=by simp[fixL,sum3]
 refine⟨h,?_⟩
 rw[h,Nat.add_sub_cancel];simp[fixL]
theorem whole_bits (l:List UInt8)(hm:(wholeR l).2.miss=false)(hr:rightB (wholeR l).1=true):Did l (wholeR l).2 (coreBits (wholeR l).1++bitsOf (wholeR l).1.tag):=by
 have hst:=Did.start l
 have hk3:(wholeR l).1.k=1\/(wholeR l).1.k=2\/(wholeR l).1.k=3:=by
  unfold rightB coreB at hr
  by_cases k1:(wholeR l).1.k=1
  ·exact .inl k1
  ·by_cases k2:(wholeR l).1.k=2
   ·exact .inr (.inl k2)
   ·by_cases k3:(wholeR l).1.k=3
    ·exact .inr (.inr k3)
    ·simp[k1,k2,k3] at hr
 clear hr
 obtain⟨s1,hs1⟩:∃ s1,s1=numS l ⟨0,false⟩ 4:=⟨_,rfl⟩
 obtain⟨s2,hs2⟩:∃ s2,s2=numS l s1 4:=⟨_,rfl⟩
 by_cases k1:((numN l ⟨0,false⟩ 4:Nat):Int)=1
 ·have hcore:coreR l=dataR l { Fr.zero with k:=numN l ⟨0,false⟩ 4,f:=numN l s1 4 } s2:=by
   rw[hs2,hs1];unfold coreR;simp only[k1,if_true]
  unfold wholeR at hm ⊢
  rw[hcore] at hm ⊢
  simp only[dataR] at hm ⊢
  have m8:=lstS_ok hm
  have m7:=lstS_ok m8
  have m6:=numS_ok m7
  have m5:=lstS_ok m6
  have m4:=numS_ok m5
  have m3:=numS_ok m4
  have m2:=numS_ok m3
  have m1:=numS_ok m2
  rw[hs2] at m1
  have m0:=numS_ok m1
  rw[hs1] at m0
  have d1:=hst.number 4 m0
  rw[<-hs1] at d1 m0
  have d2:=d1.number 4 m1
  rw[<-hs2] at d2 m1
  have d3:=d2.number 16 m2
  have d4:=d3.number 24 m3
  have d5:=d4.number 8 m4
  have d6:=d5.number 16 m5
  obtain⟨d7,z7⟩:=d6.lst 16 m6
  have d8:=d7.number 5 m7
  obtain⟨d9,z9⟩:=d8.lst _ m8
  obtain⟨d10,_⟩:=d9.lst 8 hm
  simp only[coreBits,kindBits,k1,if_true,dataBits,Int.toNat_natCast,z9]
  rw[show (1:Int).toNat=numN l ⟨0,false⟩ 4 from by omega]
  simpa only [List.append_assoc,List.nil_append] using d10
 ·by_cases k2:((numN l ⟨0,false⟩ 4:Nat):Int)=2
  ·have hcore:coreR l=pingR l { Fr.zero with k:=numN l ⟨0,false⟩ 4,f:=numN l s1 4 } s2:=by
    rw[hs2,hs1];unfold coreR;simp only[k2];rfl
   unfold wholeR at hm ⊢
   rw[hcore] at hm ⊢
   simp only[pingR] at hm ⊢
   have m3:=lstS_ok hm
   have m2:=numS_ok m3
   have m1:=numS_ok m2
   rw[hs2] at m1
   have m0:=numS_ok m1
   rw[hs1] at m0
   have d1:=hst.number 4 m0
   rw[<-hs1] at d1 m0
   have d2:=d1.number 4 m1
   rw[<-hs2] at d2 m1
   have d3:=d2.number 4 m2
   have d4:=d3.number 64 m3
   obtain⟨d10,_⟩:=d4.lst 8 hm
   simp only[coreBits,kindBits,k2,if_true,pingBits,Int.toNat_natCast]
   rw[show (2:Int).toNat=numN l ⟨0,false⟩ 4 from by omega,if_neg (by decide)]
   simpa only [List.append_assoc,List.nil_append] using d10
  ·by_cases k3:((numN l ⟨0,false⟩ 4:Nat):Int)=3
   ·have hcore:coreR l=pongR l { Fr.zero with k:=numN l ⟨0,false⟩ 4,f:=numN l s1 4 } s2:=by
     rw[hs2,hs1];unfold coreR;simp only[k3];rfl
    unfold wholeR at hm ⊢
    rw[hcore] at hm ⊢
    simp only[pongR,pingR] at hm ⊢
    have m8:=lstS_ok hm
    have m7:=lstS_ok m8
    have m6:=numS_ok m7
    have m5:=numS_ok m6
    have m4:=numS_ok m5
    have m3:=numS_ok m4
    have m2:=numS_ok m3
    have m1:=numS_ok m2
    rw[hs2] at m1
    have m0:=numS_ok m1
    rw[hs1] at m0
    have d1:=hst.number 4 m0
    rw[<-hs1] at d1 m0
    have d2:=d1.number 4 m1
    rw[<-hs2] at d2 m1
    have d3:=d2.number 4 m2
    have d4:=d3.number 64 m3
    have d5:=d4.number 48 m4
    have d6:=d5.number 16 m5
    have d7:=d6.number 24 m6
    have d8:=d7.number 16 m7
    obtain⟨d9,_⟩:=d8.lst 16 m8
    obtain⟨d10,_⟩:=d9.lst 8 hm
    simp only[coreBits,kindBits,k3,pongBits,pingBits,Int.toNat_natCast]
    rw[show (3:Int).toNat=numN l ⟨0,false⟩ 4 from by omega,if_neg (by decide),if_neg (by decide)]
    simpa only [List.append_assoc,List.nil_append] using d10
   ·exfalso
    have hcore:coreR l=({ Fr.zero with k:=numN l ⟨0,false⟩ 4,f:=numN l s1 4 },s2):=by
     rw[hs2,hs1];unfold coreR;simp only[k1,k2,k3];rfl
    unfold wholeR at hk3
    rw[hcore] at hk3
    simp only at hk3
    omega
theorem put_get (l:List UInt8)(h:getE l=0):rightB (getF l)=true/\putL (getF l)=l/\(getF l).n<18446744073709551616:=by
 have hF:getF l=(wholeR (l.take (l.length-3))).1:=by unfold getF;rw[if_pos h]
 unfold getE at h
 by_cases h3:l.length<3
 ·rw[if_pos h3] at h;cases h
 ·rw[if_neg h3] at h
  by_cases hg:goodL l=false
  ·rw[if_pos hg] at h;cases h
  ·rw[if_neg hg] at h
   by_cases hf:fineB (l.take (l.length-3))=false
   ·rw[if_pos hf] at h;cases h
   ·have hf':fineB (l.take (l.length-3))=true:=by simpa using hf
    have hg':goodL l=true:=by simpa using hg
    unfold fineB at hf'
    simp only[Bool.and_eq_true,Bool.not_eq_true',decide_eq_true_eq] at hf'
    obtain⟨⟨hm,he⟩,hr⟩:=hf'
    have hd:=whole_bits _ hm hr
    have hp:=hd.ended he
    rw[hF]
    refine⟨hr,?_,?_⟩
    ·unfold putL
     rw[hp]
     unfold goodL at hg'
     simp only[decide_eq_true_eq] at hg'
     exact hg'.2
    ·have hn64:∀ s,numN (l.take (l.length-3)) s 64<18446744073709551616:=λs=>num_lt2 _ s 64
     obtain⟨B,hB⟩:∃ B,B=18446744073709551616:=⟨_,rfl⟩
     have hB0:0<B:=by omega
     rw[<-hB] at hn64 ⊢
     clear hB
     unfold wholeR coreR
     dsimp only
     split
     ·dsimp only[dataR,Fr.zero];exact hB0
     ·split
      ·dsimp only[pingR];exact hn64 _
      ·split
       ·dsimp only[pongR,pingR];exact hn64 _
       ·dsimp only[Fr.zero];exact hB0
theorem put_len (F:Fr)(hr:rightB F=true):3<=(putL F).length/\(putL F).length<=53/\(coreBits F++bitsOf F.tag).length<=397:=by
 unfold rightB coreB at hr
 simp only[Bool.and_eq_true,decide_eq_true_eq] at hr
 obtain⟨⟨⟨hN,hB⟩,hK⟩,hT⟩:=hr
 have hcl:(coreBits F++bitsOf F.tag).length<=397:=by
  have hb5:F.key.length<=16:=by
   by_cases k1:F.k=1
   ·rw[if_pos k1] at hK;simp only[decide_eq_true_eq] at hK;omega
   ·rw[if_neg k1] at hK
    by_cases k2:F.k=2
    ·rw[if_pos k2] at hK;simp only[decide_eq_true_eq] at hK;omega
    ·rw[if_neg k2] at hK
     by_cases k3:F.k=3
     ·rw[if_pos k3] at hK;simp only[decide_eq_true_eq] at hK;omega
     ·rw[if_neg k3] at hK;cases hK
  have hkl:(kindBits F).length<=325:=by
   unfold kindBits
   split
   ·simp only[dataBits,List.length_append,bitsN_length,bitsOf_length];omega
   ·split
    ·simp only[pingBits,List.length_append,bitsN_length];omega
    ·simp only[pongBits,pingBits,List.length_append,bitsN_length,bitsOf_length];omega
  simp only[coreBits,List.length_append,bitsN_length,bitsOf_length,hT]
  omega
 have h3:(putL F).length=(packL (coreBits F++bitsOf F.tag)).length+3:=(fix_take _).1
 rw[packL_length] at h3
 omega
end Go.Proofs.YtahnbljbhfpldaaGreatDoor
