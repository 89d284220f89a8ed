/-
  The contracts of the document's begin and Of.

  The contracts of the document's pad, Of, Short and Check of layer 3.
  The contracts of the document's Expand, label, Key, Pair, Own, Step and Mac of layer 4.
-/
import Derived.Test.YthogohkieiogiaaGreatDoorRefA
import Derived.Lib.ConvBytes
namespace Go.Proofs.YthogohkieiogiaaGreatDoor
set_option maxRecDepth 20000
set_option maxHeartbeats 3200000
open Go.ChangeShapes Go.WideShapes Go.ChangeAt Go.RowKit
theorem begin_any (w:World):Calls Tryz.prog 165 #[] w λe w'=>e=.returned (.slice (some ⟨w.heap.size,0,none⟩) 8 8)/\Words w' (some ⟨w.heap.size,0,none⟩) 8 start.list/\Below w.heap.size w w':=by
 have hW:Words (w.alloc (.cells #[.int .u32 0x6a09e667,.int .u32 0xbb67ae85,.int .u32 0x3c6ef372,.int .u32 0xa54ff53a,.int .u32 0x510e527f,.int .u32 0x9b05688c,.int .u32 0x1f83d9ab,.int .u32 0x5be0cd19] 62)) (some ⟨w.heap.size,0,none⟩) 8 start.list:=
  Words.of_row' (l:=start.list) (heap_alloc_new w _) (by simp[S8.list]) (S8.small_list start_small)
 go_enter Tryz.func165,Tryz.ntmps165
 go_wp2
 go_ret
 exact⟨rfl,hW,(Below.refl _ _).alloc (Nat.le_refl _) _⟩
theorem rof_long (w:World)(x:Option Addr)(m cx:Nat)(hl:1048576<m):
  Calls Tryz.prog 134 #[.slice x m cx] w λe w'=>e=.returned (.tuple #[.slice none 0 0,.int .i64 2])/\w'=w:=by
 go_enter Tryz.func134,Tryz.ntmps134
 go_wp2
 go_ret2
 exact⟨rfl,rfl⟩
theorem rof_own (w:World)(x:Option Addr)(cx:Nat)(bs:List UInt8)(hx:Sees w x cx bs)(hl:bs.length<=1048576):
  Calls Tryz.prog 134 #[.slice x bs.length cx] w λe w'=>∃ d cd r,Hid (r=shaL bs)/\e=.returned (.tuple #[.slice d r.length cd,.int .i64 0])/\Sees w' d cd r/\Below w.heap.size w w'/\w'.ownsRow w.heap.size 5 1 (.slice d r.length cd) r.length (r.map cellOf):=by
 obtain⟨i5,hi,hz0,hz1,hz2⟩:=info_parts Tryz.info5
 have hb0:Below w.heap.size w (w.alloc (.cells #[] 5)):=(Below.refl _ _).alloc (Nat.le_refl _) _
 obtain⟨v1,w1,hrun1,ho1,hk1⟩:=append_own_any _ w.heap.size _ [] (own_empty w) x cx bs (hx.below hb0) (by simp;omega) (by simp)
 rw[List.nil_append] at ho1
 have hb1:=hk1 _ _ hb0 (Nat.le_refl _)
 have R1:Hid ((Builtin.append_ #[22,22] 22 #[.slice (some ⟨w.heap.size,0,none⟩) 0 0,.slice x bs.length cx]).run Tryz.prog (w.alloc (.cells #[] 5))=.ok v1 w1):=hrun1
 have hsx:Sees (w1.alloc (.cells #[.int .u8 128] 5)) (some ⟨w1.heap.size,0,none⟩) 1 [0x80]:=
  ⟨by simp, by unfold maxLen; omega, by simp, fun _ => ⟨w1.heap.size, 0, rfl, fun i x hx => by
    rw [cell_of_row _ _ (0 + i) _ _ _ (heap_alloc_new w1 _)]
    have : i = 0 := by have := (List.getElem?_eq_some_iff.1 hx).1; simpa using this
    subst this
    simp at hx
    subst hx
    rfl⟩⟩
 obtain⟨v2,w2,hrun2,ho2,hk2⟩:=append_own_any (w1.alloc (.cells #[.int .u8 128] 5)) w.heap.size v1 bs (ho1.alloc _) _ 1 [0x80] hsx (by simp;omega) (by have:=hb1.size;simp;omega)
 have hb2:=hk2 _ _ (hb1.alloc hb1.size _) (Nat.le_refl _)
 have R2:Hid ((Builtin.append_ #[22,22] 22 #[v1,.slice (some ⟨w1.heap.size,0,none⟩) 1 1]).run Tryz.prog (w1.alloc (.cells #[.int .u8 128] 5))=.ok v2 w2):=hrun2
 obtain⟨d,cd,rfl,_⟩:=Sees.of_own ho2
 have hlen2:(bs++[0x80]).length=bs.length+1:=by simp
 rw[hlen2] at ho2 R2
 have d1:decide ((1048576:Int)<(bs.length:Int))=false:=by simp;omega
 clear hrun1 hrun2 ho1 hk1 hk2 hsx hb0 hb1 hlen2 hx
 go_enter Tryz.func134,Tryz.ntmps134
 go_wp2_with (at_builtin;first|refine wpList_append_run rfl _ _ 22 rfl _ _ _ rfl rfl R1.out ?_|refine wpList_append_run rfl _ _ 22 rfl _ _ _ rfl rfl R2.out ?_)
 go_loopw [4] (λv wr=>∃ (j:Nat) (d:Option Addr) (cd:Nat),j<=zs bs.length/\v=.slice d (bs.length+1+j) cd/\wr.ownsRow w.heap.size 5 1 (.slice d (bs.length+1+j) cd) (bs.length+1+j) ((bs++[0x80]++List.replicate j 0).map cellOf)/\Below w.heap.size w wr)
  (λv _=>match v with | .slice _ n _=>bs.length+1+zs bs.length-n|_=>0)
 case atStart=>exact⟨0,d,cd,Nat.zero_le _,rfl,by simpa using ho2,hb2⟩
 case round=>
  obtain⟨j,d,cd,hj,rfl,ho,hbl⟩:=hrel
  clear ho2 hb2 R1 R2
  have hzl:=zs_lt bs.length
  by_cases hlt:j<zs bs.length
  ·have hm:(((bs.length:Int)+1+(j:Int))%64 != 56)=true:=by
    simp only[bne_iff_ne];unfold zs at hlt;omega
   have hsz:=hbl.size
   obtain⟨v,w3,hrun,ho3,hg,_⟩:=run_append_own (P:=Tryz.prog) (wr.alloc (.cells #[.int .u8 0] 5)) w.heap.size 22 22 5 i5 (.int .u8 0) 1 1 Tryz.underlying22 hi hz0 hz1 hz2 rfl (by omega) _ _ _ (ho.alloc _) ⟨wr.heap.size,0,none⟩ 1 1 [.int .u8 0] (by simp) (World.news_of_block (heap_alloc_new wr _)) (by simp[Value.oneCell']) (by unfold maxLen;omega) (by omega) (by simp;omega)
   have ho4:w3.ownsRow w.heap.size 5 1 v (bs.length+1+(j+1)) ((bs++[0x80]++List.replicate (j+1) 0).map cellOf):=by
    rw[List.replicate_succ',<-List.append_assoc,List.map_append];exact ho3
   have hb3:Below w.heap.size w w3:=(hbl.alloc hsz _).grown hg (by simp;omega) (λq h=>(ho.lt _ h).1)
   obtain⟨d2,cd2,rfl,_⟩:=Sees.of_own ho4
   have hlen:(bs++[0x80]++List.replicate (j+1) (0:UInt8)).length=bs.length+1+(j+1):=by simp;omega
   rw[hlen] at hrun ho4
   have HA:Hid ((Builtin.append_ #[22,22] 22 #[.slice d (bs.length+1+j) cd,.slice (some ⟨wr.heap.size,0,none⟩) 1 1]).run Tryz.prog (wr.alloc (.cells #[.int .u8 0] 5))=.ok (.slice d2 (bs.length+1+(j+1)) cd2) w3):=hrun
   clear hrun ho3 hg hlen
   go_wp2_with (at_builtin;refine wpList_append_run rfl _ _ 22 rfl _ _ _ rfl rfl HA.out ?_)
   go_roundw
   case rel=>exact⟨j+1,d2,cd2,by omega,rfl,ho4,hb3⟩
   case measure=>simp;omega
  ·obtain rfl:j=zs bs.length:=by omega
   obtain⟨d2,cd2,hv,hs⟩:=Sees.of_own ho
   obtain⟨r,hr⟩:∃ r,r=bs++[0x80]++List.replicate (zs bs.length) (0:UInt8):=⟨_,rfl⟩
   rw[<-hr] at hs hv
   have hrl:bs.length+1+zs bs.length=r.length:=by rw[hr];simp;omega
   have Hr:Hid (r=bs++[0x80]++List.replicate (zs bs.length) (0:UInt8)):=hr
   have HRL:Hid (bs.length+1+zs bs.length=r.length):=hrl
   rw[hv]
   have hm2:((r.length:Int)%64 != 56)=false:=by
    simp only[bne_eq_false_iff_eq];rw[<-hrl];unfold zs;omega
   have hput:=refputlong_any wr d2 cd2 r (8*bs.length) hs (by omega) (by omega)
   clear ho hv hr hrl hs
   go_wp2_with fail
   refine(show Calls _ _ _ _ _ from by simpa using hput).mono ?_
   rintro e w4 ⟨d3,cd3,r3,HR3,rfl,hs3,hb3⟩
   have hb4:Below w.heap.size w w4:=hbl.trans (hb3.mono hbl.size)
   have hpad:Hid (r3=pad bs bs.length):=by rw[HR3.out,Hr.out];exact rfl
   have hr3l:r3.length%64=0:=by rw[hpad.out];exact pad_length64 _ _
   have hr3s:r3.length<=1100000:=by rw[hpad.out,pad_length];omega
   have hr3p:0<r3.length:=by rw[hpad.out,pad_length];omega
   have hend:Hid (w4s (runB start r3 (r3.length/64)).list=shaL bs):=by rw[hpad.out];exact rfl
   obtain⟨rb,ro,rfl,_⟩:=hs3.at' (by intro h;rw[h] at hr3p;simp at hr3p)
   have hbeg:=begin_any w4
   clear hput hb3 HR3 Hr HRL hbl hm2
   go_wp2_with fail
   refine hbeg.mono ?_
   rintro e w5 ⟨rfl,hW5,hb5⟩
   have hs5:=hs3.below hb5
   have hb5w:=hb4.trans (hb5.mono hb4.size)
   have hfit:=hs3.fits
   have hroom:=hs3.room
   unfold maxLen at hroom
   clear hbeg hs3 hb5 hb4
   go_wp2
   go_loopw [5,6] (λv i wr=>∃ (k:Nat) (dd:Option Addr) (c:Nat),64*k<=r3.length/\i=.int .i64 ((64*k:Nat):Int)/\v=.slice dd 8 c/\Words wr dd c (runB start r3 k).list/\Sees wr (some ⟨rb,ro,none⟩) cd3 r3/\Below w.heap.size w wr)
    (λ_ i _=>r3.length-(intOf i).toNat)
   case atStart=>exact⟨0,_,8,by omega,rfl,rfl,hW5,hs5,hb5w⟩
   case round=>
    obtain⟨k,dd,c,hk,rfl,rfl,hWr,hsr,hblr⟩:=hrel
    clear hW5 hs5 hb5w
    by_cases hlt2:64*k<r3.length
    ·have h64:64*k+64<=r3.length:=by omega
     have hblk:=(hsr.drop (64*k) (by omega)).take 64
     have hbl64:((r3.drop (64*k)).take 64).length=64:=by rw[List.length_take,List.length_drop];omega
     have hcall:=rblock_yes wr dd c (runB start r3 k) (runB_small start_small _ _) hWr _ _ _ hblk hbl64
     have hnx:Hid (mixS (runB start r3 k) ((r3.drop (64*k)).take 64)=runB start r3 (k+1)):=rfl
     have hne:¬ (cd3=64*k):=by omega
     have g1:((64*k:Nat):Int)+64<=(cd3:Int):=by omega
     have hs64:64*k+64-64*k=64:=by omega
     have HSR:Hid (Sees wr (some ⟨rb,ro,none⟩) cd3 r3):=hsr
     clear hblk hbl64 hWr hsr
     go_wp2_with fail
     refine hcall.mono ?_
     rintro e w6 ⟨d6,c6,rfl,hW6,hb6⟩
     rw[hnx.out] at hW6
     have hs6:=HSR.out.below hb6
     have hb6w:=hblr.trans (hb6.mono hblr.size)
     clear hcall
     go_wp2
     go_roundw
     case rel=>exact⟨k+1,d6,c6,by omega,by go_num,rfl,hW6,hs6,hb6w⟩
     case measure=>simp[intOf];omega
    ·have hkk:r3.length/64=k:=by omega
     have hpt:=refput_own wr none dd 0 c [] (runB start r3 k).list (Sees.nil' _) hWr (by simp) (by simp[S8.list])
     have HE:Hid (w4s (runB start r3 k).list=shaL bs):=by rw[<-hkk];exact hend.out
     clear hWr hsr
     go_wp2_with fail
     refine hpt.mono ?_
     rintro e w7 ⟨d7,c7,r7,HR7,rfl,hs7,hb7,ho7⟩
     clear hpt
     go_wp2
     go_ret2
     exact⟨d7,c7,r7,by rw[HR7.out,List.nil_append];exact HE,rfl,hs7,hblr.trans (hb7.mono hblr.size),ho7.mono hblr.size⟩
theorem rof_ok (w:World)(x:Option Addr)(cx:Nat)(bs:List UInt8)(hx:Sees w x cx bs)(hl:bs.length<=1048576):
  Calls Tryz.prog 134 #[.slice x bs.length cx] w λe w'=>∃ d cd r,Hid (r=shaL bs)/\e=.returned (.tuple #[.slice d r.length cd,.int .i64 0])/\Sees w' d cd r/\Below w.heap.size w w':=
 (rof_own w x cx bs hx hl).mono λ_ _ ⟨d,cd,r,h1,h2,h3,h4,_⟩=>⟨d,cd,r,h1,h2,h3,h4⟩
theorem rpad_short (w:World)(a:Option Addr)(ca:Nat)(key:List UInt8)(c:UInt8)(ha:Sees w a ca key)(hl:key.length<=1048576)(h64:¬ 64<key.length):
  Calls Tryz.prog 133 #[.slice a key.length ca,.int .u8 (c.toNat:Int)] w λe w'=>∃ g,e=.returned (.slice (some ⟨g,0,none⟩) 64 64)/\w'.ownsRow w.heap.size 5 1 (.slice (some ⟨g,0,none⟩) 64 64) 64 ((padK key c).map cellOf)/\Below w.heap.size w w':=by
 obtain⟨i5,hi,hz0,hz1,hz2⟩:=info_parts Tryz.info5
 obtain⟨PP,hPP⟩:∃ P,P=padK key c:=⟨_,rfl⟩
 have HPl:Hid (PP.length=64):=by rw[hPP];exact padK_length key c
 rw[<-hPP]
 have hK:keyL key=key:=by unfold keyL;rw[if_neg h64]
 obtain⟨K,hKk⟩:∃ K,K=key:=⟨_,rfl⟩
 have hKK:K=keyL key:=by rw[hK];exact hKk
 rw[<-hKk] at ha ⊢
 obtain⟨x,rfl⟩:∃ x,x=a:=⟨_,rfl⟩
 have hb1:Below w.heap.size w w:=Below.refl _ _
 have hx:Sees w x ca K:=ha
 have h64':K.length<=64:=by rw[hKk];omega
 clear ha hKk hK
 have HPat:Hid (∀ i,i<64->PP[i]?=some ((K[i]?.getD 0)^^^c)):=λi hi=>by rw[hPP,hKK];exact padK_at key c i hi
 have hK64:K.length<=64:=by rw[hKK];exact keyL_le key
 clear hPP hKK
 go_enter Tryz.func133,Tryz.ntmps133
 go_wp2_with (at_make;refine wpList_make_full _ rfl _ _ 22 rfl w.heap.size 5 i5 (.int .u8 0) 1 Tryz.underlying22 hi hz0 hz1 .i64 .i64 _ _ 64 rfl rfl rfl rfl ?b2 ?b3 ?b4 ?_)
 case b2=>rw[hz2];omega
 case b3=>unfold maxLen;omega
 case b4=>exact hb1.size
 intro w2 hown hgrow
 have hbel:Below w.heap.size w w2:=(Below.refl _ _).grown hgrow (Nat.le_refl _) (by intro k h;cases h)
 have ho0:w2.ownsRow w.heap.size 5 1 (.slice (some ⟨w.heap.size,0,none⟩) 64 64) 64 ((PP.take 0++List.replicate (64-0) 0).map cellOf):=by simpa [made_bytes] using hown
 clear hgrow hown
 go_wp2
 go_loopw [9] (λi wr=>∃ k:Nat,k<=64/\i=.int .i64 k/\wr.ownsRow w.heap.size 5 1 (.slice (some ⟨w.heap.size,0,none⟩) 64 64) 64 ((PP.take k++List.replicate (64-k) 0).map cellOf)/\Below w.heap.size w wr) (λi _=>64-(intOf i).toNat)
 case atStart=>exact⟨0,by omega,rfl,ho0,hbel⟩
 case round=>
  obtain⟨k,hk,rfl,ho,hbl⟩:=hrel
  clear ho0 hbel
  by_cases hlt:k<64
  ·have hzk:=HPat.out k hlt
   obtain⟨z,hz⟩:∃ z,z=(K[k]?.getD 0)^^^c:=⟨_,rfl⟩
   rw[<-hz] at hzk
   have hc3:wr.cell? ⟨w.heap.size,k,none⟩=some (.int .u8 0):=by rw[ho.cellAt k (by omega)];exact at_step _ _ k hlt HPl.out
   have hf3:wr.frozen? ⟨w.heap.size,k,none⟩=false:=ho.frozenAt k
   by_cases hkK:k<K.length
   ·obtain⟨x0,hx0⟩:∃ x0,K[k]?=some x0:=⟨K[k],by simp[hkK]⟩
    rw[hx0] at hz
    obtain⟨b1,o1,rfl,hcK⟩:=(hx.below hbl).get hx0
    have e1:bits .xor .u8 (x0.toNat:Int) (c.toNat:Int)=(z.toNat:Int):=by rw[hz];exact bxor x0 c
    have hb1G:b1≠w.heap.size:=by
     have h1:=World.block_lt_of_cell? w ⟨b1,o1+k,none⟩ (by obtain⟨b,o,hh,hcc⟩:=hx.get hx0;cases hh;exact hcc)
     intro h
     rw[h] at h1
     exact Nat.lt_irrefl _ h1
    obtain⟨ho1,_⟩:=ho.stored k (.int .u8 (c.toNat:Int))
    have hs1:(wr.setCell ⟨w.heap.size,k,none⟩ (.int .u8 (c.toNat:Int))).cell? ⟨w.heap.size,k,none⟩=some (.int .u8 (c.toNat:Int)):=by
     rw[ho1.cellAt k (by omega),List.getElem?_set_self (by simp[HPl.out];omega)]
    have hs2:(wr.setCell ⟨w.heap.size,k,none⟩ (.int .u8 (c.toNat:Int))).cell? ⟨b1,o1+k,none⟩=some (.int .u8 (x0.toNat:Int)):=by
     rw[World.cell?_setCell_other _ _ _ _ (by simp)];exact hcK
    have hs3:(wr.setCell ⟨w.heap.size,k,none⟩ (.int .u8 (c.toNat:Int))).frozen? ⟨w.heap.size,k,none⟩=false:=ho1.frozenAt k
    obtain⟨ho2,_⟩:=ho1.stored k (.int .u8 (z.toNat:Int))
    rw[List.set_set,set_step _ _ k z hlt HPl.out hzk] at ho2
    have hbl2:=(hbl.setCell (p:=⟨w.heap.size,k,none⟩) (Nat.le_refl _) (.int .u8 (c.toNat:Int))).setCell (p:=⟨w.heap.size,k,none⟩) (Nat.le_refl _) (.int .u8 (z.toNat:Int))
    clear ho ho1 hz hzk hx0
    go_wp2
    go_roundw
    case rel=>exact⟨k+1,by omega,by go_num,ho2,hbl2⟩
    case measure=>simp[intOf];omega
   ·rw[List.getElem?_eq_none (by omega)] at hz
    have hzc:z=c:=by rw[hz];simp
    obtain⟨ho1,_⟩:=ho.stored k (.int .u8 (z.toNat:Int))
    rw[set_step _ _ k z hlt HPl.out hzk,hzc] at ho1
    have hbl2:=hbl.setCell (p:=⟨w.heap.size,k,none⟩) (Nat.le_refl _) (.int .u8 (c.toNat:Int))
    clear ho hz hzk hzc
    go_wp2
    go_roundw
    case rel=>exact⟨k+1,by omega,by go_num,ho1,hbl2⟩
    case measure=>simp[intOf];omega
  ·obtain rfl:k=64:=by omega
   have e:PP.take 64=PP:=by rw[<-HPl.out];exact List.take_length
   rw[e] at ho
   simp only[Nat.sub_self,List.replicate_zero,List.append_nil] at ho
   have hbf:Below w.heap.size w wr:=hb1.trans (hbl.mono hb1.size)
   go_wp2
   go_ret
   exact⟨_,rfl,ho,hbf⟩
theorem rpad_long (w:World)(a:Option Addr)(ca:Nat)(key:List UInt8)(c:UInt8)(ha:Sees w a ca key)(hl:key.length<=1048576)(h64:64<key.length):
  Calls Tryz.prog 133 #[.slice a key.length ca,.int .u8 (c.toNat:Int)] w λe w'=>∃ g,e=.returned (.slice (some ⟨g,0,none⟩) 64 64)/\w'.ownsRow w.heap.size 5 1 (.slice (some ⟨g,0,none⟩) 64 64) 64 ((padK key c).map cellOf)/\Below w.heap.size w w':=by
 obtain⟨i5,hi,hz0,hz1,hz2⟩:=info_parts Tryz.info5
 obtain⟨PP,hPP⟩:∃ P,P=padK key c:=⟨_,rfl⟩
 have HPl:Hid (PP.length=64):=by rw[hPP];exact padK_length key c
 rw[<-hPP]
 have hK:keyL key=shaL key:=by unfold keyL;rw[if_pos h64]
 have hof:=rof_ok w a ca key ha hl
 clear ha
 go_enter Tryz.func133,Tryz.ntmps133
 go_wp2_with fail
 refine hof.mono ?_
 rintro e w1 ⟨x,cx,K,hKe,rfl,hx,hb1⟩
 clear hof
 have hKK:K=keyL key:=by rw[hK];exact hKe.out
 clear hKe hK
 have HPat:Hid (∀ i,i<64->PP[i]?=some ((K[i]?.getD 0)^^^c)):=λi hi=>by rw[hPP,hKK];exact padK_at key c i hi
 have hK64:K.length<=64:=by rw[hKK];exact keyL_le key
 clear hPP hKK
 go_wp2_with (at_make;refine wpList_make_full _ rfl _ _ 22 rfl w.heap.size 5 i5 (.int .u8 0) 1 Tryz.underlying22 hi hz0 hz1 .i64 .i64 _ _ 64 rfl rfl rfl rfl ?b2 ?b3 ?b4 ?_)
 case b2=>rw[hz2];omega
 case b3=>unfold maxLen;omega
 case b4=>exact hb1.size
 intro w2 hown hgrow
 have hbel:Below w1.heap.size w1 w2:=(Below.refl _ _).grown hgrow (Nat.le_refl _) (by intro k h;cases h)
 have ho0:w2.ownsRow w.heap.size 5 1 (.slice (some ⟨w1.heap.size,0,none⟩) 64 64) 64 ((PP.take 0++List.replicate (64-0) 0).map cellOf):=by simpa [made_bytes] using hown
 clear hgrow hown
 go_wp2
 go_loopw [9] (λi wr=>∃ k:Nat,k<=64/\i=.int .i64 k/\wr.ownsRow w.heap.size 5 1 (.slice (some ⟨w1.heap.size,0,none⟩) 64 64) 64 ((PP.take k++List.replicate (64-k) 0).map cellOf)/\Below w1.heap.size w1 wr) (λi _=>64-(intOf i).toNat)
 case atStart=>exact⟨0,by omega,rfl,ho0,hbel⟩
 case round=>
  obtain⟨k,hk,rfl,ho,hbl⟩:=hrel
  clear ho0 hbel
  by_cases hlt:k<64
  ·have hzk:=HPat.out k hlt
   obtain⟨z,hz⟩:∃ z,z=(K[k]?.getD 0)^^^c:=⟨_,rfl⟩
   rw[<-hz] at hzk
   have hc3:wr.cell? ⟨w1.heap.size,k,none⟩=some (.int .u8 0):=by rw[ho.cellAt k (by omega)];exact at_step _ _ k hlt HPl.out
   have hf3:wr.frozen? ⟨w1.heap.size,k,none⟩=false:=ho.frozenAt k
   by_cases hkK:k<K.length
   ·obtain⟨x0,hx0⟩:∃ x0,K[k]?=some x0:=⟨K[k],by simp[hkK]⟩
    rw[hx0] at hz
    obtain⟨b1,o1,rfl,hcK⟩:=(hx.below hbl).get hx0
    have e1:bits .xor .u8 (x0.toNat:Int) (c.toNat:Int)=(z.toNat:Int):=by rw[hz];exact bxor x0 c
    have hb1G:b1≠w1.heap.size:=by
     have h1:=World.block_lt_of_cell? w1 ⟨b1,o1+k,none⟩ (by obtain⟨b,o,hh,hcc⟩:=hx.get hx0;cases hh;exact hcc)
     intro h
     rw[h] at h1
     exact Nat.lt_irrefl _ h1
    obtain⟨ho1,_⟩:=ho.stored k (.int .u8 (c.toNat:Int))
    have hs1:(wr.setCell ⟨w1.heap.size,k,none⟩ (.int .u8 (c.toNat:Int))).cell? ⟨w1.heap.size,k,none⟩=some (.int .u8 (c.toNat:Int)):=by
     rw[ho1.cellAt k (by omega),List.getElem?_set_self (by simp[HPl.out];omega)]
    have hs2:(wr.setCell ⟨w1.heap.size,k,none⟩ (.int .u8 (c.toNat:Int))).cell? ⟨b1,o1+k,none⟩=some (.int .u8 (x0.toNat:Int)):=by
     rw[World.cell?_setCell_other _ _ _ _ (by simp)];exact hcK
    have hs3:(wr.setCell ⟨w1.heap.size,k,none⟩ (.int .u8 (c.toNat:Int))).frozen? ⟨w1.heap.size,k,none⟩=false:=ho1.frozenAt k
    obtain⟨ho2,_⟩:=ho1.stored k (.int .u8 (z.toNat:Int))
    rw[List.set_set,set_step _ _ k z hlt HPl.out hzk] at ho2
    have hbl2:=(hbl.setCell (p:=⟨w1.heap.size,k,none⟩) (Nat.le_refl _) (.int .u8 (c.toNat:Int))).setCell (p:=⟨w1.heap.size,k,none⟩) (Nat.le_refl _) (.int .u8 (z.toNat:Int))
    clear ho ho1 hz hzk hx0
    go_wp2
    go_roundw
    case rel=>exact⟨k+1,by omega,by go_num,ho2,hbl2⟩
    case measure=>simp[intOf];omega
   ·rw[List.getElem?_eq_none (by omega)] at hz
    have hzc:z=c:=by rw[hz];simp
    obtain⟨ho1,_⟩:=ho.stored k (.int .u8 (z.toNat:Int))
    rw[set_step _ _ k z hlt HPl.out hzk,hzc] at ho1
    have hbl2:=hbl.setCell (p:=⟨w1.heap.size,k,none⟩) (Nat.le_refl _) (.int .u8 (c.toNat:Int))
    clear ho hz hzk hzc
    go_wp2
    go_roundw
    case rel=>exact⟨k+1,by omega,by go_num,ho1,hbl2⟩
    case measure=>simp[intOf];omega
  ·obtain rfl:k=64:=by omega
   have e:PP.take 64=PP:=by rw[<-HPl.out];exact List.take_length
   rw[e] at ho
   simp only[Nat.sub_self,List.replicate_zero,List.append_nil] at ho
   have hbf:Below w.heap.size w wr:=hb1.trans (hbl.mono hb1.size)
   go_wp2
   go_ret
   exact⟨_,rfl,ho,hbf⟩
theorem rpad_any (w:World)(a:Option Addr)(ca:Nat)(key:List UInt8)(c:UInt8)(ha:Sees w a ca key)(hl:key.length<=1048576):
  Calls Tryz.prog 133 #[.slice a key.length ca,.int .u8 (c.toNat:Int)] w λe w'=>∃ g,e=.returned (.slice (some ⟨g,0,none⟩) 64 64)/\w'.ownsRow w.heap.size 5 1 (.slice (some ⟨g,0,none⟩) 64 64) 64 ((padK key c).map cellOf)/\Below w.heap.size w w':=by
 by_cases h:64<key.length
 ·exact rpad_long w a ca key c ha hl h
 ·exact rpad_short w a ca key c ha hl h
theorem rpad_in (w:World)(a:Option Addr)(ca:Nat)(key:List UInt8)(ha:Sees w a ca key)(hl:key.length<=1048576):
  Calls Tryz.prog 133 #[.slice a key.length ca,.int .u8 54] w λe w'=>∃ g,e=.returned (.slice (some ⟨g,0,none⟩) 64 64)/\w'.ownsRow w.heap.size 5 1 (.slice (some ⟨g,0,none⟩) 64 64) 64 ((inK key).map cellOf)/\Below w.heap.size w w':=rpad_any w a ca key 0x36 ha hl
theorem rpad_out (w:World)(a:Option Addr)(ca:Nat)(key:List UInt8)(ha:Sees w a ca key)(hl:key.length<=1048576):
  Calls Tryz.prog 133 #[.slice a key.length ca,.int .u8 92] w λe w'=>∃ g,e=.returned (.slice (some ⟨g,0,none⟩) 64 64)/\w'.ownsRow w.heap.size 5 1 (.slice (some ⟨g,0,none⟩) 64 64) 64 ((outK key).map cellOf)/\Below w.heap.size w w':=rpad_any w a ca key 0x5C ha hl
theorem hmacL_def (key b:List UInt8):hmacL key b=shaL (outK key++shaL (inK key++b)):=rfl
theorem own_len (l:List UInt8)(h:l.length=64){w:World}{B:Nat}{v:Value}(ho:w.ownsRow B 5 1 v 64 (l.map cellOf)):w.ownsRow B 5 1 v l.length (l.map cellOf):=by rw[h];exact ho
theorem rhof_own (w:World)(a:Option Addr)(ca:Nat)(key:List UInt8)(b:Option Addr)(cb:Nat)(bs:List UInt8)(ha:Sees w a ca key)(hb:Sees w b cb bs)(hk:key.length<=1048576)(hl:bs.length<=1048512):
  Calls Tryz.prog 90 #[.slice a key.length ca,.slice b bs.length cb] w λe w'=>∃ d cd r,Hid (r=hmacL key bs)/\e=.returned (.tuple #[.slice d r.length cd,.int .i64 0])/\Sees w' d cd r/\Below w.heap.size w w'/\w'.ownsRow w.heap.size 5 1 (.slice d r.length cd) r.length (r.map cellOf):=by
 have hin:=rpad_in w a ca key ha hk
 have HA:Hid (Sees w a ca key):=ha
 have HB:Hid (Sees w b cb bs):=hb
 clear ha hb
 go_enter Tryz.func90,Tryz.ntmps90
 go_wp2_with fail
 refine hin.mono ?_
 rintro e w1 ⟨g1,rfl,ho1,hb1⟩
 clear hin
 obtain⟨I,hI⟩:∃ I,I=inK key:=⟨_,rfl⟩
 have hIl:I.length=64:=by rw[hI];exact padK_length key _
 rw[<-hI] at ho1
 obtain⟨v2,w2,hrun2,ho2,hk2⟩:=append_own_any w1 w.heap.size _ I (own_len I hIl ho1) b cb bs (HB.out.below hb1) (by omega) hb1.size
 have hb2:Below w.heap.size w w2:=hk2 _ _ hb1 (Nat.le_refl _)
 obtain⟨X,hX⟩:∃ X,X=I++bs:=⟨_,rfl⟩
 have hXl:X.length=64+bs.length:=by rw[hX,List.length_append,hIl]
 rw[<-hX] at ho2
 obtain⟨x2,c2,rfl,hs2⟩:=Sees.of_own ho2
 have R2:Hid ((Builtin.append_ #[22,22] 22 #[.slice (some ⟨g1,0,none⟩) 64 64,.slice b bs.length cb]).run Tryz.prog w1=.ok (.slice x2 X.length c2) w2):=hrun2
 have hof:=rof_ok w2 x2 c2 X hs2 (by omega)
 clear hXl hIl
 have hX2:X=inK key++bs:=by rw[hX,hI]
 have HX:Hid (X=inK key++bs):=hX2
 clear hX2
 clear hrun2 ho1 ho2 hk2 hI hX hs2
 go_wp2_with (first|(at_builtin;refine wpList_append_run rfl _ _ 22 rfl _ _ _ rfl rfl R2.out ?_)|fail)
 refine hof.mono ?_
 rintro e w3 ⟨x3,c3,D,hD,rfl,hs3,hb3⟩
 clear hof R2
 have hb3w:=hb2.trans (hb3.mono hb2.size)
 have hout:=rpad_out w3 a ca key (HA.out.below hb3w) hk
 go_wp2_with fail
 refine hout.mono ?_
 rintro e w4 ⟨g4,rfl,ho4,hb4⟩
 clear hout
 obtain⟨O,hO⟩:∃ O,O=outK key:=⟨_,rfl⟩
 have hOl:O.length=64:=by rw[hO];exact padK_length key _
 have hDl:D.length=32:=by rw[hD.out];exact shaL_length _
 rw[<-hO] at ho4
 have hb4w:=hb3w.trans (hb4.mono hb3w.size)
 obtain⟨v5,w5,hrun5,ho5,hk5⟩:=append_own_any w4 w3.heap.size _ O (own_len O hOl ho4) x3 c3 D (hs3.below hb4) (by omega) hb4.size
 have hb5:Below w.heap.size w w5:=hk5 _ _ hb4w hb3w.size
 obtain⟨Y,hY⟩:∃ Y,Y=O++D:=⟨_,rfl⟩
 have hYl:Y.length=96:=by rw[hY,List.length_append,hOl,hDl]
 rw[<-hY] at ho5
 obtain⟨x5,c5,rfl,hs5⟩:=Sees.of_own ho5
 have R5:Hid ((Builtin.append_ #[22,22] 22 #[.slice (some ⟨g4,0,none⟩) 64 64,.slice x3 D.length c3]).run Tryz.prog w4=.ok (.slice x5 Y.length c5) w5):=hrun5
 have hof:=rof_own w5 x5 c5 Y hs5 (by omega)
 clear hYl hOl hDl
 have hY2:shaL Y=hmacL key bs:=by rw[hY,hO,hD.out,HX.out,hmacL_def]
 have HY:Hid (shaL Y=hmacL key bs):=hY2
 clear hY2
 clear hrun5 ho4 ho5 hk5 hO hY hs5 hD
 go_wp2_with (first|(at_builtin;refine wpList_append_run rfl _ _ 22 rfl _ _ _ rfl rfl R5.out ?_)|fail)
 refine hof.mono ?_
 rintro e w6 ⟨x6,c6,r,hr,rfl,hs6,hb6,ho6⟩
 have hr6:r=hmacL key bs:=hr.out.trans HY.out
 have HR6:Hid (r=hmacL key bs):=hr6
 clear hof R5 hr6 hr HY
 go_wp2
 go_ret2
 exact⟨x6,c6,r,HR6,rfl,hs6,hb5.trans (hb6.mono hb5.size),ho6.mono hb5.size⟩
def Says (w w':World)(e:Ending)(p:List UInt8×Nat):Prop:=∃ d cd r,Hid (r=p.1)/\e=.returned (.tuple #[.slice d r.length cd,.int .i64 (p.2:Int)])/\Sees w' d cd r/\Below w.heap.size w w'
theorem Says.nothing {w w':World}(k:Nat)(hb:Below w.heap.size w w'):Says w w' (.returned (.tuple #[.slice none 0 0,.int .i64 (k:Int)])) ([],k):=⟨none,0,[],rfl,rfl,Sees.nil' _,hb⟩
def expandP (key info:List UInt8)(n:Int):List UInt8×Nat:=if n<0\/8160<n then ([],1) else if 1000<info.length\/1048576<key.length then ([],2) else (expandL key info n.toNat,0)
theorem Sees.grown' {w w':World}{row:Option Nat}{a:Option Addr}{cap:Nat}{l:List UInt8}(h:Sees w a cap l)(hg:w.grownBy w' row)(hav:∀ b' off,a=some ⟨b',off,none⟩->l≠[]->row≠some b'):Sees w' a cap l:=
 ⟨h.fits, h.room, h.bare, fun hne => by
   obtain ⟨b, off, ha, hc⟩ := h.at' hne
   refine ⟨b, off, ha, fun i x hx => ?_⟩
   have h1 := hc i x hx
   rw [hg.cell_far _ (World.block_lt_of_cell? w _ h1) (Ne.symm (hav b off ha hne)), h1]⟩
theorem rexpand_no (w:World)(a:Option Addr)(ca:Nat)(key:List UInt8)(b:Option Addr)(cb:Nat)(info:List UInt8)(n:Int)(hkm:key.length<=9223372036854775807)(him:info.length<=9223372036854775807)(h:n<0\/8160<n\/1000<info.length\/1048576<key.length):
  Calls Tryz.prog 57 #[.slice a key.length ca,.slice b info.length cb,.int .i64 n] w λe w'=>Says w w' e (expandP key info n):=by
 by_cases h1:n<0
 ·have hE:expandP key info n=([],1):=by unfold expandP;rw[if_pos (.inl h1)]
  rw[hE]
  clear hE h
  go_enter Tryz.func57,Tryz.ntmps57
  go_wp2
  go_ret2
  exact Says.nothing 1 (Below.refl _ _)
 have d1:decide (n<0)=false:=by simp;omega
 by_cases h2:8160<n
 ·have hE:expandP key info n=([],1):=by unfold expandP;rw[if_pos (.inr h2)]
  rw[hE]
  clear hE h
  go_enter Tryz.func57,Tryz.ntmps57
  go_wp2
  go_ret2
  exact Says.nothing 1 (Below.refl _ _)
 have d2:decide (8160<n)=false:=by simp;omega
 by_cases h3:1000<info.length
 ·have hE:expandP key info n=([],2):=by unfold expandP;rw[if_neg (by omega),if_pos (.inl h3)]
  rw[hE]
  clear hE h
  go_enter Tryz.func57,Tryz.ntmps57
  go_wp2
  go_ret2
  exact Says.nothing 2 (Below.refl _ _)
 have d3:decide ((1000:Int)<(info.length:Int))=false:=by simp;omega
 have h4:1048576<key.length:=by omega
 have hE:expandP key info n=([],2):=by unfold expandP;rw[if_neg (by omega),if_pos (.inr h4)]
 rw[hE]
 clear hE h
 go_enter Tryz.func57,Tryz.ntmps57
 go_wp2
 go_ret2
 exact Says.nothing 2 (Below.refl _ _)
theorem rexpand_yes (w:World)(a:Option Addr)(ca:Nat)(key:List UInt8)(b:Option Addr)(cb:Nat)(info:List UInt8)(m:Nat)(ha:Sees w a ca key)(hb:Sees w b cb info)(hm:m<=8160)(hi:info.length<=1000)(hk:key.length<=1048576):
  Calls Tryz.prog 57 #[.slice a key.length ca,.slice b info.length cb,.int .i64 (m:Int)] w λe w'=>∃ d cd r,Hid (r=expandL key info m)/\e=.returned (.tuple #[.slice d m cd,.int .i64 0])/\r.length=m/\Sees w' d cd r/\Below w.heap.size w w':=by
 have HA:Hid (Sees w a ca key):=ha
 have HB:Hid (Sees w b cb info):=hb
 have d1:decide ((m:Int)<0)=false:=by simp
 have d2:decide ((8160:Int)<(m:Int))=false:=by simp;omega
 have d3:decide ((1000:Int)<(info.length:Int))=false:=by simp;omega
 have d4:decide ((1048576:Int)<(key.length:Int))=false:=by simp;omega
 clear ha hb
 go_enter Tryz.func57,Tryz.ntmps57
 go_wp2
 go_loopw [8,9,10,11,12,13] (λv t i x y z wr=>∃ (k:Nat) (td:Option Addr) (tc:Nat) (T:List UInt8),k<=255/\i=.int .i64 ((k+1:Nat):Int)/\wr.ownsRow w.heap.size 5 1 v (32*k) ((catK key info k).map cellOf)/\t=.slice td T.length tc/\Hid (T=tK key info k)/\T.length<=32/\Sees wr td tc T/\Below w.heap.size w wr)
  (λ_ _ i _ _ _ _=>257-(intOf i).toNat)
 case atStart=>exact⟨0,none,0,[],by omega,rfl,World.ownsRow_nil _ _ _ _,rfl,rfl,by simp,Sees.nil' _,Below.refl _ _⟩
 case round=>
  obtain⟨k,td,tc,T,hk255,rfl,own,rfl,HT,hTl,hsT,bel⟩:=hrel
  have hcl:(catK key info k).length=32*k:=catK_length key info k
  obtain⟨C,hC⟩:∃ C,C=catK key info k:=⟨_,rfl⟩
  rw[<-hC] at own hcl
  obtain⟨d,cd,hv,hsC⟩:=Sees.of_own own
  rw[hcl] at hv
  subst hv
  by_cases hlt:32*k<m
  ·have hb0:Below wr.heap.size wr (wr.alloc (.cells #[] 5)):=(Below.refl _ _).alloc (Nat.le_refl _) _
   obtain⟨v1,w1,hrun1,ho1,hk1⟩:=append_own_any _ wr.heap.size _ [] (own_empty wr) td tc T (hsT.below hb0) (by simp;omega) (by simp)
   rw[List.nil_append] at ho1
   have hb1:Below wr.heap.size wr w1:=hk1 _ _ hb0 (Nat.le_refl _)
   have bel1:=bel.trans (hb1.mono bel.size)
   obtain⟨v2,w2,hrun2,ho2,hk2⟩:=append_own_any w1 wr.heap.size v1 T ho1 b cb info (HB.out.below bel1) (by omega) hb1.size
   have hb2:Below wr.heap.size wr w2:=hk2 _ _ hb1 (Nat.le_refl _)
   obtain⟨x3,hx3⟩:∃ x:UInt8,x=UInt8.ofNat (k+1):=⟨_,rfl⟩
   have ex3:IntKind.u8.wrap ((k:Int)+1)=(x3.toNat:Int):=by
    rw[hx3,UInt8.toNat_ofNat',IntKind.wrap_u8];omega
   have hsx:Sees (w2.alloc (.cells #[.int .u8 (x3.toNat:Int)] 5)) (some ⟨w2.heap.size,0,none⟩) 1 [x3]:=sees_lit w2 [x3] 5 (0,0) (by simp)
   obtain⟨v3,w3,hrun3,ho3,hk3⟩:=append_own_any (w2.alloc (.cells #[.int .u8 (x3.toNat:Int)] 5)) wr.heap.size v2 (T++info) (ho2.alloc _) _ 1 [x3] hsx (by simp;omega) (by have:=hb2.size;simp;omega)
   have hb3:Below wr.heap.size wr w3:=hk3 _ _ (hb2.alloc hb2.size _) (Nat.le_refl _)
   have bel3:=bel.trans (hb3.mono bel.size)
   obtain⟨X,hX⟩:∃ X,X=T++info++[x3]:=⟨_,rfl⟩
   rw[<-hX] at ho3
   obtain⟨xd,xc,rfl,hsX⟩:=Sees.of_own ho3
   have R1:Hid ((Builtin.append_ #[22,22] 22 #[.slice (some ⟨wr.heap.size,0,none⟩) 0 0,.slice td T.length tc]).run Tryz.prog (wr.alloc (.cells #[] 5))=.ok v1 w1):=hrun1
   have R2:Hid ((Builtin.append_ #[22,22] 22 #[v1,.slice b info.length cb]).run Tryz.prog w1=.ok v2 w2):=hrun2
   have R3:Hid ((Builtin.append_ #[22,22] 22 #[v2,.slice (some ⟨w2.heap.size,0,none⟩) 1 1]).run Tryz.prog (w2.alloc (.cells #[.int .u8 (x3.toNat:Int)] 5))=.ok (.slice xd X.length xc) w3):=hrun3
   have hof:=rhof_own w3 a ca key xd xc X (HA.out.below bel3) hsX hk (by rw[hX];simp;omega)
   have hTX:hmacL key X=tK key info (k+1):=by rw[hX,HT.out,hx3];rfl
   have HTX:Hid (hmacL key X=tK key info (k+1)):=hTX
   have own3:w3.ownsRow w.heap.size 5 1 (.slice d (32*k) cd) (32*k) (C.map cellOf):=own_keepB own hb3
   have hlt3:∀ g,(Value.slice d (32*k) cd).ownBlock=some g->g<w3.heap.size:=λg h=>Nat.lt_of_lt_of_le (own.lt _ h).2 hb3.size
   have HCn:Hid (catK key info (k+1)=C++tK key info (k+1)):=by rw[hC];exact rfl
   clear hrun1 hrun2 hrun3 ho1 ho2 ho3 hk1 hk2 hk3 hX hx3 hTX hC hsC hsX hsx own hb0 hb1 hb2 hb3 bel1 HT hsT hTl
   go_wp2_with (at_builtin;first|refine wpList_append_run rfl _ _ 22 rfl _ _ _ rfl rfl R1.out ?_|refine wpList_append_run rfl _ _ 22 rfl _ _ _ rfl rfl R2.out ?_|refine wpList_append_run rfl _ _ 22 rfl _ _ _ rfl rfl R3.out ?_)
   refine hof.mono ?_
   rintro e w4 ⟨d4,c4,D,hD,rfl,hs4,hb4,ho4⟩
   have bel4:=bel3.trans (hb4.mono bel3.size)
   have hDl:D.length=32:=by rw[hD.out];exact hmacL_length _ _
   have own4:=own_keepB own3 hb4
   obtain⟨i5,hi5,hz0,hz1,hz2⟩:=info_parts Tryz.info5
   obtain⟨ad,rfl⟩:∃ ad,d4=some ad:=by obtain⟨b,off,h,_⟩:=hs4.at' (by intro h;rw[h] at hDl;simp at hDl);exact⟨_,h⟩
   obtain⟨v5,w5,hrun5,ho5,hg5,_⟩:=run_append_own (P:=Tryz.prog) w4 w.heap.size 22 22 5 i5 (.int .u8 0) 1 1 Tryz.underlying22 hi5 hz0 hz1 hz2 rfl (by omega) _ (32*k) (C.map cellOf) own4 ad D.length c4 (D.map cellOf) (by simp) (hs4.news ad rfl) (bytes_oneCell D) (by unfold maxLen;omega) (by omega) bel4.size
   have bel5:Below w.heap.size w w5:=bel4.grown hg5 bel4.size (λk hk=>(own4.lt _ hk).1)
   have hs5:Sees w5 (some ad) c4 D:=hs4.grown' hg5 (λb' off hh _ hrow=>by
    have h1:=(ho4.lt b' (by simp[Value.ownBlock] at hh ⊢;rw[hh])).1
    have h2:=hlt3 b' hrow
    omega)
   have R5:Hid ((Builtin.append_ #[22,22] 22 #[.slice d (32*k) cd,.slice (some ad) D.length c4]).run Tryz.prog w4=.ok v5 w5):=hrun5
   have own5:Hid (w5.ownsRow w.heap.size 5 1 v5 (32*(k+1)) ((catK key info (k+1)).map cellOf)):=by
    rw[HCn.out,<-HTX.out,<-hD.out,List.map_append,show 32*(k+1)=32*k+D.length from by omega];exact ho5
   have HD:Hid (D=tK key info (k+1)):=by rw[hD.out,HTX.out];exact rfl
   have HDl:Hid (D.length<=32):=by rw[hDl];exact Nat.le_refl _
   clear hof R1 R2 R3 hrun5 ho5 hg5 ho4 own3 own4 hs4 hlt3 hD hDl HCn HTX
   go_wp2_with (at_builtin;refine wpList_append_run rfl _ _ 22 rfl _ _ _ rfl rfl R5.out ?_)
   go_roundw
   case rel=>exact⟨k+1,some ad,c4,D,by omega,by go_num,own5.out,rfl,HD,HDl.out,hs5,bel5⟩
   case measure=>simp[intOf];omega
  ·have hr:C.take m=expandL key info m:=by rw[hC];exact catK_take key info k m (by omega)
   have HR:Hid (C.take m=expandL key info m):=hr
   have hsm:=hsC.take m
   have hlm:(C.take m).length=m:=by rw[List.length_take,hcl];omega
   have hfit:=hsC.fits
   rw[hcl] at hfit
   by_cases hk0:k=0
   ·obtain rfl:m=0:=by omega
    subst hk0
    clear hr hC hsT hTl HT own hcl hsC
    go_wp2
    go_ret2
    exact⟨d,cd,C.take 0,HR,rfl,hlm,hsm,bel⟩
   ·obtain⟨gb,go,rfl,_⟩:=hsC.at' (by intro h;rw[h] at hcl;simp at hcl;omega)
    have hnc:m<=cd:=by omega
    clear hr hC hsT hTl HT own hsC
    go_wp2
    go_ret2
    exact⟨_,cd,C.take m,HR,rfl,hlm,hsm,bel⟩
theorem rexpand_any (w:World)(a:Option Addr)(ca:Nat)(key:List UInt8)(b:Option Addr)(cb:Nat)(info:List UInt8)(n:Int)(ha:Sees w a ca key)(hb:Sees w b cb info):
  Calls Tryz.prog 57 #[.slice a key.length ca,.slice b info.length cb,.int .i64 n] w λe w'=>Says w w' e (expandP key info n):=by
 have hkm:key.length<=9223372036854775807:=by have:=ha.fits;have:=ha.room;unfold maxLen at this;omega
 have him:info.length<=9223372036854775807:=by have:=hb.fits;have:=hb.room;unfold maxLen at this;omega
 by_cases h:n<0\/8160<n\/1000<info.length\/1048576<key.length
 ·exact rexpand_no w a ca key b cb info n hkm him h
 ·obtain⟨m,rfl⟩:∃ m:Nat,n=m:=⟨n.toNat,by omega⟩
  have hE:expandP key info (m:Int)=(expandL key info m,0):=by unfold expandP;rw[if_neg (by omega),if_neg (by omega)];simp
  rw[hE]
  refine(rexpand_yes w a ca key b cb info m ha hb (by omega) (by omega) (by omega)).mono ?_
  rintro e w' ⟨d,cd,r,hr,rfl,hl,hs,hbl⟩
  exact⟨d,cd,r,hr,by rw[hl];rfl,hs,hbl⟩
theorem rexpand16 (w:World)(a:Option Addr)(ca:Nat)(key:List UInt8)(b:Option Addr)(cb:Nat)(info:List UInt8)(ha:Sees w a ca key)(hb:Sees w b cb info)(hi:info.length<=1000)(hk:key.length<=1000):
  Calls Tryz.prog 57 #[.slice a key.length ca,.slice b info.length cb,.int .i64 16] w λe w'=>Says w w' e (expandL key info 16,0):=by
 have:=rexpand_any w a ca key b cb info 16 ha hb
 have hE:expandP key info 16=(expandL key info 16,0):=by unfold expandP;rw[if_neg (by omega),if_neg (by omega)];simp
 rw[hE] at this
 exact this
theorem at_string (s:List UInt8)(k:Nat)(c:UInt8)(h:s[k]?=some c)(W:World):(Instr.index 9 (.string ⟨s.toArray⟩) (.int .i64 (k:Int))).run Tryz.prog W=.ok (.int .u8 (c.toNat:Int)) W:=by
 have hk:=(List.getElem?_eq_some_iff.1 h).1
 rw[run_index_string W 9 _ .i64 _ Tryz.underlying9,dif_pos ⟨by omega,by simp[ByteArray.size];exact hk⟩]
 have:s[k]=c:=(List.getElem?_eq_some_iff.1 h).2
 rw[<-this]
 simp
 rfl
def okC (c:UInt8):Bool:=decide (97<=c.toNat/\c.toNat<=122)
theorem label_take (s:List UInt8)(k:Nat)(c:UInt8)(h:s[k]?=some c):(s.take (k+1)).all okC=((s.take k).all okC&&okC c):=by
 rw[List.take_add_one,h];simp
theorem label_any (s:List UInt8)(hs:s.length<=9223372036854775807)(w:World):Calls Tryz.prog 55 #[.string ⟨s.toArray⟩] w λe w'=>e=.returned (.bool (labelL s))/\w'=w:=by
 obtain⟨F,hF⟩:∃ F,F=labelL s:=⟨_,rfl⟩
 rw[<-hF]
 have HF:Hid (F=(s.all okC&&decide (1<=s.length/\s.length<=64))):=hF
 clear hF
 go_enter Tryz.func55,Tryz.ntmps55
 go_wp2
 go_loop [3] (λi=>∃ k:Nat,k<=s.length/\i=.int .i64 k/\Hid ((s.take k).all okC=true)) (λi=>s.length-(intOf i).toNat)
 case atStart=>exact⟨0,by omega,rfl,by simp;exact trivial⟩
 case round=>
  obtain⟨k,hk,rfl,hall⟩:=hrel
  by_cases hlt:k<s.length
  ·obtain⟨c,hc⟩:∃ c,s[k]?=some c:=⟨s[k],by simp[hlt]⟩
   have hat:=at_string s k c hc
   have hst:=label_take s k c hc
   by_cases h1:c.toNat<97
   ·have hno:okC c=false:=by unfold okC;simp;omega
    have hFf:F=false:=by
     rw[HF.out]
     have:s.all okC=false:=by
      rw[List.all_eq_false];exact⟨c,List.mem_of_getElem? hc,by simp[hno]⟩
     simp[this]
    have HFF:Hid (F=false):=hFf
    clear hst hno hFf hc hall
    go_wp2
    go_ret
    exact⟨by rw[HFF.out];rfl,rfl⟩
   ·have dd1:decide ((c.toNat:Int)<97)=false:=by simp;omega
    by_cases h2:122<c.toNat
    ·have hno:okC c=false:=by unfold okC;simp;omega
     have hFf:F=false:=by
      rw[HF.out]
      have:s.all okC=false:=by
       rw[List.all_eq_false];exact⟨c,List.mem_of_getElem? hc,by simp[hno]⟩
      simp[this]
     have HFF:Hid (F=false):=hFf
     clear hst hno hFf hc hall
     go_wp2
     go_ret
     exact⟨by rw[HFF.out];rfl,rfl⟩
    ·have dd2:decide ((122:Int)<(c.toNat:Int))=false:=by simp;omega
     have hyes:okC c=true:=by unfold okC;simp;omega
     have HA:Hid ((s.take (k+1)).all okC=true):=by rw[hst,hall.out,hyes];exact rfl
     clear hst hyes hc hall
     go_wp2
     go_round
     case rel=>exact⟨k+1,by omega,by go_num,HA⟩
     case measure=>simp[intOf];omega
  ·obtain rfl:k=s.length:=by omega
   have hFl:F=decide (1<=s.length/\s.length<=64):=by
    rw[HF.out]
    have:=hall.out
    rw[List.take_length] at this
    simp[this]
   have HFL:Hid (F=decide (1<=s.length/\s.length<=64)):=hFl
   clear hFl hall
   by_cases h1:1<=s.length
   ·have e1:F=decide ((s.length:Int)<=64):=by
     have h3:((s.length:Int)<=64)↔s.length<=64:=by omega
     rw[HFL.out];simp[h1,h3]
    have HE:Hid (F=decide ((s.length:Int)<=64)):=e1
    have t1:decide ((1:Int)<=(s.length:Int))=true:=by simp;omega
    clear e1
    go_wp2
    go_ret
    exact⟨by rw[HE.out];rfl,rfl⟩
   ·have e1:F=false:=by rw[HFL.out];simp[h1]
    have HE:Hid (F=false):=e1
    have t1:decide ((1:Int)<=(s.length:Int))=false:=by simp;omega
    clear e1
    go_wp2
    go_ret
    exact⟨by rw[HE.out];rfl,rfl⟩
theorem name_zero (w:World)(name:List UInt8)(hn:name.length<=1000):
  ∃ c w1 d cd w3, (Go.convert 9 22 (.string ⟨name.toArray⟩)).run Tryz.prog w = .ok (.slice (some ⟨w.heap.size, 0, none⟩) name.length c) w1 ∧
    (Builtin.append_ #[22, 22] 22 #[.slice (some ⟨w.heap.size, 0, none⟩) name.length c, .slice (some ⟨w1.heap.size, 0, none⟩) 1 1]).run Tryz.prog (w1.alloc (.cells #[.int .u8 0] 5)) = .ok (.slice d (name.length + 1) cd) w3 ∧
    Sees w3 d cd (name ++ [0]) ∧ Below w.heap.size w w3 := by
 obtain⟨i5,hi,hz0,hz1,hz2⟩:=info_parts Tryz.info5
 have hcv:=Lib.run_convert_string_bytes (P:=Tryz.prog) w 9 22 5 (⟨name.toArray⟩:ByteArray) Tryz.underlying9 Tryz.underlying22 Tryz.underlying5
 have hsz:(⟨name.toArray⟩:ByteArray).size=name.length:=by simp[ByteArray.size]
 rw[hsz] at hcv
 obtain⟨c,hc⟩:∃ c,c=grownCap w name.length 0 5:=⟨_,rfl⟩
 rw[<-hc] at hcv
 have hnc:name.length<=c:=by rw[hc];exact grownCap_ge w name.length 0 5
 have hcm:c<=maxLen:=by rw[hc];exact grownCap_le_maxLen w name.length 0 5 (by unfold maxLen;omega)
 obtain⟨w1,hw1⟩:∃ w1,w1=Lib.bytesWorld w 5 (⟨name.toArray⟩:ByteArray):=⟨_,rfl⟩
 have hs1:w1.heap.size=w.heap.size+1:=by rw[hw1];exact Lib.bytesWorld_size w 5 _
 have hb1:Below w.heap.size w w1:=by
  rw[hw1]
  exact⟨rfl,rfl,rfl,by rw[Lib.bytesWorld_size];omega,λk hk=>Lib.bytesWorld_at_old w 5 _ k hk⟩
 have hnew:=Lib.bytesWorld_at_new w 5 (⟨name.toArray⟩:ByteArray)
 rw[<-hw1] at hcv hnew
 have hcells:(Lib.bytesCells w 5 (⟨name.toArray⟩:ByteArray)).size=c:=by
  simp[Lib.bytesCells,hsz,<-hc];omega
 have hcell:∀ (i:Nat) (x:UInt8),name[i]?=some x->w1.cell? ⟨w.heap.size,i,none⟩=some (.int .u8 (x.toNat:Int)):=λi x hx=>by
  have hi':=(List.getElem?_eq_some_iff.1 hx).1
  rw[hw1,Lib.bytesWorld_cell w 5 _ i (by rw[hsz];exact hi')]
  simp[hx]
 obtain⟨w2,hw2⟩:∃ w2,w2=w1.alloc (.cells #[.int .u8 0] 5):=⟨_,rfl⟩
 have hb2:Below w1.heap.size w1 w2:=by rw[hw2];exact(Below.refl _ _).alloc (Nat.le_refl _) _
 have hnews:∀ j u,([.int .u8 0]:List Value)[j]?=some u->w2.cell? ((⟨w1.heap.size,0,none⟩:Addr).add j)=some u:=by rw[hw2];exact World.news_of_block (heap_alloc_new w1 _)
 have hcell2:∀ (i:Nat) (x:UInt8),name[i]?=some x->w2.cell? ⟨w.heap.size,i,none⟩=some (.int .u8 (x.toNat:Int)):=λi x hx=>by
  rw[hb2.cell (p:=⟨w.heap.size,i,none⟩) (by show w.heap.size<w1.heap.size;omega)];exact hcell i x hx
 have hnew2:w2.heap[w.heap.size]?=some (.cells (Lib.bytesCells w 5 (⟨name.toArray⟩:ByteArray)) 5 ((Lib.bytesCells w 5 (⟨name.toArray⟩:ByteArray)).size,(Lib.bytesCells w 5 (⟨name.toArray⟩:ByteArray)).size+1)):=by
  rw[hb2.block _ (by omega)];exact hnew
 have hbel2:Below w.heap.size w w2:=hb1.trans (hb2.mono hb1.size)
 by_cases hr:name.length+1<=c
 ·have hrun:=run_append_room_cells (P:=Tryz.prog) w2 22 22 5 i5 Tryz.underlying22 hi w.heap.size 0 name.length c ⟨w1.heap.size,0,none⟩ 1 1 [.int .u8 0] (by rw[hz1];rfl) hnews (by simp[Value.oneCell']) hr
   (fun j hj => by
     simp at hj; subst hj
     rw [hz1, cell_of_row _ _ _ _ _ _ hnew2]
     simp [hcells]; omega)
   (fun j hj => by
     simp at hj; subst hj
     rw [hz1]
     simp [World.frozen?, hnew2, hcells]; omega)
  rw[hz1] at hrun
  have hset:w2.setCells w.heap.size (0+name.length*1) [.int .u8 0]=w2.setCell ⟨w.heap.size,name.length,none⟩ (.int .u8 0):=by simp[World.setCells]
  rw[hset] at hrun
  have hlast:(w2.cell? ⟨w.heap.size,name.length,none⟩).isSome=true:=by
   rw[cell_of_row _ _ _ _ _ _ hnew2];simp[hcells];omega
  refine⟨c,w1,_,c,_,hcv,by rw[<-hw2];exact hrun,⟨by simp;omega,hcm,by simp,λ_=>⟨w.heap.size,0,rfl,λi x hx=>?_⟩⟩,hbel2.setCell (p:=⟨w.heap.size,name.length,none⟩) (Nat.le_refl _) _⟩
  rw[Nat.zero_add]
  by_cases hi2:i<name.length
  ·rw[List.getElem?_append_left hi2] at hx
   rw[World.cell?_setCell_other _ _ _ _ (by intro h;simp at h<;>omega)]
   exact hcell2 i x hx
  ·have hie:i=name.length:=by
    have:=(List.getElem?_eq_some_iff.1 hx).1
    simp at this;omega
   subst hie
   rw[List.getElem?_append_right (Nat.le_refl _),Nat.sub_self] at hx
   have hx0:x=0:=by simpa using hx.symm
   rw[hx0,World.cell?_setCell_same' _ _ _ hlast]
   rfl
 ·obtain⟨v,w3,hrun,ho,hg⟩:=run_append_arg_grows (P:=Tryz.prog) w2 22 22 5 i5 (.int .u8 0) 1 1 Tryz.underlying22 hi hz0 hz1 hz2 rfl (by omega) ⟨w.heap.size,0,none⟩ name.length c (name.map cellOf) (by simp)
   (fun j u hu => by
     rw [List.getElem?_map] at hu
     obtain ⟨x, hx, rfl⟩ := Option.map_eq_some_iff.1 hu
     rw [Addr.add_lit, Nat.zero_add]; exact hcell2 j x hx)
   ⟨w1.heap.size,0,none⟩ 1 1 [.int .u8 0] (by simp) hnews (by omega) (by unfold maxLen;omega) (by omega)
  have ho2:w3.ownsRow w2.heap.size 5 1 v (name++[0]).length ((name++[0]).map cellOf):=by simpa [cellOf] using ho
  obtain⟨d,cd,rfl,hs⟩:=Sees.of_own ho2
  exact⟨c,w1,d,cd,w3,hcv,by rw[<-hw2];simpa using hrun,hs,hbel2.grown hg hbel2.size (by intro k h;cases h)⟩
def keyP (from_ name:List UInt8)(l:List Nat):List UInt8×Nat:=if labelL name=false\/16<l.length then ([],1) else if 1000<from_.length then ([],2) else (keyOf from_ name l,0)
theorem labelL_len {s:List UInt8}(h:labelL s=true):s.length<=64:=by unfold labelL at h;simp at h;omega
theorem longs_take (l:List Nat)(k x:Nat)(h:l[k]?=some x):longsL (l.take (k+1))=longsL (l.take k)++w4s [x/4294967296,x%4294967296]:=by
 rw[List.take_add_one,h];exact longsL_snoc _ _
theorem rkey_any (w:World)(a:Option Addr)(ca:Nat)(key:List UInt8)(name:List UInt8)(hnm:name.length<=9223372036854775807)(c:Option Addr)(cc:Nat)(l:List Nat)(ha:Sees w a ca key)(hc:Longs w c cc l):
  Calls Tryz.prog 22 #[.slice a key.length ca,.string ⟨name.toArray⟩,.slice c l.length cc] w λe w'=>Says w w' e (keyP key name l):=by
 have hkm:key.length<=9223372036854775807:=by have:=ha.fits;have:=ha.room;unfold maxLen at this;omega
 have hlm:l.length<=9223372036854775807:=by have:=hc.fits;have:=hc.room;unfold maxLen at this;omega
 have hlab:=label_any name hnm w
 by_cases h1:labelL name=false
 ·have hE:keyP key name l=([],1):=by unfold keyP;rw[if_pos (.inl h1)]
  rw[hE]
  rw[h1] at hlab
  clear hE h1 ha hc
  go_enter Tryz.func22,Tryz.ntmps22
  go_wp2_with fail
  refine hlab.mono ?_
  rintro e w1 ⟨rfl,rfl⟩
  go_wp2
  go_ret2
  exact Says.nothing 1 (Below.refl _ _)
 have h1t:labelL name=true:=by simpa using h1
 rw[h1t] at hlab
 by_cases h2:16<l.length
 ·have hE:keyP key name l=([],1):=by unfold keyP;rw[if_pos (.inr h2)]
  rw[hE]
  clear hE h1 h1t ha hc
  go_enter Tryz.func22,Tryz.ntmps22
  go_wp2_with fail
  refine hlab.mono ?_
  rintro e w1 ⟨rfl,rfl⟩
  go_wp2
  go_ret2
  exact Says.nothing 1 (Below.refl _ _)
 have d2:decide ((16:Int)<(l.length:Int))=false:=by simp;omega
 by_cases h3:1000<key.length
 ·have hE:keyP key name l=([],2):=by unfold keyP;rw[if_neg (by simp[h1t];omega),if_pos h3]
  rw[hE]
  clear hE h1 h1t ha hc
  go_enter Tryz.func22,Tryz.ntmps22
  go_wp2_with fail
  refine hlab.mono ?_
  rintro e w1 ⟨rfl,rfl⟩
  go_wp2
  go_ret2
  exact Says.nothing 2 (Below.refl _ _)
 have d3:decide ((1000:Int)<(key.length:Int))=false:=by simp;omega
 have hE:keyP key name l=(keyOf key name l,0):=by unfold keyP;rw[if_neg (by simp[h1t];omega),if_neg h3]
 have hn64:=labelL_len h1t
 rw[hE]
 obtain⟨c0,w1,d0,cd0,w3,hcv,hrun,hs3,hb3⟩:=name_zero w name (by omega)
 have CV:Hid ((Go.convert 9 22 (.string ⟨name.toArray⟩)).run Tryz.prog w=.ok (.slice (some ⟨w.heap.size,0,none⟩) name.length c0) w1):=hcv
 have RN:Hid ((Builtin.append_ #[22,22] 22 #[.slice (some ⟨w.heap.size,0,none⟩) name.length c0,.slice (some ⟨w1.heap.size,0,none⟩) 1 1]).run Tryz.prog (w1.alloc (.cells #[.int .u8 0] 5))=.ok (.slice d0 (name.length+1) cd0) w3):=hrun
 have HA:Hid (Sees w a ca key):=ha
 have HC:Hid (Longs w c cc l):=hc
 have h16:l.length<=16:=by omega
 have hk1000:key.length<=1000:=by omega
 have cv:=CV.out
 clear hE h1 h1t ha hc hcv hrun h2 h3
 go_enter Tryz.func22,Tryz.ntmps22
 go_wp2_with fail
 refine hlab.mono ?_
 rintro e wq ⟨rfl,hwq⟩
 rw[hwq]
 clear hwq wq hlab
 go_wp2_with (at_builtin;refine wpList_append_run rfl _ _ 22 rfl _ _ _ rfl rfl RN.out ?_)
 clear cv
 go_loopw [8,9] (λv i wr=>∃ (k:Nat) (d:Option Addr) (cd:Nat) (I:List UInt8),k<=l.length/\i=.int .i64 k/\v=.slice d I.length cd/\Hid (I=name++[0]++longsL (l.take k))/\Sees wr d cd I/\Below w.heap.size w wr) (λ_ i _=>l.length-(intOf i).toNat)
 case atStart=>exact⟨0,d0,cd0,name++[0],by omega,rfl,by simp,by simp[longsL];exact trivial,hs3,hb3⟩
 case round=>
  obtain⟨k,d,cd,I,hk,rfl,rfl,hI,hs,bel⟩:=hrel
  clear CV RN hs3 hb3
  have hIl:I.length<=193:=by rw[hI.out];simp[longsL_length];omega
  by_cases hlt:k<l.length
  ·obtain⟨x,hx⟩:∃ x,l[k]?=some x:=⟨l[k],by simp[hlt]⟩
   obtain⟨b1,o1,rfl,hcell⟩:=(HC.out.below bel).get hx
   have hxs:=HC.out.small x (List.mem_of_getElem? hx)
   have hput:=refputlong_any wr d cd I x hs (by omega) hxs
   have hn:=longs_take l k x hx
   have HN:Hid (I++w4s [x/4294967296,x%4294967296]=name++[0]++longsL (l.take (k+1))):=by rw[hn,hI.out,List.append_assoc (name++[0])];exact rfl
   clear hn hx hI hIl
   go_wp2_with fail
   refine hput.mono ?_
   rintro e w5 ⟨d5,c5,r5,hr5,rfl,hs5,hb5⟩
   have HR:Hid (r5=name++[0]++longsL (l.take (k+1))):=by rw[hr5.out];exact HN.out
   have bel5:=bel.trans (hb5.mono bel.size)
   clear hput hr5 HN
   go_wp2
   go_roundw
   case rel=>exact⟨k+1,d5,c5,r5,by omega,by go_num,rfl,HR,hs5,bel5⟩
   case measure=>simp[intOf];omega
  ·obtain rfl:k=l.length:=by omega
   have hIe:I=infoL name l:=by rw[hI.out,List.take_length];rfl
   have hex:=rexpand16 wr a ca key d cd I (HA.out.below bel) hs (by omega) hk1000
   rw[hIe] at hex
   rw[hIe]
   have HK:Hid (expandL key (infoL name l) 16=keyOf key name l):=rfl
   rw[HK.out] at hex
   clear hIe hI hIl
   go_wp2_with fail
   refine hex.mono ?_
   rintro e w5 ⟨d5,c5,r5,hr5,rfl,hs5,hb5⟩
   have bel5:=bel.trans (hb5.mono bel.size)
   clear hex
   go_wp2
   go_ret2
   exact⟨d5,c5,r5,hr5,rfl,hs5,bel5⟩
def nodeP (i:Int):Bool:=decide (0<=i)&&decide (i<8)
def pairN:List UInt8:=[112,97,105,114]
def ownN:List UInt8:=[111,119,110]
def chainN:List UInt8:=[99,104,97,105,110]
def macN:List UInt8:=[109,97,99]
def pairP (key:List UInt8)(i j:Int):List UInt8×Nat:=if nodeP i=true/\nodeP j=true/\i≠j then keyP key pairN [(min i j).toNat,(max i j).toNat] else ([],1)
def stepP (key:List UInt8):List UInt8×Nat:=if key.length=16 then keyP key chainN [] else ([],1)
def macP (key:List UInt8):List UInt8×Nat:=if key.length=16 then keyP key macN [] else ([],1)
theorem Longs.none' (w:World):Longs w none 0 []:=⟨by simp,by simp,by simp,λh=>absurd rfl h⟩
end Go.Proofs.YthogohkieiogiaaGreatDoor
