/- A helper. -/
import Derived.Test.YtmffplhaclnehaaGreatDoorRefA
import Derived.Lib.ConvBytes
namespace Go.Proofs.YtmffplhaclnehaaGreatDoor
set_option maxRecDepth 20000
set_option maxHeartbeats 3200000
open Go.ChangeShapes Go.WideShapes Go.ChangeAt Go.RowKit
variable {w:World}
theorem J7 (w:World):Calls Tryz.prog 230 #[] w λe w'=>e=.returned (.slice (some ⟨w.heap.size,0,none⟩) 8 8)/\Words w' (some ⟨w.heap.size,0,none⟩) 8 start.list/\Below w.heap.size w w':=by
 have hW:Words (w.alloc (.cells #[.int .u32 0x6a09e667,.int .u32 0xbb67ae85,.int .u32 0x3c6ef372,.int .u32 0xa54ff53a,.int .u32 0x510e527f,.int .u32 0x9b05688c,.int .u32 0x1f83d9ab,.int .u32 0x5be0cd19] 168)) (some ⟨w.heap.size,0,none⟩) 8 start.list:=
  Words.Hg (l:=start.list) (heap_alloc_new w _) (by simp[S8.list]) (S8.lF pM)
 go_enter Tryz.func230,Tryz.ntmps230
 go_wp2
 go_ret
 exact⟨rfl,hW,(Below.refl _ _).alloc (Nat.le_refl _) _⟩
theorem XQ (w:World)(x:Option Addr)(m cx:Nat)(hl:1048576<m):
  Calls Tryz.prog 220 #[.slice x m cx] w λe w'=>e=.returned (.tuple #[.slice none 0 0,.int .i64 2])/\w'=w:=by
 go_enter Tryz.func220,Tryz.ntmps220
 go_wp2
 go_ret2
 exact⟨rfl,rfl⟩
theorem Ht (w:World)(x:Option Addr)(cx:Nat)(bs:List UInt8)(hx:ag w x cx bs)(hl:bs.length<=1048576):
  Calls Tryz.prog 220 #[.slice x bs.length cx] w λe w'=>∃ d cd r,Hid (r=jR bs)/\e=.returned (.tuple #[.slice d r.length cd,.int .i64 0])/\ag w' d cd r/\Below w.heap.size w w'/\w'.ownsRow w.heap.size 5 1 (.slice d r.length cd) r.length (r.map cellOf):=by
 obtain⟨i5,hi,hz0,hz1,hz2⟩:=info_parts Tryz.info5
 have hb0:Below w.heap.size w (w.alloc (.cells #[] 5)):=(Below.refl _ _).alloc (Nat.le_refl _) _
 obtain⟨v1,w1,gG,ho1,hk1⟩:=aP _ w.heap.size _ [] (ji w) x cx bs (hx.below hb0) (by simp;omega) (by simp)
 rw[List.nil_append] at ho1
 have hb1:=hk1 _ _ hb0 (Nat.le_refl _)
 have R1:Hid ((Builtin.append_ #[24,24] 24 #[.slice (some ⟨w.heap.size,0,none⟩) 0 0,.slice x bs.length cx]).run Tryz.prog (w.alloc (.cells #[] 5))=.ok v1 w1):=gG
 have hsx:ag (w1.alloc (.cells #[.int .u8 128] 5)) (some ⟨w1.heap.size,0,none⟩) 1 [0x80]:=
  ⟨by simp, by unfold maxLen; omega, by simp, fun _ => ⟨w1.heap.size, 0, rfl, fun i x hx => by
    rw [cell_of_row _ _ (0 + i) _ _ _ (heap_alloc_new w1 _)]
    have : i = 0 := by have := (List.getElem?_eq_some_iff.1 hx).1; simpa using this
    subst this
    simp at hx
    subst hx
    rfl⟩⟩
 obtain⟨v2,w2,bP,ho2,hk2⟩:=aP (w1.alloc (.cells #[.int .u8 128] 5)) w.heap.size v1 bs (ho1.alloc _) _ 1 [0x80] hsx (by simp;omega) (by have:=hb1.size;simp;omega)
 have hb2:=hk2 _ _ (hb1.alloc hb1.size _) (Nat.le_refl _)
 have R2:Hid ((Builtin.append_ #[24,24] 24 #[v1,.slice (some ⟨w1.heap.size,0,none⟩) 1 1]).run Tryz.prog (w1.alloc (.cells #[.int .u8 128] 5))=.ok v2 w2):=bP
 obtain⟨d,cd,rfl,_⟩:=ag.bA ho2
 have Tn:(bs++[0x80]).length=bs.length+1:=by simp
 rw[Tn] at ho2 R2
 have d1:decide ((1048576:Int)<(bs.length:Int))=false:=by simp;omega
 clear gG bP ho1 hk1 hk2 hsx hb0 hb1 Tn hx
 go_enter Tryz.func220,Tryz.ntmps220
 go_wp2_with (at_builtin;first|refine wpList_append_run rfl _ _ 24 rfl _ _ _ rfl rfl R1.out ?_|refine wpList_append_run rfl _ _ 24 rfl _ _ _ rfl rfl R2.out ?_)
 go_loopw [4] (λv wr=>∃ (j:Nat) (d:Option Addr) (cd:Nat),j<=zs bs.length/\v=.slice d (bs.length+1+j) cd/\wr.ownsRow w.heap.size 5 1 (.slice d (bs.length+1+j) cd) (bs.length+1+j) ((bs++[0x80]++List.replicate j 0).map cellOf)/\Below w.heap.size w wr)
  (λv _=>match v with | .slice _ n _=>bs.length+1+zs bs.length-n|_=>0)
 case atStart=>exact⟨0,d,cd,Nat.zero_le _,rfl,by simpa using ho2,hb2⟩
 case round=>
  obtain⟨j,d,cd,hj,rfl,ho,hbl⟩:=hrel
  clear ho2 hb2 R1 R2
  have hzl:=Tj bs.length
  by_cases hlt:j<zs bs.length
  ·have hm:(((bs.length:Int)+1+(j:Int))%64 != 56)=true:=by
    simp only[bne_iff_ne];unfold zs at hlt;omega
   have hsz:=hbl.size
   obtain⟨v,w3,hrun,ho3,hg,_⟩:=run_append_own (P:=Tryz.prog) (wr.alloc (.cells #[.int .u8 0] 5)) w.heap.size 24 24 5 i5 (.int .u8 0) 1 1 Tryz.underlying24 hi hz0 hz1 hz2 rfl (by omega) _ _ _ (ho.alloc _) ⟨wr.heap.size,0,none⟩ 1 1 [.int .u8 0] (by simp) (World.news_of_block (heap_alloc_new wr _)) (by simp[Value.oneCell']) (by unfold maxLen;omega) (by omega) (by simp;omega)
   have kT:w3.ownsRow w.heap.size 5 1 v (bs.length+1+(j+1)) ((bs++[0x80]++List.replicate (j+1) 0).map cellOf):=by
    rw[List.replicate_succ',<-List.append_assoc,List.map_append];exact ho3
   have hb3:Below w.heap.size w w3:=(hbl.alloc hsz _).grown hg (by simp;omega) (λq h=>(ho.lt _ h).1)
   obtain⟨d2,DD,rfl,_⟩:=ag.bA kT
   have hlen:(bs++[0x80]++List.replicate (j+1) (0:UInt8)).length=bs.length+1+(j+1):=by simp;omega
   rw[hlen] at hrun kT
   have HA:Hid ((Builtin.append_ #[24,24] 24 #[.slice d (bs.length+1+j) cd,.slice (some ⟨wr.heap.size,0,none⟩) 1 1]).run Tryz.prog (wr.alloc (.cells #[.int .u8 0] 5))=.ok (.slice d2 (bs.length+1+(j+1)) DD) w3):=hrun
   clear hrun ho3 hg hlen
   go_wp2_with (at_builtin;refine wpList_append_run rfl _ _ 24 rfl _ _ _ rfl rfl HA.out ?_)
   go_roundw
   case rel=>exact⟨j+1,d2,DD,by omega,rfl,kT,hb3⟩
   case measure=>simp;omega
  ·obtain rfl:j=zs bs.length:=by omega
   obtain⟨d2,DD,hv,hs⟩:=ag.bA ho
   obtain⟨r,hr⟩:=ai (bs++[0x80]++List.replicate (zs bs.length) (0:UInt8))
   rw[<-hr] at hs hv
   have hrl:bs.length+1+zs bs.length=r.length:=by rw[hr];simp;omega
   have Hr:Hid (r=bs++[0x80]++List.replicate (zs bs.length) (0:UInt8)):=hr
   have Bh:Hid (bs.length+1+zs bs.length=r.length):=hrl
   rw[hv]
   have hm2:((r.length:Int)%64 != 56)=false:=by
    simp only[bne_eq_false_iff_eq];rw[<-hrl];unfold zs;omega
   have hput:=pR wr d2 DD r (8*bs.length) hs (by omega) (by omega)
   clear ho hv hr hrl hs
   go_wp2_with fail
   refine(show Calls _ _ _ _ _ from by simpa using hput).mono ?_
   rintro e w4 ⟨d3,Sk,r3,HR3,rfl,hs3,hb3⟩
   have hb4:Below w.heap.size w w4:=hbl.trans (hb3.mono hbl.size)
   have Ro:Hid (r3=pad bs bs.length):=by rw[HR3.out,Hr.out];exact rfl
   have Z4:r3.length%64=0:=by rw[Ro.out];exact AL _ _
   have Z5:r3.length<=1100000:=by rw[Ro.out,rH];omega
   have XR:0<r3.length:=by rw[Ro.out,rH];omega
   have hend:Hid (oK (dF start r3 (r3.length/64)).list=jR bs):=by rw[Ro.out];exact rfl
   obtain⟨rb,ro,rfl,_⟩:=hs3.at' (by intro h;rw[h] at XR;simp at XR)
   have XT:=J7 w4
   clear hput hb3 HR3 Hr Bh hbl hm2
   go_wp2_with fail
   refine XT.mono ?_
   rintro e w5 ⟨rfl,PG,hb5⟩
   have hs5:=hs3.below hb5
   have XU:=hb4.trans (hb5.mono hb4.size)
   have hfit:=hs3.fits
   have hroom:=hs3.room
   unfold maxLen at hroom
   clear XT hs3 hb5 hb4
   go_wp2
   go_loopw [5,6] (λv i wr=>∃ (k:Nat) (dd:Option Addr) (c:Nat),64*k<=r3.length/\i=.int .i64 ((64*k:Nat):Int)/\v=.slice dd 8 c/\Words wr dd c (dF start r3 k).list/\ag wr (some ⟨rb,ro,none⟩) Sk r3/\Below w.heap.size w wr)
    (λ_ i _=>r3.length-(intOf i).toNat)
   case atStart=>exact⟨0,_,8,by omega,rfl,rfl,PG,hs5,XU⟩
   case round=>
    obtain⟨k,dd,c,hk,rfl,rfl,hWr,hsr,Oe⟩:=hrel
    clear PG hs5 XU
    by_cases hlt2:64*k<r3.length
    ·have h64:64*k+64<=r3.length:=by omega
     have hblk:=(hsr.drop (64*k) (by omega)).take 64
     have Tp:((r3.drop (64*k)).take 64).length=64:=by rw[List.length_take,List.length_drop];omega
     have hcall:=Fh wr dd c (dF start r3 k) (nY pM _ _) hWr _ _ _ hblk Tp
     have hnx:Hid (cz (dF start r3 k) ((r3.drop (64*k)).take 64)=dF start r3 (k+1)):=rfl
     have hne:¬ (Sk=64*k):=by omega
     have g1:((64*k:Nat):Int)+64<=(Sk:Int):=by omega
     have Z6:64*k+64-64*k=64:=by omega
     have HSR:Hid (ag wr (some ⟨rb,ro,none⟩) Sk r3):=hsr
     clear hblk Tp hWr hsr
     go_wp2_with fail
     refine hcall.mono ?_
     rintro e w6 ⟨d6,c6,rfl,hW6,hb6⟩
     rw[hnx.out] at hW6
     have hs6:=HSR.out.below hb6
     have Y2:=Oe.trans (hb6.mono Oe.size)
     clear hcall
     go_wp2
     go_roundw
     case rel=>exact⟨k+1,d6,c6,by omega,by go_num,rfl,hW6,hs6,Y2⟩
     case measure=>simp[intOf];omega
    ·have hkk:r3.length/64=k:=by omega
     have hpt:=xE wr none dd 0 c [] (dF start r3 k).list (ag.nil' _) hWr (by simp) (by simp[S8.list])
     have HE:Hid (oK (dF start r3 k).list=jR bs):=by rw[<-hkk];exact hend.out
     clear hWr hsr
     go_wp2_with fail
     refine hpt.mono ?_
     rintro e w7 ⟨d7,c7,r7,rC,rfl,hs7,Og,ho7⟩
     clear hpt
     go_wp2
     go_ret2
     exact⟨d7,c7,r7,by rw[rC.out,List.nil_append];exact HE,rfl,hs7,Oe.trans (Og.mono Oe.size),ho7.mono Oe.size⟩
theorem Oh (w:World)(x:Option Addr)(cx:Nat)(bs:List UInt8)(hx:ag w x cx bs)(hl:bs.length<=1048576):
  Calls Tryz.prog 220 #[.slice x bs.length cx] w λe w'=>∃ d cd r,Hid (r=jR bs)/\e=.returned (.tuple #[.slice d r.length cd,.int .i64 0])/\ag w' d cd r/\Below w.heap.size w w':=
 (Ht w x cx bs hx hl).mono λ_ _ ⟨d,cd,r,h1,h2,h3,h4,_⟩=>⟨d,cd,r,h1,h2,h3,h4⟩
theorem Fj (w:World)(a:Option Addr)(ca:Nat)(key:List UInt8)(c:UInt8)(ha:ag w a ca key)(hl:key.length<=1048576)(h64:¬ 64<key.length):
  Calls Tryz.prog 219 #[.slice a key.length ca,.int .u8 (c.toNat:Int)] w λe w'=>∃ g,e=.returned (.slice (some ⟨g,0,none⟩) 64 64)/\w'.ownsRow w.heap.size 5 1 (.slice (some ⟨g,0,none⟩) 64 64) 64 ((vE key c).map cellOf)/\Below w.heap.size w w':=by
 obtain⟨i5,hi,hz0,hz1,hz2⟩:=info_parts Tryz.info5
 obtain⟨PP,EX⟩:∃ P,P=vE key c:=⟨_,rfl⟩
 have Oi:Hid (PP.length=64):=by rw[EX];exact eF key c
 rw[<-EX]
 have hK:iq key=key:=by unfold iq;rw[if_neg h64]
 obtain⟨K,hKk⟩:=ai key
 have U4:K=iq key:=by rw[hK];exact hKk
 rw[<-hKk] at ha ⊢
 obtain⟨x,rfl⟩:=ai a
 have hb1:Below w.heap.size w w:=Below.refl _ _
 have hx:ag w x ca K:=ha
 have Z7:K.length<=64:=by rw[hKk];omega
 clear ha hKk hK
 have U5:Hid (∀ i,i<64->PP[i]?=some ((K[i]?.getD 0)^^^c)):=λi hi=>by rw[EX,U4];exact GZ key c i hi
 have Y3:K.length<=64:=by rw[U4];exact qD key
 clear EX U4
 go_enter Tryz.func219,Tryz.ntmps219
 go_wp2_with (at_make;refine wpList_make_full _ rfl _ _ 24 rfl w.heap.size 5 i5 (.int .u8 0) 1 Tryz.underlying24 hi hz0 hz1 .i64 .i64 _ _ 64 rfl rfl rfl rfl ?b2 ?b3 ?b4 ?_)
 case b2=>rw[hz2];omega
 case b3=>unfold maxLen;omega
 case b4=>exact hb1.size
 intro w2 hown hgrow
 have hbel:Below w.heap.size w w2:=(Below.refl _ _).grown hgrow (Nat.le_refl _) (by intro k h;cases h)
 have ho0:w2.ownsRow w.heap.size 5 1 (.slice (some ⟨w.heap.size,0,none⟩) 64 64) 64 ((PP.take 0++List.replicate (64-0) 0).map cellOf):=by simpa [jk] using hown
 clear hgrow hown
 go_wp2
 go_loopw [9] (λi wr=>∃ k:Nat,k<=64/\i=.int .i64 k/\wr.ownsRow w.heap.size 5 1 (.slice (some ⟨w.heap.size,0,none⟩) 64 64) 64 ((PP.take k++List.replicate (64-k) 0).map cellOf)/\Below w.heap.size w wr) (λi _=>64-(intOf i).toNat)
 case atStart=>exact⟨0,by omega,rfl,ho0,hbel⟩
 case round=>
  obtain⟨k,hk,rfl,ho,hbl⟩:=hrel
  clear ho0 hbel
  by_cases hlt:k<64
  ·have Oj:=U5.out k hlt
   obtain⟨z,hz⟩:=ai ((K[k]?.getD 0)^^^c)
   rw[<-hz] at Oj
   have hc3:wr.cell? ⟨w.heap.size,k,none⟩=some (.int .u8 0):=by rw[ho.cellAt k (by omega)];exact GM _ _ k hlt Oi.out
   have hf3:wr.frozen? ⟨w.heap.size,k,none⟩=false:=ho.frozenAt k
   by_cases hkK:k<K.length
   ·obtain⟨x0,hx0⟩:∃ x0,K[k]?=some x0:=⟨K[k],by simp[hkK]⟩
    rw[hx0] at hz
    obtain⟨b1,o1,rfl,hcK⟩:=(hx.below hbl).get hx0
    have e1:bits .xor .u8 (x0.toNat:Int) (c.toNat:Int)=(z.toNat:Int):=by rw[hz];exact QU x0 c
    have Y4:b1≠w.heap.size:=by
     have h1:=World.block_lt_of_cell? w ⟨b1,o1+k,none⟩ (by obtain⟨b,o,hh,hcc⟩:=hx.get hx0;cases hh;exact hcc)
     intro h
     rw[h] at h1
     exact Nat.lt_irrefl _ h1
    obtain⟨ho1,_⟩:=ho.stored k (.int .u8 (c.toNat:Int))
    have hs1:(wr.setCell ⟨w.heap.size,k,none⟩ (.int .u8 (c.toNat:Int))).cell? ⟨w.heap.size,k,none⟩=some (.int .u8 (c.toNat:Int)):=by
     rw[ho1.cellAt k (by omega),List.getElem?_set_self (by simp[Oi.out];omega)]
    have hs2:(wr.setCell ⟨w.heap.size,k,none⟩ (.int .u8 (c.toNat:Int))).cell? ⟨b1,o1+k,none⟩=some (.int .u8 (x0.toNat:Int)):=by
     rw[World.cell?_setCell_other _ _ _ _ (by simp)];exact hcK
    have hs3:(wr.setCell ⟨w.heap.size,k,none⟩ (.int .u8 (c.toNat:Int))).frozen? ⟨w.heap.size,k,none⟩=false:=ho1.frozenAt k
    obtain⟨ho2,_⟩:=ho1.stored k (.int .u8 (z.toNat:Int))
    rw[List.set_set,sS _ _ k z hlt Oi.out Oj] at ho2
    have tT:=(hbl.setCell (p:=⟨w.heap.size,k,none⟩) (Nat.le_refl _) (.int .u8 (c.toNat:Int))).setCell (p:=⟨w.heap.size,k,none⟩) (Nat.le_refl _) (.int .u8 (z.toNat:Int))
    clear ho ho1 hz Oj hx0
    go_wp2
    go_roundw
    case rel=>exact⟨k+1,by omega,by go_num,ho2,tT⟩
    case measure=>simp[intOf];omega
   ·rw[List.getElem?_eq_none (by omega)] at hz
    have hzc:z=c:=by rw[hz];simp
    obtain⟨ho1,_⟩:=ho.stored k (.int .u8 (z.toNat:Int))
    rw[sS _ _ k z hlt Oi.out Oj,hzc] at ho1
    have tT:=hbl.setCell (p:=⟨w.heap.size,k,none⟩) (Nat.le_refl _) (.int .u8 (c.toNat:Int))
    clear ho hz Oj hzc
    go_wp2
    go_roundw
    case rel=>exact⟨k+1,by omega,by go_num,ho1,tT⟩
    case measure=>simp[intOf];omega
  ·obtain rfl:k=64:=by omega
   have e:PP.take 64=PP:=by rw[<-Oi.out];exact List.take_length
   rw[e] at ho
   simp only[Nat.sub_self,List.replicate_zero,List.append_nil] at ho
   have hbf:Below w.heap.size w wr:=hb1.trans (hbl.mono hb1.size)
   go_wp2
   go_ret
   exact⟨_,rfl,ho,hbf⟩
theorem J8 (w:World)(a:Option Addr)(ca:Nat)(key:List UInt8)(c:UInt8)(ha:ag w a ca key)(hl:key.length<=1048576)(h64:64<key.length):
  Calls Tryz.prog 219 #[.slice a key.length ca,.int .u8 (c.toNat:Int)] w λe w'=>∃ g,e=.returned (.slice (some ⟨g,0,none⟩) 64 64)/\w'.ownsRow w.heap.size 5 1 (.slice (some ⟨g,0,none⟩) 64 64) 64 ((vE key c).map cellOf)/\Below w.heap.size w w':=by
 obtain⟨i5,hi,hz0,hz1,hz2⟩:=info_parts Tryz.info5
 obtain⟨PP,EX⟩:∃ P,P=vE key c:=⟨_,rfl⟩
 have Oi:Hid (PP.length=64):=by rw[EX];exact eF key c
 rw[<-EX]
 have hK:iq key=jR key:=by unfold iq;rw[if_pos h64]
 have hof:=Oh w a ca key ha hl
 clear ha
 go_enter Tryz.func219,Tryz.ntmps219
 go_wp2_with fail
 refine hof.mono ?_
 rintro e w1 ⟨x,cx,K,hKe,rfl,hx,hb1⟩
 clear hof
 have U4:K=iq key:=by rw[hK];exact hKe.out
 clear hKe hK
 have U5:Hid (∀ i,i<64->PP[i]?=some ((K[i]?.getD 0)^^^c)):=λi hi=>by rw[EX,U4];exact GZ key c i hi
 have Y3:K.length<=64:=by rw[U4];exact qD key
 clear EX U4
 go_wp2_with (at_make;refine wpList_make_full _ rfl _ _ 24 rfl w.heap.size 5 i5 (.int .u8 0) 1 Tryz.underlying24 hi hz0 hz1 .i64 .i64 _ _ 64 rfl rfl rfl rfl ?b2 ?b3 ?b4 ?_)
 case b2=>rw[hz2];omega
 case b3=>unfold maxLen;omega
 case b4=>exact hb1.size
 intro w2 hown hgrow
 have hbel:Below w1.heap.size w1 w2:=(Below.refl _ _).grown hgrow (Nat.le_refl _) (by intro k h;cases h)
 have ho0:w2.ownsRow w.heap.size 5 1 (.slice (some ⟨w1.heap.size,0,none⟩) 64 64) 64 ((PP.take 0++List.replicate (64-0) 0).map cellOf):=by simpa [jk] using hown
 clear hgrow hown
 go_wp2
 go_loopw [9] (λi wr=>∃ k:Nat,k<=64/\i=.int .i64 k/\wr.ownsRow w.heap.size 5 1 (.slice (some ⟨w1.heap.size,0,none⟩) 64 64) 64 ((PP.take k++List.replicate (64-k) 0).map cellOf)/\Below w1.heap.size w1 wr) (λi _=>64-(intOf i).toNat)
 case atStart=>exact⟨0,by omega,rfl,ho0,hbel⟩
 case round=>
  obtain⟨k,hk,rfl,ho,hbl⟩:=hrel
  clear ho0 hbel
  by_cases hlt:k<64
  ·have Oj:=U5.out k hlt
   obtain⟨z,hz⟩:=ai ((K[k]?.getD 0)^^^c)
   rw[<-hz] at Oj
   have hc3:wr.cell? ⟨w1.heap.size,k,none⟩=some (.int .u8 0):=by rw[ho.cellAt k (by omega)];exact GM _ _ k hlt Oi.out
   have hf3:wr.frozen? ⟨w1.heap.size,k,none⟩=false:=ho.frozenAt k
   by_cases hkK:k<K.length
   ·obtain⟨x0,hx0⟩:∃ x0,K[k]?=some x0:=⟨K[k],by simp[hkK]⟩
    rw[hx0] at hz
    obtain⟨b1,o1,rfl,hcK⟩:=(hx.below hbl).get hx0
    have e1:bits .xor .u8 (x0.toNat:Int) (c.toNat:Int)=(z.toNat:Int):=by rw[hz];exact QU x0 c
    have Y4:b1≠w1.heap.size:=by
     have h1:=World.block_lt_of_cell? w1 ⟨b1,o1+k,none⟩ (by obtain⟨b,o,hh,hcc⟩:=hx.get hx0;cases hh;exact hcc)
     intro h
     rw[h] at h1
     exact Nat.lt_irrefl _ h1
    obtain⟨ho1,_⟩:=ho.stored k (.int .u8 (c.toNat:Int))
    have hs1:(wr.setCell ⟨w1.heap.size,k,none⟩ (.int .u8 (c.toNat:Int))).cell? ⟨w1.heap.size,k,none⟩=some (.int .u8 (c.toNat:Int)):=by
     rw[ho1.cellAt k (by omega),List.getElem?_set_self (by simp[Oi.out];omega)]
    have hs2:(wr.setCell ⟨w1.heap.size,k,none⟩ (.int .u8 (c.toNat:Int))).cell? ⟨b1,o1+k,none⟩=some (.int .u8 (x0.toNat:Int)):=by
     rw[World.cell?_setCell_other _ _ _ _ (by simp)];exact hcK
    have hs3:(wr.setCell ⟨w1.heap.size,k,none⟩ (.int .u8 (c.toNat:Int))).frozen? ⟨w1.heap.size,k,none⟩=false:=ho1.frozenAt k
    obtain⟨ho2,_⟩:=ho1.stored k (.int .u8 (z.toNat:Int))
    rw[List.set_set,sS _ _ k z hlt Oi.out Oj] at ho2
    have tT:=(hbl.setCell (p:=⟨w1.heap.size,k,none⟩) (Nat.le_refl _) (.int .u8 (c.toNat:Int))).setCell (p:=⟨w1.heap.size,k,none⟩) (Nat.le_refl _) (.int .u8 (z.toNat:Int))
    clear ho ho1 hz Oj hx0
    go_wp2
    go_roundw
    case rel=>exact⟨k+1,by omega,by go_num,ho2,tT⟩
    case measure=>simp[intOf];omega
   ·rw[List.getElem?_eq_none (by omega)] at hz
    have hzc:z=c:=by rw[hz];simp
    obtain⟨ho1,_⟩:=ho.stored k (.int .u8 (z.toNat:Int))
    rw[sS _ _ k z hlt Oi.out Oj,hzc] at ho1
    have tT:=hbl.setCell (p:=⟨w1.heap.size,k,none⟩) (Nat.le_refl _) (.int .u8 (c.toNat:Int))
    clear ho hz Oj hzc
    go_wp2
    go_roundw
    case rel=>exact⟨k+1,by omega,by go_num,ho1,tT⟩
    case measure=>simp[intOf];omega
  ·obtain rfl:k=64:=by omega
   have e:PP.take 64=PP:=by rw[<-Oi.out];exact List.take_length
   rw[e] at ho
   simp only[Nat.sub_self,List.replicate_zero,List.append_nil] at ho
   have hbf:Below w.heap.size w wr:=hb1.trans (hbl.mono hb1.size)
   go_wp2
   go_ret
   exact⟨_,rfl,ho,hbf⟩
theorem CJ (w:World)(a:Option Addr)(ca:Nat)(key:List UInt8)(c:UInt8)(ha:ag w a ca key)(hl:key.length<=1048576):
  Calls Tryz.prog 219 #[.slice a key.length ca,.int .u8 (c.toNat:Int)] w λe w'=>∃ g,e=.returned (.slice (some ⟨g,0,none⟩) 64 64)/\w'.ownsRow w.heap.size 5 1 (.slice (some ⟨g,0,none⟩) 64 64) 64 ((vE key c).map cellOf)/\Below w.heap.size w w':=by
 by_cases h:64<key.length
 ·exact J8 w a ca key c ha hl h
 ·exact Fj w a ca key c ha hl h
theorem Rp (w:World)(a:Option Addr)(ca:Nat)(key:List UInt8)(ha:ag w a ca key)(hl:key.length<=1048576):
  Calls Tryz.prog 219 #[.slice a key.length ca,.int .u8 54] w λe w'=>∃ g,e=.returned (.slice (some ⟨g,0,none⟩) 64 64)/\w'.ownsRow w.heap.size 5 1 (.slice (some ⟨g,0,none⟩) 64 64) 64 ((tH key).map cellOf)/\Below w.heap.size w w':=CJ w a ca key 0x36 ha hl
theorem Ol (w:World)(a:Option Addr)(ca:Nat)(key:List UInt8)(ha:ag w a ca key)(hl:key.length<=1048576):
  Calls Tryz.prog 219 #[.slice a key.length ca,.int .u8 92] w λe w'=>∃ g,e=.returned (.slice (some ⟨g,0,none⟩) 64 64)/\w'.ownsRow w.heap.size 5 1 (.slice (some ⟨g,0,none⟩) 64 64) 64 ((uu key).map cellOf)/\Below w.heap.size w w':=CJ w a ca key 0x5C ha hl
theorem J9 (key b:List UInt8):gI key b=jR (uu key++jR (tH key++b)):=rfl
theorem Hu (l:List UInt8)(h:l.length=64){B:Nat}{v:Value}(ho:w.ownsRow B 5 1 v 64 (l.map cellOf)):w.ownsRow B 5 1 v l.length (l.map cellOf):=by rw[h];exact ho
theorem CK (w:World)(a:Option Addr)(ca:Nat)(key:List UInt8)(b:Option Addr)(cb:Nat)(bs:List UInt8)(ha:ag w a ca key)(hb:ag w b cb bs)(hk:key.length<=1048576)(hl:bs.length<=1048512):
  Calls Tryz.prog 207 #[.slice a key.length ca,.slice b bs.length cb] w λe w'=>∃ d cd r,Hid (r=gI key bs)/\e=.returned (.tuple #[.slice d r.length cd,.int .i64 0])/\ag w' d cd r/\Below w.heap.size w w'/\w'.ownsRow w.heap.size 5 1 (.slice d r.length cd) r.length (r.map cellOf):=by
 have hin:=Rp w a ca key ha hk
 have HA:Hid (ag w a ca key):=ha
 have HB:Hid (ag w b cb bs):=hb
 clear ha hb
 go_enter Tryz.func207,Tryz.ntmps207
 go_wp2_with fail
 refine hin.mono ?_
 rintro e w1 ⟨g1,rfl,ho1,hb1⟩
 clear hin
 obtain⟨I,hI⟩:=ai (tH key)
 have VC:I.length=64:=by rw[hI];exact eF key _
 rw[<-hI] at ho1
 obtain⟨v2,w2,bP,ho2,hk2⟩:=aP w1 w.heap.size _ I (Hu I VC ho1) b cb bs (HB.out.below hb1) (by omega) hb1.size
 have hb2:Below w.heap.size w w2:=hk2 _ _ hb1 (Nat.le_refl _)
 obtain⟨X,hX⟩:=ai (I++bs)
 have hXl:X.length=64+bs.length:=by rw[hX,List.length_append,VC]
 rw[<-hX] at ho2
 obtain⟨x2,c2,rfl,hs2⟩:=ag.bA ho2
 have R2:Hid ((Builtin.append_ #[24,24] 24 #[.slice (some ⟨g1,0,none⟩) 64 64,.slice b bs.length cb]).run Tryz.prog w1=.ok (.slice x2 X.length c2) w2):=bP
 have hof:=Oh w2 x2 c2 X hs2 (by omega)
 clear hXl VC
 have hX2:X=tH key++bs:=by rw[hX,hI]
 have HX:Hid (X=tH key++bs):=hX2
 clear hX2
 clear bP ho1 ho2 hk2 hI hX hs2
 go_wp2_with (first|(at_builtin;refine wpList_append_run rfl _ _ 24 rfl _ _ _ rfl rfl R2.out ?_)|fail)
 refine hof.mono ?_
 rintro e w3 ⟨x3,c3,D,hD,rfl,hs3,hb3⟩
 clear hof R2
 have vC:=hb2.trans (hb3.mono hb2.size)
 have hout:=Ol w3 a ca key (HA.out.below vC) hk
 go_wp2_with fail
 refine hout.mono ?_
 rintro e w4 ⟨g4,rfl,kT,hb4⟩
 clear hout
 obtain⟨O,hO⟩:=ai (uu key)
 have hOl:O.length=64:=by rw[hO];exact eF key _
 have hDl:D.length=32:=by rw[hD.out];exact lX _
 rw[<-hO] at kT
 have QT:=vC.trans (hb4.mono vC.size)
 obtain⟨v5,w5,uM,qM,hk5⟩:=aP w4 w3.heap.size _ O (Hu O hOl kT) x3 c3 D (hs3.below hb4) (by omega) hb4.size
 have hb5:Below w.heap.size w w5:=hk5 _ _ QT vC.size
 obtain⟨Y,hY⟩:=ai (O++D)
 have hYl:Y.length=96:=by rw[hY,List.length_append,hOl,hDl]
 rw[<-hY] at qM
 obtain⟨x5,c5,rfl,hs5⟩:=ag.bA qM
 have R5:Hid ((Builtin.append_ #[24,24] 24 #[.slice (some ⟨g4,0,none⟩) 64 64,.slice x3 D.length c3]).run Tryz.prog w4=.ok (.slice x5 Y.length c5) w5):=uM
 have hof:=Ht w5 x5 c5 Y hs5 (by omega)
 clear hYl hOl hDl
 have hY2:jR Y=gI key bs:=by rw[hY,hO,hD.out,HX.out,J9]
 have HY:Hid (jR Y=gI key bs):=hY2
 clear hY2
 clear uM kT qM hk5 hO hY hs5 hD
 go_wp2_with (first|(at_builtin;refine wpList_append_run rfl _ _ 24 rfl _ _ _ rfl rfl R5.out ?_)|fail)
 refine hof.mono ?_
 rintro e w6 ⟨x6,c6,r,hr,rfl,hs6,hb6,lQ⟩
 have WS:r=gI key bs:=hr.out.trans HY.out
 have rU:Hid (r=gI key bs):=WS
 clear hof R5 WS hr HY
 go_wp2
 go_ret2
 exact⟨x6,c6,r,rU,rfl,hs6,hb5.trans (hb6.mono hb5.size),lQ.mono hb5.size⟩
theorem Q7 (w:World)(a:Option Addr)(ca:Nat)(key:List UInt8)(b:Option Addr)(cb:Nat)(bs:List UInt8)(ha:ag w a ca key)(hb:ag w b cb bs)(hk:key.length<=1048576)(hl:bs.length<=1048512):
  Calls Tryz.prog 207 #[.slice a key.length ca,.slice b bs.length cb] w λe w'=>∃ d cd r,Hid (r=gI key bs)/\e=.returned (.tuple #[.slice d r.length cd,.int .i64 0])/\ag w' d cd r/\Below w.heap.size w w':=
 (CK w a ca key b cb bs ha hb hk hl).mono λ_ _ ⟨d,cd,r,h1,h2,h3,h4,_⟩=>⟨d,cd,r,h1,h2,h3,h4⟩
def Says (w w':World)(e:Ending)(p:List UInt8×Nat):Prop:=∃ d cd r,Hid (r=p.1)/\e=.returned (.tuple #[.slice d r.length cd,.int .i64 (p.2:Int)])/\ag w' d cd r/\Below w.heap.size w w'
theorem Says.nothing {w':World}(k:Nat)(hb:Below w.heap.size w w'):Says w w' (.returned (.tuple #[.slice none 0 0,.int .i64 (k:Int)])) ([],k):=⟨none,0,[],rfl,rfl,ag.nil' _,hb⟩
def bO (key info:List UInt8)(n:Int):List UInt8×Nat:=if n<0\/8160<n then ([],1) else if 1000<info.length\/1048576<key.length then ([],2) else (eH key info n.toNat,0)
theorem ag.grown' {w':World}{row:Option Nat}{a:Option Addr}{cap:Nat}{l:List UInt8}(h:ag w a cap l)(hg:w.grownBy w' row)(hav:∀ b' off,a=some ⟨b',off,none⟩->l≠[]->row≠some b'):ag w' a cap l:=
 ⟨h.fits, h.room, h.bare, fun hne => by
   obtain ⟨b, off, ha, hc⟩ := h.at' hne
   refine ⟨b, off, ha, fun i x hx => ?_⟩
   have h1 := hc i x hx
   rw [hg.cell_far _ (World.block_lt_of_cell? w _ h1) (Ne.symm (hav b off ha hne)), h1]⟩
theorem Fp (w:World)(a:Option Addr)(ca:Nat)(key:List UInt8)(b:Option Addr)(cb:Nat)(info:List UInt8)(n:Int)(hkm:key.length<=9223372036854775807)(him:info.length<=9223372036854775807)(h:n<0\/8160<n\/1000<info.length\/1048576<key.length):
  Calls Tryz.prog 182 #[.slice a key.length ca,.slice b info.length cb,.int .i64 n] w λe w'=>Says w w' e (bO key info n):=by
 by_cases h1:n<0
 ·have hE:bO key info n=([],1):=by unfold bO;rw[if_pos (.inl h1)]
  rw[hE]
  clear hE h
  go_enter Tryz.func182,Tryz.ntmps182
  go_wp2
  go_ret2
  exact Says.nothing 1 (Below.refl _ _)
 have d1:decide (n<0)=false:=by simp;omega
 by_cases h2:8160<n
 ·have hE:bO key info n=([],1):=by unfold bO;rw[if_pos (.inr h2)]
  rw[hE]
  clear hE h
  go_enter Tryz.func182,Tryz.ntmps182
  go_wp2
  go_ret2
  exact Says.nothing 1 (Below.refl _ _)
 have d2:decide (8160<n)=false:=by simp;omega
 by_cases h3:1000<info.length
 ·have hE:bO key info n=([],2):=by unfold bO;rw[if_neg (by omega),if_pos (.inl h3)]
  rw[hE]
  clear hE h
  go_enter Tryz.func182,Tryz.ntmps182
  go_wp2
  go_ret2
  exact Says.nothing 2 (Below.refl _ _)
 have d3:decide ((1000:Int)<(info.length:Int))=false:=by simp;omega
 have h4:1048576<key.length:=by omega
 have hE:bO key info n=([],2):=by unfold bO;rw[if_neg (by omega),if_pos (.inr h4)]
 rw[hE]
 clear hE h
 go_enter Tryz.func182,Tryz.ntmps182
 go_wp2
 go_ret2
 exact Says.nothing 2 (Below.refl _ _)
theorem CL (w:World)(a:Option Addr)(ca:Nat)(key:List UInt8)(b:Option Addr)(cb:Nat)(info:List UInt8)(m:Nat)(ha:ag w a ca key)(hb:ag w b cb info)(hm:m<=8160)(hi:info.length<=1000)(hk:key.length<=1048576):
  Calls Tryz.prog 182 #[.slice a key.length ca,.slice b info.length cb,.int .i64 (m:Int)] w λe w'=>∃ d cd r,Hid (r=eH key info m)/\e=.returned (.tuple #[.slice d m cd,.int .i64 0])/\r.length=m/\ag w' d cd r/\Below w.heap.size w w':=by
 have HA:Hid (ag w a ca key):=ha
 have HB:Hid (ag w b cb info):=hb
 have d1:decide ((m:Int)<0)=false:=by simp
 have d2:decide ((8160:Int)<(m:Int))=false:=by simp;omega
 have d3:decide ((1000:Int)<(info.length:Int))=false:=by simp;omega
 have d4:decide ((1048576:Int)<(key.length:Int))=false:=by simp;omega
 clear ha hb
 go_enter Tryz.func182,Tryz.ntmps182
 go_wp2
 go_loopw [8,9,10,11,12,13] (λv t i x y z wr=>∃ (k:Nat) (td:Option Addr) (tc:Nat) (T:List UInt8),k<=255/\i=.int .i64 ((k+1:Nat):Int)/\wr.ownsRow w.heap.size 5 1 v (32*k) ((j6 key info k).map cellOf)/\t=.slice td T.length tc/\Hid (T=tK key info k)/\T.length<=32/\ag wr td tc T/\Below w.heap.size w wr)
  (λ_ _ i _ _ _ _=>257-(intOf i).toNat)
 case atStart=>exact⟨0,none,0,[],by omega,rfl,World.ownsRow_nil _ _ _ _,rfl,rfl,by simp,ag.nil' _,Below.refl _ _⟩
 case round=>
  obtain⟨k,td,tc,T,ZB,rfl,own,rfl,HT,Pw,Q0,aM⟩:=hrel
  have hcl:(j6 key info k).length=32*k:=jK key info k
  obtain⟨C,hC⟩:=ai (j6 key info k)
  rw[<-hC] at own hcl
  obtain⟨d,cd,hv,GU⟩:=ag.bA own
  rw[hcl] at hv
  subst hv
  by_cases hlt:32*k<m
  ·have hb0:Below wr.heap.size wr (wr.alloc (.cells #[] 5)):=(Below.refl _ _).alloc (Nat.le_refl _) _
   obtain⟨v1,w1,gG,ho1,hk1⟩:=aP _ wr.heap.size _ [] (ji wr) td tc T (Q0.below hb0) (by simp;omega) (by simp)
   rw[List.nil_append] at ho1
   have hb1:Below wr.heap.size wr w1:=hk1 _ _ hb0 (Nat.le_refl _)
   have Om:=aM.trans (hb1.mono aM.size)
   obtain⟨v2,w2,bP,ho2,hk2⟩:=aP w1 wr.heap.size v1 T ho1 b cb info (HB.out.below Om) (by omega) hb1.size
   have hb2:Below wr.heap.size wr w2:=hk2 _ _ hb1 (Nat.le_refl _)
   obtain⟨x3,hx3⟩:∃ x:UInt8,x=UInt8.ofNat (k+1):=⟨_,rfl⟩
   have yh:IntKind.u8.wrap ((k:Int)+1)=(x3.toNat:Int):=by
    rw[hx3,UInt8.toNat_ofNat',IntKind.wrap_u8];omega
   have hsx:ag (w2.alloc (.cells #[.int .u8 (x3.toNat:Int)] 5)) (some ⟨w2.heap.size,0,none⟩) 1 [x3]:=sH w2 [x3] 5 (0,0) (by simp)
   obtain⟨v3,w3,Bp,ho3,hk3⟩:=aP (w2.alloc (.cells #[.int .u8 (x3.toNat:Int)] 5)) wr.heap.size v2 (T++info) (ho2.alloc _) _ 1 [x3] hsx (by simp;omega) (by have:=hb2.size;simp;omega)
   have hb3:Below wr.heap.size wr w3:=hk3 _ _ (hb2.alloc hb2.size _) (Nat.le_refl _)
   have xg:=aM.trans (hb3.mono aM.size)
   obtain⟨X,hX⟩:=ai (T++info++[x3])
   rw[<-hX] at ho3
   obtain⟨xd,xc,rfl,XA⟩:=ag.bA ho3
   have R1:Hid ((Builtin.append_ #[24,24] 24 #[.slice (some ⟨wr.heap.size,0,none⟩) 0 0,.slice td T.length tc]).run Tryz.prog (wr.alloc (.cells #[] 5))=.ok v1 w1):=gG
   have R2:Hid ((Builtin.append_ #[24,24] 24 #[v1,.slice b info.length cb]).run Tryz.prog w1=.ok v2 w2):=bP
   have R3:Hid ((Builtin.append_ #[24,24] 24 #[v2,.slice (some ⟨w2.heap.size,0,none⟩) 1 1]).run Tryz.prog (w2.alloc (.cells #[.int .u8 (x3.toNat:Int)] 5))=.ok (.slice xd X.length xc) w3):=Bp
   have hof:=CK w3 a ca key xd xc X (HA.out.below xg) XA hk (by rw[hX];simp;omega)
   have Xz:gI key X=tK key info (k+1):=by rw[hX,HT.out,hx3];rfl
   have UM:Hid (gI key X=tK key info (k+1)):=Xz
   have NJ:w3.ownsRow w.heap.size 5 1 (.slice d (32*k) cd) (32*k) (C.map cellOf):=gW own hb3
   have hlt3:∀ g,(Value.slice d (32*k) cd).ownBlock=some g->g<w3.heap.size:=λg h=>Nat.lt_of_lt_of_le (own.lt _ h).2 hb3.size
   have Xy:Hid (j6 key info (k+1)=C++tK key info (k+1)):=by rw[hC];exact rfl
   clear gG bP Bp ho1 ho2 ho3 hk1 hk2 hk3 hX hx3 Xz hC GU XA hsx own hb0 hb1 hb2 hb3 Om HT Q0 Pw
   go_wp2_with (at_builtin;first|refine wpList_append_run rfl _ _ 24 rfl _ _ _ rfl rfl R1.out ?_|refine wpList_append_run rfl _ _ 24 rfl _ _ _ rfl rfl R2.out ?_|refine wpList_append_run rfl _ _ 24 rfl _ _ _ rfl rfl R3.out ?_)
   refine hof.mono ?_
   rintro e w4 ⟨d4,c4,D,hD,rfl,hs4,hb4,kT⟩
   have AA:=xg.trans (hb4.mono xg.size)
   have hDl:D.length=32:=by rw[hD.out];exact gZ _ _
   have JN:=gW NJ hb4
   obtain⟨i5,hi5,hz0,hz1,hz2⟩:=info_parts Tryz.info5
   obtain⟨ad,rfl⟩:∃ ad,d4=some ad:=by obtain⟨b,off,h,_⟩:=hs4.at' (by intro h;rw[h] at hDl;simp at hDl);exact⟨_,h⟩
   obtain⟨v5,w5,uM,qM,hg5,_⟩:=run_append_own (P:=Tryz.prog) w4 w.heap.size 24 24 5 i5 (.int .u8 0) 1 1 Tryz.underlying24 hi5 hz0 hz1 hz2 rfl (by omega) _ (32*k) (C.map cellOf) JN ad D.length c4 (D.map cellOf) (by simp) (hs4.news ad rfl) (bu D) (by unfold maxLen;omega) (by omega) AA.size
   have yu:Below w.heap.size w w5:=AA.grown hg5 AA.size (λk hk=>(JN.lt _ hk).1)
   have hs5:ag w5 (some ad) c4 D:=hs4.grown' hg5 (λb' off hh _ hrow=>by
    have h1:=(kT.lt b' (by simp[Value.ownBlock] at hh ⊢;rw[hh])).1
    have h2:=hlt3 b' hrow
    omega)
   have R5:Hid ((Builtin.append_ #[24,24] 24 #[.slice d (32*k) cd,.slice (some ad) D.length c4]).run Tryz.prog w4=.ok v5 w5):=uM
   have NK:Hid (w5.ownsRow w.heap.size 5 1 v5 (32*(k+1)) ((j6 key info (k+1)).map cellOf)):=by
    rw[Xy.out,<-UM.out,<-hD.out,List.map_append,show 32*(k+1)=32*k+D.length from by omega];exact qM
   have HD:Hid (D=tK key info (k+1)):=by rw[hD.out,UM.out];exact rfl
   have HDl:Hid (D.length<=32):=by rw[hDl];exact Nat.le_refl _
   clear hof R1 R2 R3 uM qM hg5 kT NJ JN hs4 hlt3 hD hDl Xy UM
   go_wp2_with (at_builtin;refine wpList_append_run rfl _ _ 24 rfl _ _ _ rfl rfl R5.out ?_)
   go_roundw
   case rel=>exact⟨k+1,some ad,c4,D,by omega,by go_num,NK.out,rfl,HD,HDl.out,hs5,yu⟩
   case measure=>simp[intOf];omega
  ·have hr:C.take m=eH key info m:=by rw[hC];exact zg key info k m (by omega)
   have HR:Hid (C.take m=eH key info m):=hr
   have hsm:=GU.take m
   have hlm:(C.take m).length=m:=by rw[List.length_take,hcl];omega
   have hfit:=GU.fits
   rw[hcl] at hfit
   by_cases hk0:k=0
   ·obtain rfl:m=0:=by omega
    subst hk0
    clear hr hC Q0 Pw HT own hcl GU
    go_wp2
    go_ret2
    exact⟨d,cd,C.take 0,HR,rfl,hlm,hsm,aM⟩
   ·obtain⟨gb,go,rfl,_⟩:=GU.at' (by intro h;rw[h] at hcl;simp at hcl;omega)
    have hnc:m<=cd:=by omega
    clear hr hC Q0 Pw HT own GU
    go_wp2
    go_ret2
    exact⟨_,cd,C.take m,HR,rfl,hlm,hsm,aM⟩
theorem CO (w:World)(a:Option Addr)(ca:Nat)(key:List UInt8)(b:Option Addr)(cb:Nat)(info:List UInt8)(n:Int)(ha:ag w a ca key)(hb:ag w b cb info):
  Calls Tryz.prog 182 #[.slice a key.length ca,.slice b info.length cb,.int .i64 n] w λe w'=>Says w w' e (bO key info n):=by
 have hkm:key.length<=9223372036854775807:=by have:=ha.fits;have:=ha.room;unfold maxLen at this;omega
 have him:info.length<=9223372036854775807:=by have:=hb.fits;have:=hb.room;unfold maxLen at this;omega
 by_cases h:n<0\/8160<n\/1000<info.length\/1048576<key.length
 ·exact Fp w a ca key b cb info n hkm him h
 ·obtain⟨m,rfl⟩:∃ m:Nat,n=m:=⟨n.toNat,by omega⟩
  have hE:bO key info (m:Int)=(eH key info m,0):=by unfold bO;rw[if_neg (by omega),if_neg (by omega)];simp
  rw[hE]
  refine(CL w a ca key b cb info m ha hb (by omega) (by omega) (by omega)).mono ?_
  rintro e w' ⟨d,cd,r,hr,rfl,hl,hs,hbl⟩
  exact⟨d,cd,r,hr,by rw[hl];rfl,hs,hbl⟩
theorem Ka (w:World)(a:Option Addr)(ca:Nat)(key:List UInt8)(b:Option Addr)(cb:Nat)(info:List UInt8)(ha:ag w a ca key)(hb:ag w b cb info)(hi:info.length<=1000)(hk:key.length<=1000):
  Calls Tryz.prog 182 #[.slice a key.length ca,.slice b info.length cb,.int .i64 16] w λe w'=>Says w w' e (eH key info 16,0):=by
 have:=CO w a ca key b cb info 16 ha hb
 have hE:bO key info 16=(eH key info 16,0):=by unfold bO;rw[if_neg (by omega),if_neg (by omega)];simp
 rw[hE] at this
 exact this
theorem Kb (s:List UInt8)(k:Nat)(c:UInt8)(h:s[k]?=some c)(W:World):(Instr.index 9 (.string ⟨s.toArray⟩) (.int .i64 (k:Int))).run Tryz.prog W=.ok (.int .u8 (c.toNat:Int)) W:=by
 have hk:=(List.getElem?_eq_some_iff.1 h).1
 rw[run_index_string W 9 _ .i64 _ Tryz.underlying9,dif_pos ⟨by omega,by simp[ByteArray.size];exact hk⟩]
 have:s[k]=c:=(List.getElem?_eq_some_iff.1 h).2
 rw[<-this]
 simp
 rfl
def xk (c:UInt8):Bool:=decide (97<=c.toNat/\c.toNat<=122)
theorem xm (s:List UInt8)(k:Nat)(c:UInt8)(h:s[k]?=some c):(s.take (k+1)).all xk=((s.take k).all xk&&xk c):=by
 rw[List.take_add_one,h];simp
theorem Kc (s:List UInt8)(hs:s.length<=9223372036854775807)(w:World):Calls Tryz.prog 180 #[.string ⟨s.toArray⟩] w λe w'=>e=.returned (.bool (ig s))/\w'=w:=by
 obtain⟨F,hF⟩:=ai (ig s)
 rw[<-hF]
 have HF:Hid (F=(s.all xk&&decide (1<=s.length/\s.length<=64))):=hF
 clear hF
 go_enter Tryz.func180,Tryz.ntmps180
 go_wp2
 go_loop [3] (λi=>∃ k:Nat,k<=s.length/\i=.int .i64 k/\Hid ((s.take k).all xk=true)) (λi=>s.length-(intOf i).toNat)
 case atStart=>exact⟨0,by omega,rfl,by simp;exact trivial⟩
 case round=>
  obtain⟨k,hk,rfl,hall⟩:=hrel
  by_cases hlt:k<s.length
  ·obtain⟨c,hc⟩:∃ c,s[k]?=some c:=⟨s[k],by simp[hlt]⟩
   have hat:=Kb s k c hc
   have hst:=xm s k c hc
   by_cases h1:c.toNat<97
   ·have hno:xk c=false:=by unfold xk;simp;omega
    have hFf:F=false:=by
     rw[HF.out]
     have:s.all xk=false:=by
      rw[List.all_eq_false];exact⟨c,List.mem_of_getElem? hc,by simp[hno]⟩
     simp[this]
    have Dx:Hid (F=false):=hFf
    clear hst hno hFf hc hall
    go_wp2
    go_ret
    exact⟨by rw[Dx.out];rfl,rfl⟩
   ·have dd1:decide ((c.toNat:Int)<97)=false:=by simp;omega
    by_cases h2:122<c.toNat
    ·have hno:xk c=false:=by unfold xk;simp;omega
     have hFf:F=false:=by
      rw[HF.out]
      have:s.all xk=false:=by
       rw[List.all_eq_false];exact⟨c,List.mem_of_getElem? hc,by simp[hno]⟩
      simp[this]
     have Dx:Hid (F=false):=hFf
     clear hst hno hFf hc hall
     go_wp2
     go_ret
     exact⟨by rw[Dx.out];rfl,rfl⟩
    ·have dd2:decide ((122:Int)<(c.toNat:Int))=false:=by simp;omega
     have hyes:xk c=true:=by unfold xk;simp;omega
     have HA:Hid ((s.take (k+1)).all xk=true):=by rw[hst,hall.out,hyes];exact rfl
     clear hst hyes hc hall
     go_wp2
     go_round
     case rel=>exact⟨k+1,by omega,by go_num,HA⟩
     case measure=>simp[intOf];omega
  ·obtain rfl:k=s.length:=by omega
   have hFl:F=decide (1<=s.length/\s.length<=64):=by
    rw[HF.out]
    have:=hall.out
    rw[List.take_length] at this
    simp[this]
   have XV:Hid (F=decide (1<=s.length/\s.length<=64)):=hFl
   clear hFl hall
   by_cases h1:1<=s.length
   ·have e1:F=decide ((s.length:Int)<=64):=by
     have h3:((s.length:Int)<=64)↔s.length<=64:=by omega
     rw[XV.out];simp[h1,h3]
    have HE:Hid (F=decide ((s.length:Int)<=64)):=e1
    have t1:decide ((1:Int)<=(s.length:Int))=true:=by simp;omega
    clear e1
    go_wp2
    go_ret
    exact⟨by rw[HE.out];rfl,rfl⟩
   ·have e1:F=false:=by rw[XV.out];simp[h1]
    have HE:Hid (F=false):=e1
    have t1:decide ((1:Int)<=(s.length:Int))=false:=by simp;omega
    clear e1
    go_wp2
    go_ret
    exact⟨by rw[HE.out];rfl,rfl⟩
theorem Ke (w:World)(name:List UInt8)(hn:name.length<=1000):
  ∃ c w1 d cd w3, (Go.convert 9 24 (.string ⟨name.toArray⟩)).run Tryz.prog w = .ok (.slice (some ⟨w.heap.size, 0, none⟩) name.length c) w1 ∧
    (Builtin.append_ #[24, 24] 24 #[.slice (some ⟨w.heap.size, 0, none⟩) name.length c, .slice (some ⟨w1.heap.size, 0, none⟩) 1 1]).run Tryz.prog (w1.alloc (.cells #[.int .u8 0] 5)) = .ok (.slice d (name.length + 1) cd) w3 ∧
    ag w3 d cd (name ++ [0]) ∧ Below w.heap.size w w3 := by
 obtain⟨i5,hi,hz0,hz1,hz2⟩:=info_parts Tryz.info5
 have hcv:=Lib.run_convert_string_bytes (P:=Tryz.prog) w 9 24 5 (⟨name.toArray⟩:ByteArray) Tryz.underlying9 Tryz.underlying24 Tryz.underlying5
 have hsz:(⟨name.toArray⟩:ByteArray).size=name.length:=by simp[ByteArray.size]
 rw[hsz] at hcv
 obtain⟨c,hc⟩:=ai (grownCap w name.length 0 5)
 rw[<-hc] at hcv
 have hnc:name.length<=c:=by rw[hc];exact grownCap_ge w name.length 0 5
 have hcm:c<=maxLen:=by rw[hc];exact grownCap_le_maxLen w name.length 0 5 (by unfold maxLen;omega)
 obtain⟨w1,hw1⟩:=ai (Lib.bytesWorld w 5 (⟨name.toArray⟩:ByteArray))
 have hs1:w1.heap.size=w.heap.size+1:=by rw[hw1];exact Lib.bytesWorld_size w 5 _
 have hb1:Below w.heap.size w w1:=by
  rw[hw1]
  exact⟨rfl,rfl,rfl,by rw[Lib.bytesWorld_size];omega,λk hk=>Lib.bytesWorld_at_old w 5 _ k hk⟩
 have hnew:=Lib.bytesWorld_at_new w 5 (⟨name.toArray⟩:ByteArray)
 rw[<-hw1] at hcv hnew
 have hcells:(Lib.bytesCells w 5 (⟨name.toArray⟩:ByteArray)).size=c:=by
  simp[Lib.bytesCells,hsz,<-hc];omega
 have hcell:∀ (i:Nat) (x:UInt8),name[i]?=some x->w1.cell? ⟨w.heap.size,i,none⟩=some (.int .u8 (x.toNat:Int)):=λi x hx=>by
  have hi':=(List.getElem?_eq_some_iff.1 hx).1
  rw[hw1,Lib.bytesWorld_cell w 5 _ i (by rw[hsz];exact hi')]
  simp[hx]
 obtain⟨w2,hw2⟩:=ai (w1.alloc (.cells #[.int .u8 0] 5))
 have hb2:Below w1.heap.size w1 w2:=by rw[hw2];exact(Below.refl _ _).alloc (Nat.le_refl _) _
 have hnews:∀ j u,([.int .u8 0]:List Value)[j]?=some u->w2.cell? ((⟨w1.heap.size,0,none⟩:Addr).add j)=some u:=by rw[hw2];exact World.news_of_block (heap_alloc_new w1 _)
 have hcell2:∀ (i:Nat) (x:UInt8),name[i]?=some x->w2.cell? ⟨w.heap.size,i,none⟩=some (.int .u8 (x.toNat:Int)):=λi x hx=>by
  rw[hb2.cell (p:=⟨w.heap.size,i,none⟩) (by show w.heap.size<w1.heap.size;omega)];exact hcell i x hx
 have hnew2:w2.heap[w.heap.size]?=some (.cells (Lib.bytesCells w 5 (⟨name.toArray⟩:ByteArray)) 5 ((Lib.bytesCells w 5 (⟨name.toArray⟩:ByteArray)).size,(Lib.bytesCells w 5 (⟨name.toArray⟩:ByteArray)).size+1)):=by
  rw[hb2.block _ (by omega)];exact hnew
 have lg:Below w.heap.size w w2:=hb1.trans (hb2.mono hb1.size)
 by_cases hr:name.length+1<=c
 ·have hrun:=run_append_room_cells (P:=Tryz.prog) w2 24 24 5 i5 Tryz.underlying24 hi w.heap.size 0 name.length c ⟨w1.heap.size,0,none⟩ 1 1 [.int .u8 0] (by rw[hz1];rfl) hnews (by simp[Value.oneCell']) hr
   (fun j hj => by
     simp at hj; subst hj
     rw [hz1, cell_of_row _ _ _ _ _ _ hnew2]
     simp [hcells]; omega)
   (fun j hj => by
     simp at hj; subst hj
     rw [hz1]
     simp [World.frozen?, hnew2, hcells]; omega)
  rw[hz1] at hrun
  have hset:w2.setCells w.heap.size (0+name.length*1) [.int .u8 0]=w2.setCell ⟨w.heap.size,name.length,none⟩ (.int .u8 0):=by simp[World.setCells]
  rw[hset] at hrun
  have hlast:(w2.cell? ⟨w.heap.size,name.length,none⟩).isSome=true:=by
   rw[cell_of_row _ _ _ _ _ _ hnew2];simp[hcells];omega
  refine⟨c,w1,_,c,_,hcv,by rw[<-hw2];exact hrun,⟨by simp;omega,hcm,by simp,λ_=>⟨w.heap.size,0,rfl,λi x hx=>?_⟩⟩,lg.setCell (p:=⟨w.heap.size,name.length,none⟩) (Nat.le_refl _) _⟩
  rw[Nat.zero_add]
  by_cases hi2:i<name.length
  ·rw[List.getElem?_append_left hi2] at hx
   rw[World.cell?_setCell_other _ _ _ _ (by intro h;simp at h<;>omega)]
   exact hcell2 i x hx
  ·have hie:i=name.length:=by
    have:=(List.getElem?_eq_some_iff.1 hx).1
    simp at this;omega
   subst hie
   rw[List.getElem?_append_right (Nat.le_refl _),Nat.sub_self] at hx
   have hx0:x=0:=by simpa using hx.symm
   rw[hx0,World.cell?_setCell_same' _ _ _ hlast]
   rfl
 ·obtain⟨v,w3,hrun,ho,hg⟩:=run_append_arg_grows (P:=Tryz.prog) w2 24 24 5 i5 (.int .u8 0) 1 1 Tryz.underlying24 hi hz0 hz1 hz2 rfl (by omega) ⟨w.heap.size,0,none⟩ name.length c (name.map cellOf) (by simp)
   (fun j u hu => by
     rw [List.getElem?_map] at hu
     obtain ⟨x, hx, rfl⟩ := Option.map_eq_some_iff.1 hu
     rw [Addr.add_lit, Nat.zero_add]; exact hcell2 j x hx)
   ⟨w1.heap.size,0,none⟩ 1 1 [.int .u8 0] (by simp) hnews (by omega) (by unfold maxLen;omega) (by omega)
  have ho2:w3.ownsRow w2.heap.size 5 1 v (name++[0]).length ((name++[0]).map cellOf):=by simpa [cellOf] using ho
  obtain⟨d,cd,rfl,hs⟩:=ag.bA ho2
  exact⟨c,w1,d,cd,w3,hcv,by rw[<-hw2];simpa using hrun,hs,lg.grown hg lg.size (by intro k h;cases h)⟩
def jQ (from_ name:List UInt8)(l:List Nat):List UInt8×Nat:=if ig name=false\/16<l.length then ([],1) else if 1000<from_.length then ([],2) else (keyOf from_ name l,0)
theorem xu {s:List UInt8}(h:ig s=true):s.length<=64:=by unfold ig at h;simp at h;omega
theorem Fq (l:List Nat)(k x:Nat)(h:l[k]?=some x):iI (l.take (k+1))=iI (l.take k)++oK [x/4294967296,x%4294967296]:=by
 rw[List.take_add_one,h];exact pI _ _
theorem Cw (w:World)(a:Option Addr)(ca:Nat)(key:List UInt8)(name:List UInt8)(hnm:name.length<=9223372036854775807)(c:Option Addr)(cc:Nat)(l:List Nat)(ha:ag w a ca key)(hc:jf w c cc l):
  Calls Tryz.prog 138 #[.slice a key.length ca,.string ⟨name.toArray⟩,.slice c l.length cc] w λe w'=>Says w w' e (jQ key name l):=by
 have hkm:key.length<=9223372036854775807:=by have:=ha.fits;have:=ha.room;unfold maxLen at this;omega
 have hlm:l.length<=9223372036854775807:=by have:=hc.fits;have:=hc.room;unfold maxLen at this;omega
 have hlab:=Kc name hnm w
 by_cases h1:ig name=false
 ·have hE:jQ key name l=([],1):=by unfold jQ;rw[if_pos (.inl h1)]
  rw[hE]
  rw[h1] at hlab
  clear hE h1 ha hc
  go_enter Tryz.func138,Tryz.ntmps138
  go_wp2_with fail
  refine hlab.mono ?_
  rintro e w1 ⟨rfl,rfl⟩
  go_wp2
  go_ret2
  exact Says.nothing 1 (Below.refl _ _)
 have U6:ig name=true:=by simpa using h1
 rw[U6] at hlab
 by_cases h2:16<l.length
 ·have hE:jQ key name l=([],1):=by unfold jQ;rw[if_pos (.inr h2)]
  rw[hE]
  clear hE h1 U6 ha hc
  go_enter Tryz.func138,Tryz.ntmps138
  go_wp2_with fail
  refine hlab.mono ?_
  rintro e w1 ⟨rfl,rfl⟩
  go_wp2
  go_ret2
  exact Says.nothing 1 (Below.refl _ _)
 have d2:decide ((16:Int)<(l.length:Int))=false:=by simp;omega
 by_cases h3:1000<key.length
 ·have hE:jQ key name l=([],2):=by unfold jQ;rw[if_neg (by simp[U6];omega),if_pos h3]
  rw[hE]
  clear hE h1 U6 ha hc
  go_enter Tryz.func138,Tryz.ntmps138
  go_wp2_with fail
  refine hlab.mono ?_
  rintro e w1 ⟨rfl,rfl⟩
  go_wp2
  go_ret2
  exact Says.nothing 2 (Below.refl _ _)
 have d3:decide ((1000:Int)<(key.length:Int))=false:=by simp;omega
 have hE:jQ key name l=(keyOf key name l,0):=by unfold jQ;rw[if_neg (by simp[U6];omega),if_neg h3]
 have Bw:=xu U6
 rw[hE]
 obtain⟨c0,w1,d0,cd0,w3,hcv,hrun,hs3,hb3⟩:=Ke w name (by omega)
 have CV:Hid ((Go.convert 9 24 (.string ⟨name.toArray⟩)).run Tryz.prog w=.ok (.slice (some ⟨w.heap.size,0,none⟩) name.length c0) w1):=hcv
 have RN:Hid ((Builtin.append_ #[24,24] 24 #[.slice (some ⟨w.heap.size,0,none⟩) name.length c0,.slice (some ⟨w1.heap.size,0,none⟩) 1 1]).run Tryz.prog (w1.alloc (.cells #[.int .u8 0] 5))=.ok (.slice d0 (name.length+1) cd0) w3):=hrun
 have HA:Hid (ag w a ca key):=ha
 have HC:Hid (jf w c cc l):=hc
 have h16:l.length<=16:=by omega
 have U7:key.length<=1000:=by omega
 have cv:=CV.out
 clear hE h1 U6 ha hc hcv hrun h2 h3
 go_enter Tryz.func138,Tryz.ntmps138
 go_wp2_with fail
 refine hlab.mono ?_
 rintro e wq ⟨rfl,hwq⟩
 rw[hwq]
 clear hwq wq hlab
 go_wp2_with (at_builtin;refine wpList_append_run rfl _ _ 24 rfl _ _ _ rfl rfl RN.out ?_)
 clear cv
 go_loopw [8,9] (λv i wr=>∃ (k:Nat) (d:Option Addr) (cd:Nat) (I:List UInt8),k<=l.length/\i=.int .i64 k/\v=.slice d I.length cd/\Hid (I=name++[0]++iI (l.take k))/\ag wr d cd I/\Below w.heap.size w wr) (λ_ i _=>l.length-(intOf i).toNat)
 case atStart=>exact⟨0,d0,cd0,name++[0],by omega,rfl,by simp,by simp[iI];exact trivial,hs3,hb3⟩
 case round=>
  obtain⟨k,d,cd,I,hk,rfl,rfl,hI,hs,aM⟩:=hrel
  clear CV RN hs3 hb3
  have VC:I.length<=193:=by rw[hI.out];simp[jD];omega
  by_cases hlt:k<l.length
  ·obtain⟨x,hx⟩:∃ x,l[k]?=some x:=⟨l[k],by simp[hlt]⟩
   obtain⟨b1,o1,rfl,hcell⟩:=(HC.out.below aM).get hx
   have hxs:=HC.out.small x (List.mem_of_getElem? hx)
   have hput:=pR wr d cd I x hs (by omega) hxs
   have hn:=Fq l k x hx
   have HN:Hid (I++oK [x/4294967296,x%4294967296]=name++[0]++iI (l.take (k+1))):=by rw[hn,hI.out,List.append_assoc (name++[0])];exact rfl
   clear hn hx hI VC
   go_wp2_with fail
   refine hput.mono ?_
   rintro e w5 ⟨d5,c5,r5,kz,rfl,hs5,hb5⟩
   have HR:Hid (r5=name++[0]++iI (l.take (k+1))):=by rw[kz.out];exact HN.out
   have yu:=aM.trans (hb5.mono aM.size)
   clear hput kz HN
   go_wp2
   go_roundw
   case rel=>exact⟨k+1,d5,c5,r5,by omega,by go_num,rfl,HR,hs5,yu⟩
   case measure=>simp[intOf];omega
  ·obtain rfl:k=l.length:=by omega
   have hIe:I=jU name l:=by rw[hI.out,List.take_length];rfl
   have hex:=Ka wr a ca key d cd I (HA.out.below aM) hs (by omega) U7
   rw[hIe] at hex
   rw[hIe]
   have HK:Hid (eH key (jU name l) 16=keyOf key name l):=rfl
   rw[HK.out] at hex
   clear hIe hI VC
   go_wp2_with fail
   refine hex.mono ?_
   rintro e w5 ⟨d5,c5,r5,kz,rfl,hs5,hb5⟩
   have yu:=aM.trans (hb5.mono aM.size)
   clear hex
   go_wp2
   go_ret2
   exact⟨d5,c5,r5,kz,rfl,hs5,yu⟩
def Xq:List UInt8:=[112,97,105,114]
def YU:List UInt8:=[111,119,110]
def o5:List UInt8:=[99,104,97,105,110]
def qI:List UInt8:=[109,97,99]
def qL (key:List UInt8):List UInt8×Nat:=if key.length=16 then jQ key o5 [] else ([],1)
def uA (key:List UInt8):List UInt8×Nat:=if key.length=16 then jQ key qI [] else ([],1)
theorem jf.none' (w:World):jf w none 0 []:=⟨by simp,by simp,by simp,λh=>absurd rfl h⟩
theorem CP (w:World)(a:Option Addr)(ca:Nat)(key:List UInt8)(ha:ag w a ca key):Calls Tryz.prog 183 #[.slice a key.length ca] w λe w'=>Says w w' e (uA key):=by
 have hkm:key.length<=9223372036854775807:=by have:=ha.fits;have:=ha.room;unfold maxLen at this;omega
 by_cases h:key.length=16
 ·have hE:uA key=jQ key qI []:=by unfold uA;rw[if_pos h]
  rw[hE]
  have hk:Calls Tryz.prog 138 #[.slice a key.length ca,.string { data:=#[109,97,99] },.slice none 0 0] w _:=Cw w a ca key qI (by simp[qI]) none 0 [] ha (jf.none' w)
  have dd:((key.length:Int) != 16)=false:=by simp;omega
  clear hE h ha
  go_enter Tryz.func183,Tryz.ntmps183
  go_wp2_with fail
  refine hk.mono ?_
  rintro e w5 ⟨d5,c5,r5,kz,rfl,hs5,hb5⟩
  clear hk
  go_wp2
  go_ret2
  exact⟨d5,c5,r5,kz,rfl,hs5,hb5⟩
 ·have hE:uA key=([],1):=by unfold uA;rw[if_neg h]
  rw[hE]
  have dd:((key.length:Int) != 16)=true:=by simp;omega
  clear hE h ha
  go_enter Tryz.func183,Tryz.ntmps183
  go_wp2
  go_ret2
  exact Says.nothing 1 (Below.refl _ _)
end Go.Proofs.YtmffplhaclnehaaGreatDoor
