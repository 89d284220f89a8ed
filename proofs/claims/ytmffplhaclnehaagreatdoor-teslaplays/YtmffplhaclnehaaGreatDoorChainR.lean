/- A helper. -/
import Derived.Test.YtmffplhaclnehaaGreatDoorChainA
namespace Go.Proofs.YtmffplhaclnehaaGreatDoor
set_option maxRecDepth 20000
set_option maxHeartbeats 1600000
open Go.ChangeShapes Go.WideShapes Go.ChangeAt Go.RowKit Go.Shelf
variable {w:World}
attribute [local go_sem] Oper.semAt_some
def o7 (n:Nat)(s:List Loc):List Value:=List.replicate (n+1-s.length) (.slice none 0 0)++(s.map λp=>Value.slice p.1 16 p.2).reverse
theorem Je (n:Nat):o7 n []=List.replicate (n+1) (.slice none 0 0):=by simp[o7]
theorem Mt (n:Nat)(s:List Loc)(p:Loc)(q:Nat)(h:q+s.length=n):(o7 n s).set q (.slice p.1 16 p.2)=o7 n (s++[p]):=by
 unfold o7
 rw[List.length_append,List.length_singleton,show n+1-s.length=q+1 by omega,show n+1-(s.length+1)=q by omega,List.replicate_succ',List.append_assoc,List.set_append_right _ _ (by simp)]
 simp
theorem Qs (n:Nat)(s:List Loc)(q:Nat)(h:q+s.length=n):(o7 n s)[q]?=some (.slice none 0 0):=by
 unfold o7
 rw[List.getElem?_append_left (by simp;omega),List.getElem?_replicate]
 simp;omega
theorem BQ (n:Nat)(s:List Loc):∀ (j:Nat) (y:Int),(o7 n s).toArray[j]?≠some (.int .u8 y):=by
 intro j y h
 rw[List.getElem?_toArray] at h
 have hm:=List.mem_of_getElem? h
 unfold o7 at hm
 simp only[List.mem_append,List.mem_replicate,List.mem_reverse,List.mem_map] at hm
 rcases hm with ⟨_,h⟩|⟨p,_,h⟩<;>cases h
theorem Jf (n:Nat)(s:List Loc)(hs:s.length=n+1)(i:Nat)(hi:i<=n):∃ p,s[n-i]?=some p/\(o7 n s)[i]?=some (.slice p.1 16 p.2):=by
 obtain⟨p,hp⟩:∃ p,s[n-i]?=some p:=⟨s[n-i]'(by omega),by simp⟩
 refine⟨p,hp,?_⟩
 unfold o7
 rw[show n+1-s.length=0 by omega,List.replicate_zero,List.nil_append,List.getElem?_reverse (by simp;omega),List.length_map,show s.length-1-i=n-i by omega,List.getElem?_map,hp]
 rfl
def Full (W:World)(g n:Nat)(key:List UInt8):Prop:=∃ s:List Loc,s.length=n+1/\W.heap[g]?=some (.cells (o7 n s).toArray 24 (0,0))/\Told W key s
theorem BR (n:Nat):(madeCells #[Value.slice none 0 0] n).toList=List.replicate n (.slice none 0 0):=by
 apply List.ext_getElem
 ·simp[madeCells]
 ·intro i h1 h2
  simp[madeCells,Nat.mod_one]
theorem Tryz.Uc:(Tryz.prog.info? 24).map (λi=>(i.zero,i.size,i.bytes))=some (some (.slice none 0 0),1,24):=by kernel_rfl
theorem Mv {base g n N:Nat}(hN:N=n+1)(h:w.ownsRow base 24 1 (.slice (some ⟨g,0,none⟩) N N) N (madeCells #[Value.slice none 0 0] N).toList):w.heap[g]?=some (.cells (o7 n []).toArray 24 (0,0)):=by
 rcases h.2 with ⟨h',_⟩|⟨g',cap',cur,h',_,hg,_,_,hcs,htake⟩
 ·simp at h'
 ·simp only[Value.slice.injEq,Option.some.injEq,Addr.mk.injEq,and_true,true_and] at h'
  obtain⟨rfl,rfl⟩:=h'
  rw[hg]
  have e1:cur.toList=o7 n []:=by
   rw[BR,List.take_of_length_le (by simp[hcs])] at htake
   rw[htake,Je,hN]
  rw[<-e1]
open Go.ChangeShapes Go.WideShapes Go.ChangeAt Go.RowKit
def fC (key:List UInt8)(n:Int):List UInt8×Nat:=if key.length=16/\0<=n/\n<=256 then (bT n.toNat key,0) else ([],1)
def dx (i:Int)(known:List UInt8)(j:Int)(key:List UInt8):Nat:=
 if 0<=i/\i<=256/\0<=j/\j<=256/\known.length=16/\key.length=16 then (if j<i then 10 else if bT (j-i).toNat key=known then 0 else 11) else 1
theorem Gq {w':World}{d:Option Addr}{cd:Nat}{r:List UInt8}(hr:r.length=16)(hs:ag w' d cd r)(hb:Below w.heap.size w w'):Gr w w' (.returned (.tuple #[.slice d 16 cd,.int .i64 0])) r 0:=⟨d,cd,by rw[hr];rfl,hs,hb⟩
theorem o8 {w':World}(hb:Below w.heap.size w w'):Gr w w' (.returned (.tuple #[.slice none 0 0,.int .i64 1])) [] 1:=⟨none,0,rfl,ag.nil' _,hb⟩
theorem Mw (w:World)(a:Option Addr)(ca:Nat)(key:List UInt8)(n:Int)(hF:fJ w)(hT:bN w)(ha:ag w a ca key):
  Calls Tryz.prog 205 #[.slice a key.length ca,.int .i64 n] w λe w'=>Gr w w' e (fC key n).1 (fC key n).2:=by
 have hkm:key.length<=9223372036854775807:=by have:=ha.fits;have:=ha.room;unfold maxLen at this;omega
 by_cases hg:key.length=16/\0<=n/\n<=256
 ·have hP:fC key n=(bT n.toNat key,0):=by unfold fC;rw[if_pos hg]
  rw[hP]
  obtain⟨h16,h0,h1⟩:=hg
  obtain⟨m,rfl⟩:∃ m:Nat,n=(m:Int):=⟨n.toNat,by omega⟩
  rw[h16,Int.toNat_natCast]
  have k1:=qz w a ca
  have k2:=o6 w (m:Int) h0 h1
  have k3:Calls Tryz.prog 123 #[.int .i64 (m:Int),.slice a 16 ca,.int .i64 0] w _:=BP w a ca key h16 0 m (by omega) (by omega) hF hT ha
  have HL:Hid ((bT m key).length=16):=dW m key h16
  clear hP h0 h1 hF hT ha hkm h16
  go_enter Tryz.func205,Tryz.ntmps205
  go_wp2_with fail
  refine k1.mono ?_
  rintro e w1 ⟨rfl,rfl⟩
  clear k1
  go_wp2_with fail
  refine k2.mono ?_
  rintro e w1 ⟨rfl,rfl⟩
  clear k2
  go_wp2_with fail
  refine k3.mono ?_
  rintro e w3 ⟨d,cd,rfl,hs,hb⟩
  clear k3
  go_wp2
  go_ret2
  exact Gq HL.out hs hb
 ·have hP:fC key n=([],1):=by unfold fC;rw[if_neg hg]
  rw[hP]
  by_cases h16:key.length=16
  ·have k1:=qz w a ca
   have k2:=ry w n (by omega)
   rw[h16]
   clear hP hg hF hT ha hkm h16
   go_enter Tryz.func205,Tryz.ntmps205
   go_wp2_with fail
   refine k1.mono ?_
   rintro e w1 ⟨rfl,rfl⟩
   clear k1
   go_wp2_with fail
   refine k2.mono ?_
   rintro e w1 ⟨rfl,rfl⟩
   clear k2
   go_wp2
   go_ret2
   exact o8 (Below.refl _ _)
  ·have k1:=wC w a key.length ca h16 hkm
   clear hP hg hF hT ha h16
   go_enter Tryz.func205,Tryz.ntmps205
   go_wp2_with fail
   refine k1.mono ?_
   rintro e w1 ⟨rfl,rfl⟩
   clear k1
   go_wp2
   go_ret2
   exact o8 (Below.refl _ _)
theorem Gs (w:World)(i:Int)(a:Option Addr)(ca:Nat)(known:List UInt8)(j:Int)(b:Option Addr)(cb:Nat)(key:List UInt8)(hF:fJ w)(hT:bN w)(ha:ag w a ca known)(hb:ag w b cb key):
  Calls Tryz.prog 73 #[.int .i64 i,.slice a known.length ca,.int .i64 j,.slice b key.length cb] w λe w'=>e=.returned (.int .i64 (dx i known j key:Int))/\Below w.heap.size w w':=by
 have hkm:known.length<=9223372036854775807:=by have:=ha.fits;have:=ha.room;unfold maxLen at this;omega
 have hym:key.length<=9223372036854775807:=by have:=hb.fits;have:=hb.room;unfold maxLen at this;omega
 by_cases hi:0<=i/\i<=256
 ·have k1:=o6 w i hi.1 hi.2
  by_cases hj:0<=j/\j<=256
  ·have k2:=o6 w j hj.1 hj.2
   by_cases ha16:known.length=16
   ·have k3:=qz w a ca
    by_cases uf:key.length=16
    ·have k4:=qz w b cb
     have hP:dx i known j key=(if j<i then 10 else if bT (j-i).toNat key=known then 0 else 11):=by unfold dx;rw[if_pos ⟨hi.1,hi.2,hj.1,hj.2,ha16,uf⟩]
     by_cases hlt:j<i
     ·rw[hP,if_pos hlt,ha16,uf]
      clear hP hi hj ha16 uf hF hT ha hb hkm hym
      go_enter Tryz.func73,Tryz.ntmps73
      go_wp2_with fail
      refine k1.mono ?_
      rintro e w1 ⟨rfl,rfl⟩
      clear k1
      go_wp2_with fail
      refine k2.mono ?_
      rintro e w1 ⟨rfl,rfl⟩
      clear k2
      go_wp2_with fail
      refine k3.mono ?_
      rintro e w1 ⟨rfl,rfl⟩
      clear k3
      go_wp2_with fail
      refine k4.mono ?_
      rintro e w1 ⟨rfl,rfl⟩
      clear k4
      go_wp2
      go_ret
      exact⟨rfl,Below.refl _ _⟩
     ·obtain⟨x,rfl⟩:∃ x:Nat,i=(x:Int):=⟨i.toNat,by omega⟩
      obtain⟨y,rfl⟩:∃ y:Nat,j=(y:Int):=⟨j.toNat,by omega⟩
      have k5:=BP w b cb key uf x y (by omega) (by omega) hF hT hb
      rw[hP,if_neg hlt,show ((y:Int)-(x:Int)).toNat=y-x by omega]
      obtain⟨r,hr⟩:=ai (bT (y-x) key)
      have hrl:r.length=16:=by rw[hr];exact dW _ _ uf
      rw[<-hr] at k5 ⊢
      have HA:Hid (ag w a ca known):=ha
      have Bh:Hid (r.length=16):=hrl
      have Jg:Hid (known.length=16):=ha16
      have d0:decide ((y:Int)<(x:Int))=false:=decide_eq_false hlt
      have d1:decide (y<x)=false:=decide_eq_false (by omega)
      rw[ha16,uf]
      clear hP hi hj ha16 uf hF hT ha hb hkm hym hlt hr hrl
      by_cases Mx:r=known
      ·rw[if_pos Mx]
       go_enter Tryz.func73,Tryz.ntmps73
       go_wp2_with fail
       refine k1.mono ?_
       rintro e w1 ⟨rfl,rfl⟩
       clear k1
       go_wp2_with fail
       refine k2.mono ?_
       rintro e w1 ⟨rfl,rfl⟩
       clear k2
       go_wp2_with fail
       refine k3.mono ?_
       rintro e w1 ⟨rfl,rfl⟩
       clear k3
       go_wp2_with fail
       refine k4.mono ?_
       rintro e w1 ⟨rfl,rfl⟩
       clear k4
       go_wp2_with fail
       refine k5.mono ?_
       rintro e w5 ⟨d5,c5,rfl,hs5,hb5⟩
       have k6:=wD w5 d5 a c5 ca r known hs5 (HA.out.below hb5)
       rw[Bh.out,Jg.out,decide_eq_true Mx] at k6
       clear k5 hs5
       go_wp2_with fail
       refine k6.mono ?_
       rintro e w6 ⟨rfl,rfl⟩
       clear k6
       go_wp2
       go_ret
       exact⟨rfl,hb5⟩
      ·rw[if_neg Mx]
       go_enter Tryz.func73,Tryz.ntmps73
       go_wp2_with fail
       refine k1.mono ?_
       rintro e w1 ⟨rfl,rfl⟩
       clear k1
       go_wp2_with fail
       refine k2.mono ?_
       rintro e w1 ⟨rfl,rfl⟩
       clear k2
       go_wp2_with fail
       refine k3.mono ?_
       rintro e w1 ⟨rfl,rfl⟩
       clear k3
       go_wp2_with fail
       refine k4.mono ?_
       rintro e w1 ⟨rfl,rfl⟩
       clear k4
       go_wp2_with fail
       refine k5.mono ?_
       rintro e w5 ⟨d5,c5,rfl,hs5,hb5⟩
       have k6:=wD w5 d5 a c5 ca r known hs5 (HA.out.below hb5)
       rw[Bh.out,Jg.out,decide_eq_false Mx] at k6
       clear k5 hs5
       go_wp2_with fail
       refine k6.mono ?_
       rintro e w6 ⟨rfl,rfl⟩
       clear k6
       go_wp2
       go_ret
       exact⟨rfl,hb5⟩
    ·have hP:dx i known j key=1:=by unfold dx;rw[if_neg (λh=>uf h.2.2.2.2.2)]
     have k4:=wC w b key.length cb uf hym
     rw[hP,ha16]
     clear hP hi hj ha16 uf hF hT ha hb hkm
     go_enter Tryz.func73,Tryz.ntmps73
     go_wp2_with fail
     refine k1.mono ?_
     rintro e w1 ⟨rfl,rfl⟩
     clear k1
     go_wp2_with fail
     refine k2.mono ?_
     rintro e w1 ⟨rfl,rfl⟩
     clear k2
     go_wp2_with fail
     refine k3.mono ?_
     rintro e w1 ⟨rfl,rfl⟩
     clear k3
     go_wp2_with fail
     refine k4.mono ?_
     rintro e w1 ⟨rfl,rfl⟩
     clear k4
     go_wp2
     go_ret
     exact⟨rfl,Below.refl _ _⟩
   ·have hP:dx i known j key=1:=by unfold dx;rw[if_neg (λh=>ha16 h.2.2.2.2.1)]
    have k3:=wC w a known.length ca ha16 hkm
    rw[hP]
    clear hP hi hj ha16 hF hT ha hb
    go_enter Tryz.func73,Tryz.ntmps73
    go_wp2_with fail
    refine k1.mono ?_
    rintro e w1 ⟨rfl,rfl⟩
    clear k1
    go_wp2_with fail
    refine k2.mono ?_
    rintro e w1 ⟨rfl,rfl⟩
    clear k2
    go_wp2_with fail
    refine k3.mono ?_
    rintro e w1 ⟨rfl,rfl⟩
    clear k3
    go_wp2
    go_ret
    exact⟨rfl,Below.refl _ _⟩
  ·have hP:dx i known j key=1:=by unfold dx;rw[if_neg (λh=>hj ⟨h.2.2.1,h.2.2.2.1⟩)]
   have k2:=ry w j (by omega)
   rw[hP]
   clear hP hi hj hF hT ha hb
   go_enter Tryz.func73,Tryz.ntmps73
   go_wp2_with fail
   refine k1.mono ?_
   rintro e w1 ⟨rfl,rfl⟩
   clear k1
   go_wp2_with fail
   refine k2.mono ?_
   rintro e w1 ⟨rfl,rfl⟩
   clear k2
   go_wp2
   go_ret
   exact⟨rfl,Below.refl _ _⟩
 ·have hP:dx i known j key=1:=by unfold dx;rw[if_neg (λh=>hi ⟨h.1,h.2.1⟩)]
  have k1:=ry w i (by omega)
  rw[hP]
  clear hP hi hF hT ha hb
  go_enter Tryz.func73,Tryz.ntmps73
  go_wp2_with fail
  refine k1.mono ?_
  rintro e w1 ⟨rfl,rfl⟩
  clear k1
  go_wp2
  go_ret
  exact⟨rfl,Below.refl _ _⟩
end Go.Proofs.YtmffplhaclnehaaGreatDoor
namespace Go.Proofs.YtmffplhaclnehaaGreatDoor
set_option maxRecDepth 20000
set_option maxHeartbeats 1600000
open Go.ChangeShapes Go.WideShapes Go.ChangeAt Go.RowKit
theorem yM (w:World)(a:Option Addr)(ca:Nat)(key:List UInt8)(n:Int)(ha:ag w a ca key):
  Calls Tryz.prog 44 #[.slice a key.length ca,.int .i64 n] w λe w'=>Gr w w' e (fC key n).1 (fC key n).2:=by
 have hkm:key.length<=9223372036854775807:=by have:=ha.fits;have:=ha.room;unfold maxLen at this;omega
 by_cases hg:key.length=16/\0<=n/\n<=256
 ·have hP:fC key n=(bT n.toNat key,0):=by unfold fC;rw[if_pos hg]
  rw[hP]
  obtain⟨h16,h0,h1⟩:=hg
  obtain⟨m,rfl⟩:∃ m:Nat,n=(m:Int):=⟨n.toNat,by omega⟩
  rw[Int.toNat_natCast]
  have hb0:Below w.heap.size w (w.alloc (.cells #[] 5)):=(Below.refl _ _).alloc (Nat.le_refl _) _
  obtain⟨v1,w1,gG,ho1,hk1⟩:=aP _ w.heap.size _ [] (ji w) a ca key (ha.below hb0) (by simp;omega) (by simp)
  have hb1:=hk1 _ _ hb0 (Nat.le_refl _)
  rw[List.nil_append] at ho1
  obtain⟨d1,c1,rfl,hs1⟩:=ag.bA ho1
  rw[h16] at gG ⊢
  have HR1:Hid ((Builtin.append_ #[24,24] 24 #[.slice (some ⟨w.heap.size,0,none⟩) ([]:List UInt8).length 0,.slice a 16 ca]).run Tryz.prog (w.alloc (.cells #[] 5))=.ok (.slice d1 16 c1) w1):=gG
  have Hk:Hid (key.length=16):=h16
  have hm:m<=256:=by omega
  have e1:decide ((m:Int)<0)=false:=decide_eq_false (by omega)
  have e2:decide ((256:Int)<(m:Int))=false:=decide_eq_false (by omega)
  have HL:Hid ((bT m key).length=16):=dW m key h16
  clear hP h0 h1 ha h16 hkm gG ho1 hk1 hb0
  go_enter Tryz.func44,Tryz.ntmps44
  go_wp2_with (at_builtin;refine wpList_append_run rfl _ _ 24 rfl _ _ _ rfl rfl HR1.out ?_)
  go_loopw [6,7,8,9] (λk i _ _ wr=>∃ (d:Option Addr) (c t:Nat),t<=m/\k=.slice d 16 c/\i=.int .i64 (t:Int)/\ag wr d c (bT t key)/\Below w.heap.size w wr) (λ_ i _ _ _=>m-(intOf i).toNat)
  case atStart=>exact⟨d1,c1,0,Nat.zero_le _,rfl,rfl,hs1,hb1⟩
  case round=>
   obtain⟨d,c,t,ht,rfl,rfl,hs,hb⟩:=hrel
   by_cases hlt:t<m
   ·have hst:=Jh wr d c (bT t key) hs
    have hbl:=dW t key Hk.out
    rw[BO _ hbl,hbl] at hst
    clear hs hs1 hb1 hbl
    go_wp2_with fail
    refine hst.mono ?_
    rintro e w5 ⟨d5,c5,r5,kz,rfl,hs5,hb5⟩
    have hr:r5=bT (t+1) key:=kz.out
    have hrl:r5.length=16:=by rw[hr];exact dW _ _ Hk.out
    rw[hr] at hs5
    rw[hrl]
    have hbw:=hb.trans (hb5.mono hb.size)
    clear hst kz hb5 hb hr hrl
    go_wp2
    go_roundw
    case rel=>exact⟨d5,c5,t+1,hlt,rfl,by go_num,hs5,hbw⟩
    case measure=>simp[intOf];omega
   ·obtain rfl:t=m:=by omega
    clear hs1 hb1 ht
    go_wp2
    go_ret2
    exact Gq HL.out hs hb
 ·have hP:fC key n=([],1):=by unfold fC;rw[if_neg hg]
  rw[hP]
  by_cases h16:key.length=16
  ·rw[h16]
   by_cases h0:n<0
   ·clear hP hg ha h16 hkm
    go_enter Tryz.func44,Tryz.ntmps44
    go_wp2
    go_ret2
    exact o8 (Below.refl _ _)
   ·have d1:decide (n<0)=false:=decide_eq_false h0
    have d2:256<n:=by omega
    clear hP hg ha h16 hkm h0
    go_enter Tryz.func44,Tryz.ntmps44
    go_wp2
    go_ret2
    exact o8 (Below.refl _ _)
  ·have dd:((key.length:Int) != 16)=true:=by simp;omega
   clear hP hg ha h16
   go_enter Tryz.func44,Tryz.ntmps44
   go_wp2
   go_ret2
   exact o8 (Below.refl _ _)
theorem wE (w:World)(i:Int)(a:Option Addr)(ca:Nat)(known:List UInt8)(j:Int)(b:Option Addr)(cb:Nat)(key:List UInt8)(ha:ag w a ca known)(hb:ag w b cb key):
  Calls Tryz.prog 37 #[.int .i64 i,.slice a known.length ca,.int .i64 j,.slice b key.length cb] w λe w'=>e=.returned (.int .i64 (dx i known j key:Int))/\Below w.heap.size w w':=by
 have hkm:known.length<=9223372036854775807:=by have:=ha.fits;have:=ha.room;unfold maxLen at this;omega
 have hym:key.length<=9223372036854775807:=by have:=hb.fits;have:=hb.room;unfold maxLen at this;omega
 by_cases hg:0<=i/\i<=256/\0<=j/\j<=256/\known.length=16/\key.length=16
 ·have hP:dx i known j key=(if j<i then 10 else if bT (j-i).toNat key=known then 0 else 11):=by unfold dx;rw[if_pos hg]
  obtain⟨h0,h1,h2,h3,h4,h5⟩:=hg
  have d1:decide (i<0)=false:=decide_eq_false (by omega)
  have d2:decide (256<i)=false:=decide_eq_false (by omega)
  have d3:decide (j<0)=false:=decide_eq_false (by omega)
  have d4:decide (256<j)=false:=decide_eq_false (by omega)
  by_cases hlt:j<i
  ·rw[hP,if_pos hlt,h4,h5]
   clear hP h0 h1 h2 h3 h4 h5 ha hb hkm hym
   go_enter Tryz.func37,Tryz.ntmps37
   go_wp2
   go_ret
   exact⟨rfl,Below.refl _ _⟩
  ·obtain⟨x,rfl⟩:∃ x:Nat,i=(x:Int):=⟨i.toNat,by omega⟩
   obtain⟨y,rfl⟩:∃ y:Nat,j=(y:Int):=⟨j.toNat,by omega⟩
   have k5:=yM w b cb key (((y-x:Nat):Int)) hb
   have hBP:fC key ((y-x:Nat):Int)=(bT (y-x) key,0):=by unfold fC;rw[if_pos ⟨h5,by omega,by omega⟩,Int.toNat_natCast]
   rw[hBP] at k5
   obtain⟨z,hz⟩:=ai (y-x)
   have hz1:(y:Int)-(x:Int)=(z:Int):=by omega
   rw[hP,if_neg hlt,show ((y:Int)-(x:Int)).toNat=y-x by omega]
   obtain⟨r,hr⟩:=ai (bT (y-x) key)
   have hrl:r.length=16:=by rw[hr];exact dW _ _ h5
   rw[<-hr] at k5 ⊢
   rw[<-hz] at k5
   have HA:Hid (ag w a ca known):=ha
   have Bh:Hid (r.length=16):=hrl
   have Jg:Hid (known.length=16):=h4
   have d0:decide ((y:Int)<(x:Int))=false:=decide_eq_false hlt
   have d5:decide (y<x)=false:=decide_eq_false (by omega)
   have hzm:z<=256:=by omega
   rw[h5] at k5
   rw[h4,h5]
   clear hP h0 h1 h2 h3 h4 h5 ha hb hkm hym hlt hr hrl hBP hz
   by_cases Mx:r=known
   ·rw[if_pos Mx]
    go_enter Tryz.func37,Tryz.ntmps37
    go_wp2_with fail
    refine k5.mono ?_
    rintro e w5 ⟨d6,c6,rfl,hs5,hb5⟩
    have e1:=hs5.convert (P:=Tryz.prog) 24 5 9 Tryz.underlying24 Tryz.underlying5 Tryz.underlying9
    have e2:=(HA.out.below hb5).convert (P:=Tryz.prog) 24 5 9 Tryz.underlying24 Tryz.underlying5 Tryz.underlying9
    rw[Jg.out] at e2
    rw[<-Mx] at e2
    rw[Bh.out] at e1 ⊢
    clear k5 hs5 Mx
    go_wp2
    go_ret
    exact⟨rfl,hb5⟩
   ·rw[if_neg Mx]
    go_enter Tryz.func37,Tryz.ntmps37
    go_wp2_with fail
    refine k5.mono ?_
    rintro e w5 ⟨d6,c6,rfl,hs5,hb5⟩
    have e1:=hs5.convert (P:=Tryz.prog) 24 5 9 Tryz.underlying24 Tryz.underlying5 Tryz.underlying9
    have e2:=(HA.out.below hb5).convert (P:=Tryz.prog) 24 5 9 Tryz.underlying24 Tryz.underlying5 Tryz.underlying9
    rw[Jg.out] at e2
    rw[Bh.out] at e1 ⊢
    have hne:(r==known)=false:=by simpa using Mx
    clear k5 hs5 Mx
    go_wp2
    go_ret
    exact⟨rfl,hb5⟩
 ·have hP:dx i known j key=1:=by unfold dx;rw[if_neg hg]
  rw[hP]
  clear hP
  by_cases h0:i<0
  ·clear hg ha hb
   go_enter Tryz.func37,Tryz.ntmps37
   go_wp2
   go_ret
   exact⟨rfl,Below.refl _ _⟩
  have d1:decide (i<0)=false:=decide_eq_false h0
  by_cases h1:256<i
  ·clear hg ha hb h0
   go_enter Tryz.func37,Tryz.ntmps37
   go_wp2
   go_ret
   exact⟨rfl,Below.refl _ _⟩
  have d2:decide (256<i)=false:=decide_eq_false h1
  by_cases h2:j<0
  ·clear hg ha hb h0 h1
   go_enter Tryz.func37,Tryz.ntmps37
   go_wp2
   go_ret
   exact⟨rfl,Below.refl _ _⟩
  have d3:decide (j<0)=false:=decide_eq_false h2
  by_cases h3:256<j
  ·clear hg ha hb h0 h1 h2
   go_enter Tryz.func37,Tryz.ntmps37
   go_wp2
   go_ret
   exact⟨rfl,Below.refl _ _⟩
  have d4:decide (256<j)=false:=decide_eq_false h3
  by_cases h4:known.length=16
  ·have h5:((key.length:Int) != 16)=true:=by simp;omega
   rw[h4]
   clear hg ha hb h0 h1 h2 h3 h4
   go_enter Tryz.func37,Tryz.ntmps37
   go_wp2
   go_ret
   exact⟨rfl,Below.refl _ _⟩
  ·have h5:((known.length:Int) != 16)=true:=by simp;omega
   clear hg ha hb h0 h1 h2 h3 h4
   go_enter Tryz.func37,Tryz.ntmps37
   go_wp2
   go_ret
   exact⟨rfl,Below.refl _ _⟩
end Go.Proofs.YtmffplhaclnehaaGreatDoor
