/-
  The document's chain: the contracts of its Seed, Back, All, Key and Follows.
  The document's Follows.
-/
import Derived.Test.YthogohkieiogiaaGreatDoorChainA
namespace Go.Proofs.YthogohkieiogiaaGreatDoor
set_option maxRecDepth 20000
set_option maxHeartbeats 1600000
open Go.ChangeShapes Go.WideShapes Go.ChangeAt Go.RowKit Go.Shelf
attribute [local go_sem] Oper.semAt_some
def allL (n:Nat)(key:List UInt8):List (List UInt8):=(List.range (n+1)).map λi=>backL (n-i) key
theorem allL_len (n:Nat)(key:List UInt8):(allL n key).length=n+1:=by simp[allL]
theorem allL_get (n:Nat)(key:List UInt8)(i:Nat)(h:i<=n):(allL n key)[i]?=some (backL (n-i) key):=by
 simp[allL,List.getElem?_map,List.getElem?_range (show i<n+1 by omega)]
def rowL (n:Nat)(s:List Loc):List Value:=List.replicate (n+1-s.length) (.slice none 0 0)++(s.map λp=>Value.slice p.1 16 p.2).reverse
theorem rowL_zero (n:Nat):rowL n []=List.replicate (n+1) (.slice none 0 0):=by simp[rowL]
theorem rowL_set (n:Nat)(s:List Loc)(p:Loc)(q:Nat)(h:q+s.length=n):(rowL n s).set q (.slice p.1 16 p.2)=rowL n (s++[p]):=by
 unfold rowL
 rw[List.length_append,List.length_singleton,show n+1-s.length=q+1 by omega,show n+1-(s.length+1)=q by omega,List.replicate_succ',List.append_assoc,List.set_append_right _ _ (by simp)]
 simp
theorem rowL_at (n:Nat)(s:List Loc)(q:Nat)(h:q+s.length=n):(rowL n s)[q]?=some (.slice none 0 0):=by
 unfold rowL
 rw[List.getElem?_append_left (by simp;omega),List.getElem?_replicate]
 simp;omega
theorem rowL_val (n:Nat)(s:List Loc):∀ (j:Nat) (y:Int),(rowL n s).toArray[j]?≠some (.int .u8 y):=by
 intro j y h
 rw[List.getElem?_toArray] at h
 have hm:=List.mem_of_getElem? h
 unfold rowL at hm
 simp only[List.mem_append,List.mem_replicate,List.mem_reverse,List.mem_map] at hm
 rcases hm with ⟨_,h⟩|⟨p,_,h⟩<;>cases h
theorem rowL_full (n:Nat)(s:List Loc)(hs:s.length=n+1)(i:Nat)(hi:i<=n):∃ p,s[n-i]?=some p/\(rowL n s)[i]?=some (.slice p.1 16 p.2):=by
 obtain⟨p,hp⟩:∃ p,s[n-i]?=some p:=⟨s[n-i]'(by omega),by simp⟩
 refine⟨p,hp,?_⟩
 unfold rowL
 rw[show n+1-s.length=0 by omega,List.replicate_zero,List.nil_append,List.getElem?_reverse (by simp;omega),List.length_map,show s.length-1-i=n-i by omega,List.getElem?_map,hp]
 rfl
def Full (W:World)(g n:Nat)(key:List UInt8):Prop:=∃ s:List Loc,s.length=n+1/\W.heap[g]?=some (.cells (rowL n s).toArray 22 (0,0))/\Told W key s
theorem Full.rows {W:World}{g n:Nat}{key:List UInt8}(h:Full W g n key)(hk:key.length=16)(hn:n<=256):Rowss W (some ⟨g,0,none⟩) (n+1) (allL n key):=by
 obtain⟨s,hs,hg,ht⟩:=h
 refine⟨by rw[allL_len];omega,by unfold maxLen;omega,λr bs hr=>⟨g,0,rfl,?_⟩⟩
 have hrn:r<n+1:=by have:=(List.getElem?_eq_some_iff.1 hr).1;rw[allL_len] at this;exact this
 rw[allL_get n key r (by omega)] at hr
 simp only[Option.some.injEq] at hr
 subst hr
 obtain⟨p,hp,hv⟩:=rowL_full n s hs r (by omega)
 refine⟨p.1,p.2,?_,ht _ _ hp⟩
 rw[cell_of_row W g (0+r) _ _ _ hg,Nat.zero_add,List.getElem?_toArray,hv,backL_len _ _ hk]
theorem Rowss.nil (w:World):Rowss w none 0 []:=⟨by simp,by simp,λr bs h=>by simp at h⟩
theorem made_slices (n:Nat):(madeCells #[Value.slice none 0 0] n).toList=List.replicate n (.slice none 0 0):=by
 apply List.ext_getElem
 ·simp[madeCells]
 ·intro i h1 h2
  simp[madeCells,Nat.mod_one]
theorem Tryz.info22:(Tryz.prog.info? 22).map (λi=>(i.zero,i.size,i.bytes))=some (some (.slice none 0 0),1,24):=by kernel_rfl
theorem row_made {w:World}{base g n N:Nat}(hN:N=n+1)(h:w.ownsRow base 22 1 (.slice (some ⟨g,0,none⟩) N N) N (madeCells #[Value.slice none 0 0] N).toList):w.heap[g]?=some (.cells (rowL n []).toArray 22 (0,0)):=by
 rcases h.2 with ⟨h',_⟩|⟨g',cap',cur,h',_,hg,_,_,hcs,htake⟩
 ·simp at h'
 ·simp only[Value.slice.injEq,Option.some.injEq,Addr.mk.injEq,and_true,true_and] at h'
  obtain⟨rfl,rfl⟩:=h'
  rw[hg]
  have e1:cur.toList=rowL n []:=by
   rw[made_slices,List.take_of_length_le (by simp[hcs])] at htake
   rw[htake,rowL_zero,hN]
  rw[<-e1]
open Go.ChangeShapes Go.WideShapes Go.ChangeAt Go.RowKit
def backP (key:List UInt8)(n:Int):List UInt8×Nat:=if key.length=16/\0<=n/\n<=256 then (backL n.toNat key,0) else ([],1)
def allP (seed:List UInt8)(n:Int):List (List UInt8)×Nat:=if seed.length=16/\1<=n/\n<=256 then (allL n.toNat (lastL seed),0) else ([],1)
def folP (i:Int)(known:List UInt8)(j:Int)(key:List UInt8):Nat:=
 if 0<=i/\i<=256/\0<=j/\j<=256/\known.length=16/\key.length=16 then (if j<i then 10 else if backL (j-i).toNat key=known then 0 else 11) else 1
theorem tells16 {w w':World}{d:Option Addr}{cd:Nat}{r:List UInt8}(hr:r.length=16)(hs:Sees w' d cd r)(hb:Below w.heap.size w w'):Tells w w' (.returned (.tuple #[.slice d 16 cd,.int .i64 0])) r 0:=⟨d,cd,by rw[hr];rfl,hs,hb⟩
theorem tells_no {w w':World}(hb:Below w.heap.size w w'):Tells w w' (.returned (.tuple #[.slice none 0 0,.int .i64 1])) [] 1:=⟨none,0,rfl,Sees.nil' _,hb⟩
def RTells (w w':World)(e:Ending)(L:List (List UInt8))(q:Nat):Prop:=∃ d cd,e=.returned (.tuple #[.slice d L.length cd,.int .i64 (q:Int)])/\Rowss w' d cd L/\Below w.heap.size w w'
theorem rtells_full {w w':World}{g n:Nat}{key:List UInt8}(hk:key.length=16)(hn:n<=256)(hf:Full w' g n key)(hb:Below w.heap.size w w'):RTells w w' (.returned (.tuple #[.slice (some ⟨g,0,none⟩) (n+1) (n+1),.int .i64 0])) (allL n key) 0:=
 ⟨_,_,by rw[allL_len];rfl,hf.rows hk hn,hb⟩
theorem rtells_no {w w':World}(hb:Below w.heap.size w w'):RTells w w' (.returned (.tuple #[.slice none 0 0,.int .i64 1])) [] 1:=⟨none,0,rfl,Rowss.nil _,hb⟩
theorem back_any (w:World)(a:Option Addr)(ca:Nat)(key:List UInt8)(n:Int)(hF:FTab w)(hT:KTab w)(ha:Sees w a ca key):
  Calls Tryz.prog 184 #[.slice a key.length ca,.int .i64 n] w λe w'=>Tells w w' e (backP key n).1 (backP key n).2:=by
 have hkm:key.length<=9223372036854775807:=by have:=ha.fits;have:=ha.room;unfold maxLen at this;omega
 by_cases hg:key.length=16/\0<=n/\n<=256
 ·have hP:backP key n=(backL n.toNat key,0):=by unfold backP;rw[if_pos hg]
  rw[hP]
  obtain⟨h16,h0,h1⟩:=hg
  obtain⟨m,rfl⟩:∃ m:Nat,n=(m:Int):=⟨n.toNat,by omega⟩
  rw[h16,Int.toNat_natCast]
  have k1:=isKey_yes w a ca
  have k2:=isPlace_yes w (m:Int) h0 h1
  have k3:Calls Tryz.prog 103 #[.int .i64 (m:Int),.slice a 16 ca,.int .i64 0] w _:=reach_ok w a ca key h16 0 m (by omega) (by omega) hF hT ha
  have HL:Hid ((backL m key).length=16):=backL_len m key h16
  clear hP h0 h1 hF hT ha hkm h16
  go_enter Tryz.func184,Tryz.ntmps184
  go_wp2_with fail
  refine k1.mono ?_
  rintro e w1 ⟨rfl,rfl⟩
  clear k1
  go_wp2_with fail
  refine k2.mono ?_
  rintro e w1 ⟨rfl,rfl⟩
  clear k2
  go_wp2_with fail
  refine k3.mono ?_
  rintro e w3 ⟨d,cd,rfl,hs,hb⟩
  clear k3
  go_wp2
  go_ret2
  exact tells16 HL.out hs hb
 ·have hP:backP key n=([],1):=by unfold backP;rw[if_neg hg]
  rw[hP]
  by_cases h16:key.length=16
  ·have k1:=isKey_yes w a ca
   have k2:=isPlace_no w n (by omega)
   rw[h16]
   clear hP hg hF hT ha hkm h16
   go_enter Tryz.func184,Tryz.ntmps184
   go_wp2_with fail
   refine k1.mono ?_
   rintro e w1 ⟨rfl,rfl⟩
   clear k1
   go_wp2_with fail
   refine k2.mono ?_
   rintro e w1 ⟨rfl,rfl⟩
   clear k2
   go_wp2
   go_ret2
   exact tells_no (Below.refl _ _)
  ·have k1:=isKey_no w a key.length ca h16 hkm
   clear hP hg hF hT ha h16
   go_enter Tryz.func184,Tryz.ntmps184
   go_wp2_with fail
   refine k1.mono ?_
   rintro e w1 ⟨rfl,rfl⟩
   clear k1
   go_wp2
   go_ret2
   exact tells_no (Below.refl _ _)
theorem fol_any (w:World)(i:Int)(a:Option Addr)(ca:Nat)(known:List UInt8)(j:Int)(b:Option Addr)(cb:Nat)(key:List UInt8)(hF:FTab w)(hT:KTab w)(ha:Sees w a ca known)(hb:Sees w b cb key):
  Calls Tryz.prog 66 #[.int .i64 i,.slice a known.length ca,.int .i64 j,.slice b key.length cb] w λe w'=>e=.returned (.int .i64 (folP i known j key:Int))/\Below w.heap.size w w':=by
 have hkm:known.length<=9223372036854775807:=by have:=ha.fits;have:=ha.room;unfold maxLen at this;omega
 have hym:key.length<=9223372036854775807:=by have:=hb.fits;have:=hb.room;unfold maxLen at this;omega
 by_cases hi:0<=i/\i<=256
 ·have k1:=isPlace_yes w i hi.1 hi.2
  by_cases hj:0<=j/\j<=256
  ·have k2:=isPlace_yes w j hj.1 hj.2
   by_cases ha16:known.length=16
   ·have k3:=isKey_yes w a ca
    by_cases hb16:key.length=16
    ·have k4:=isKey_yes w b cb
     have hP:folP i known j key=(if j<i then 10 else if backL (j-i).toNat key=known then 0 else 11):=by unfold folP;rw[if_pos ⟨hi.1,hi.2,hj.1,hj.2,ha16,hb16⟩]
     by_cases hlt:j<i
     ·rw[hP,if_pos hlt,ha16,hb16]
      clear hP hi hj ha16 hb16 hF hT ha hb hkm hym
      go_enter Tryz.func66,Tryz.ntmps66
      go_wp2_with fail
      refine k1.mono ?_
      rintro e w1 ⟨rfl,rfl⟩
      clear k1
      go_wp2_with fail
      refine k2.mono ?_
      rintro e w1 ⟨rfl,rfl⟩
      clear k2
      go_wp2_with fail
      refine k3.mono ?_
      rintro e w1 ⟨rfl,rfl⟩
      clear k3
      go_wp2_with fail
      refine k4.mono ?_
      rintro e w1 ⟨rfl,rfl⟩
      clear k4
      go_wp2
      go_ret
      exact⟨rfl,Below.refl _ _⟩
     ·obtain⟨x,rfl⟩:∃ x:Nat,i=(x:Int):=⟨i.toNat,by omega⟩
      obtain⟨y,rfl⟩:∃ y:Nat,j=(y:Int):=⟨j.toNat,by omega⟩
      have k5:=reach_ok w b cb key hb16 x y (by omega) (by omega) hF hT hb
      rw[hP,if_neg hlt,show ((y:Int)-(x:Int)).toNat=y-x by omega]
      obtain⟨r,hr⟩:∃ r,r=backL (y-x) key:=⟨_,rfl⟩
      have hrl:r.length=16:=by rw[hr];exact backL_len _ _ hb16
      rw[<-hr] at k5 ⊢
      have HA:Hid (Sees w a ca known):=ha
      have HRL:Hid (r.length=16):=hrl
      have HKL:Hid (known.length=16):=ha16
      have d0:decide ((y:Int)<(x:Int))=false:=decide_eq_false hlt
      have d1:decide (y<x)=false:=decide_eq_false (by omega)
      rw[ha16,hb16]
      clear hP hi hj ha16 hb16 hF hT ha hb hkm hym hlt hr hrl
      by_cases hrk:r=known
      ·rw[if_pos hrk]
       go_enter Tryz.func66,Tryz.ntmps66
       go_wp2_with fail
       refine k1.mono ?_
       rintro e w1 ⟨rfl,rfl⟩
       clear k1
       go_wp2_with fail
       refine k2.mono ?_
       rintro e w1 ⟨rfl,rfl⟩
       clear k2
       go_wp2_with fail
       refine k3.mono ?_
       rintro e w1 ⟨rfl,rfl⟩
       clear k3
       go_wp2_with fail
       refine k4.mono ?_
       rintro e w1 ⟨rfl,rfl⟩
       clear k4
       go_wp2_with fail
       refine k5.mono ?_
       rintro e w5 ⟨d5,c5,rfl,hs5,hb5⟩
       have k6:=same_any w5 d5 a c5 ca r known hs5 (HA.out.below hb5)
       rw[HRL.out,HKL.out,decide_eq_true hrk] at k6
       clear k5 hs5
       go_wp2_with fail
       refine k6.mono ?_
       rintro e w6 ⟨rfl,rfl⟩
       clear k6
       go_wp2
       go_ret
       exact⟨rfl,hb5⟩
      ·rw[if_neg hrk]
       go_enter Tryz.func66,Tryz.ntmps66
       go_wp2_with fail
       refine k1.mono ?_
       rintro e w1 ⟨rfl,rfl⟩
       clear k1
       go_wp2_with fail
       refine k2.mono ?_
       rintro e w1 ⟨rfl,rfl⟩
       clear k2
       go_wp2_with fail
       refine k3.mono ?_
       rintro e w1 ⟨rfl,rfl⟩
       clear k3
       go_wp2_with fail
       refine k4.mono ?_
       rintro e w1 ⟨rfl,rfl⟩
       clear k4
       go_wp2_with fail
       refine k5.mono ?_
       rintro e w5 ⟨d5,c5,rfl,hs5,hb5⟩
       have k6:=same_any w5 d5 a c5 ca r known hs5 (HA.out.below hb5)
       rw[HRL.out,HKL.out,decide_eq_false hrk] at k6
       clear k5 hs5
       go_wp2_with fail
       refine k6.mono ?_
       rintro e w6 ⟨rfl,rfl⟩
       clear k6
       go_wp2
       go_ret
       exact⟨rfl,hb5⟩
    ·have hP:folP i known j key=1:=by unfold folP;rw[if_neg (λh=>hb16 h.2.2.2.2.2)]
     have k4:=isKey_no w b key.length cb hb16 hym
     rw[hP,ha16]
     clear hP hi hj ha16 hb16 hF hT ha hb hkm
     go_enter Tryz.func66,Tryz.ntmps66
     go_wp2_with fail
     refine k1.mono ?_
     rintro e w1 ⟨rfl,rfl⟩
     clear k1
     go_wp2_with fail
     refine k2.mono ?_
     rintro e w1 ⟨rfl,rfl⟩
     clear k2
     go_wp2_with fail
     refine k3.mono ?_
     rintro e w1 ⟨rfl,rfl⟩
     clear k3
     go_wp2_with fail
     refine k4.mono ?_
     rintro e w1 ⟨rfl,rfl⟩
     clear k4
     go_wp2
     go_ret
     exact⟨rfl,Below.refl _ _⟩
   ·have hP:folP i known j key=1:=by unfold folP;rw[if_neg (λh=>ha16 h.2.2.2.2.1)]
    have k3:=isKey_no w a known.length ca ha16 hkm
    rw[hP]
    clear hP hi hj ha16 hF hT ha hb
    go_enter Tryz.func66,Tryz.ntmps66
    go_wp2_with fail
    refine k1.mono ?_
    rintro e w1 ⟨rfl,rfl⟩
    clear k1
    go_wp2_with fail
    refine k2.mono ?_
    rintro e w1 ⟨rfl,rfl⟩
    clear k2
    go_wp2_with fail
    refine k3.mono ?_
    rintro e w1 ⟨rfl,rfl⟩
    clear k3
    go_wp2
    go_ret
    exact⟨rfl,Below.refl _ _⟩
  ·have hP:folP i known j key=1:=by unfold folP;rw[if_neg (λh=>hj ⟨h.2.2.1,h.2.2.2.1⟩)]
   have k2:=isPlace_no w j (by omega)
   rw[hP]
   clear hP hi hj hF hT ha hb
   go_enter Tryz.func66,Tryz.ntmps66
   go_wp2_with fail
   refine k1.mono ?_
   rintro e w1 ⟨rfl,rfl⟩
   clear k1
   go_wp2_with fail
   refine k2.mono ?_
   rintro e w1 ⟨rfl,rfl⟩
   clear k2
   go_wp2
   go_ret
   exact⟨rfl,Below.refl _ _⟩
 ·have hP:folP i known j key=1:=by unfold folP;rw[if_neg (λh=>hi ⟨h.1,h.2.1⟩)]
  have k1:=isPlace_no w i (by omega)
  rw[hP]
  clear hP hi hF hT ha hb
  go_enter Tryz.func66,Tryz.ntmps66
  go_wp2_with fail
  refine k1.mono ?_
  rintro e w1 ⟨rfl,rfl⟩
  clear k1
  go_wp2
  go_ret
  exact⟨rfl,Below.refl _ _⟩
end Go.Proofs.YthogohkieiogiaaGreatDoor
namespace Go.Proofs.YthogohkieiogiaaGreatDoor
set_option maxRecDepth 20000
set_option maxHeartbeats 1600000
open Go.ChangeShapes Go.WideShapes Go.ChangeAt Go.RowKit
def RAll (W:World)(g n:Nat)(key:List UInt8)(s:List Loc):Prop:=W.heap[g]?=some (.cells (rowL n s).toArray 22 (0,0))/\Told W key s
theorem rall_ok (w:World)(a:Option Addr)(ca:Nat)(seed:List UInt8)(hs0:seed.length=16)(n:Nat)(hn1:1<=n)(hnm:n<=256)(ha:Sees w a ca seed):
  Calls Tryz.prog 6 #[.slice a 16 ca,.int .i64 (n:Int)] w λe w'=>∃ g,e=.returned (.tuple #[.slice (some ⟨g,0,none⟩) (n+1) (n+1),.int .i64 0])/\Full w' g n (lastL seed)/\Below w.heap.size w w':=by
 obtain⟨i22,hi,hz0,hz1,hz2⟩:=info_parts Tryz.info22
 have hk:Calls Tryz.prog 22 #[.slice a seed.length ca,.string { data:=#[115,101,101,100] },.slice none 0 0] w λe w'=>Says w w' e (keyP seed seedN []):=rkey_any w a ca seed seedN (by simp[seedN]) none 0 [] ha (Longs.none' w)
 rw[keyP_ok _ _ _ seed_labels.1 (by simp) (by omega),hs0] at hk
 obtain⟨N,hN⟩:∃ N,N=n+1:=⟨_,rfl⟩
 rw[<-hN]
 have HN:Hid (N=n+1):=hN
 have hN1:(n:Int)+1=(N:Int):=by omega
 have d1:decide ((n:Int)<1)=false:=decide_eq_false (by omega)
 have d2:decide ((256:Int)<(n:Int))=false:=decide_eq_false (by omega)
 clear ha hs0 hN hn1
 go_enter Tryz.func6,Tryz.ntmps6
 go_wp2_with fail
 refine hk.mono ?_
 rintro e w1 ⟨d5,c5,r5,hr5,rfl,hs5,hb5⟩
 have hr:r5=lastL seed:=hr5.out
 have hrl:r5.length=16:=by rw[hr];exact lastL_len seed
 rw[hr] at hs5
 rw[hrl]
 clear hk hr5 hr hrl
 go_wp2_with (at_make;refine wpList_make_full _ rfl _ _ 30 rfl w1.heap.size 22 i22 (.slice none 0 0) 1 (by kernel_rfl) hi hz0 hz1 .i64 .i64 _ _ N rfl rfl ?hL ?hC ?b2 ?b3 ?b4 ?_)
 case hL=>rfl
 case hC=>rfl
 case b2=>rw[hz2];have:=HN.out;omega
 case b3=>unfold maxLen;have:=HN.out;omega
 case b4=>exact Nat.le_refl _
 intro w2 hown hgrow
 have hrow:=row_made HN.out hown
 have hbel:Below w1.heap.size w1 w2:=(Below.refl _ _).grown hgrow (Nat.le_refl _) (by intro k h;cases h)
 have hs2:=hs5.below hbel
 have hb2:=hb5.trans (hbel.mono hb5.size)
 have hg2:=hb5.size
 obtain⟨g,hgg⟩:∃ g,g=w1.heap.size:=⟨_,rfl⟩
 rw[<-hgg] at hrow hg2 ⊢
 have HG:Hid (w.heap.size<=g):=hg2
 clear hown hgrow hi hz0 hz1 hz2 i22 hbel hs5 hb5 hgg hg2
 go_wp2
 go_loopw [6,9,10,11] (λk i _ _ wr=>∃ (d:Option Addr) (c:Nat) (s:List Loc) (q:Int),q+s.length=n /\ -1<=q/\k=.slice d 16 c/\i=.int .i64 q/\Sees wr d c (backL s.length (lastL seed))/\RAll wr g n (lastL seed) s/\Below w.heap.size w wr) (λ_ i _ _ _=>(intOf i+1).toNat)
 case atStart=>exact⟨d5,c5,[],n,by simp,by omega,rfl,rfl,hs2,⟨hrow,Told.nil _ _⟩,hb2⟩
 case round=>
  obtain⟨d,c,s,q,hq,hq1,rfl,rfl,hs,⟨hrw,htold⟩,hb⟩:=hrel
  by_cases hge:0<=q
  ·obtain⟨p,rfl⟩:∃ p:Nat,q=(p:Int):=⟨q.toNat,by omega⟩
   have hps:p+s.length=n:=by omega
   have c2:wr.cell? ⟨g,p,none⟩=some (.slice none 0 0):=by rw[cell_of_row wr _ p _ _ _ hrw,List.getElem?_toArray];exact rowL_at n s p hps
   have f2:wr.frozen? ⟨g,p,none⟩=false:=by simp[World.frozen?,hrw]
   have hpN:p<N:=by have:=HN.out;omega
   have hNm:N<=257:=by have:=HN.out;omega
   have hs':=hs.slot hrw (rowL_val n s) p (.slice d 16 c)
   have ht':=(htold.push (d,c) hs).slot hrw (rowL_val n s) p (.slice d 16 c)
   have hr':(wr.setCell ⟨g,p,none⟩ (.slice d 16 c)).heap[g]?=some (.cells (rowL n (s++[(d,c)])).toArray 22 (0,0)):=by
    rw[heap_setCell_same wr g p _ 22 _ hrw,<-rowL_set n s (d,c) p hps];simp
   have hb':=hb.setCell (p:=⟨g,p,none⟩) HG.out (.slice d 16 c)
   have hst:=rstep_any _ d c (backL s.length (lastL seed)) hs'
   have hbl:=backL_len s.length (lastL seed) (lastL_len seed)
   rw[stepP_eq _ hbl,hbl] at hst
   have HPS:Hid (p+s.length=n):=hps
   have hSL:Hid ((s++[((d,c):Loc)]).length=s.length+1):=by show (s++[((d,c):Loc)]).length=s.length+1;simp
   have HE:Hid (Told (wr.setCell ⟨g,p,none⟩ (.slice d 16 c)) (lastL seed) (s++[(d,c)])/\(wr.setCell ⟨g,p,none⟩ (.slice d 16 c)).heap[g]?=some (.cells (rowL n (s++[(d,c)])).toArray 22 (0,0))/\Below w.heap.size w (wr.setCell ⟨g,p,none⟩ (.slice d 16 c))):=⟨ht',hr',hb'⟩
   clear hs hrw htold hb hs' ht' hr' hb' hbl hps hq hq1 hge hs2 hb2 hrow
   go_wp2_with fail
   refine hst.mono ?_
   rintro e w5 ⟨d6,c6,r5,hr5,rfl,hs5,hb5⟩
   have hr:r5=backL (s.length+1) (lastL seed):=hr5.out
   have hrl:r5.length=16:=by rw[hr];exact backL_len _ _ (lastL_len seed)
   rw[hr,<-hSL.out] at hs5
   rw[hrl]
   have hrow5:RAll w5 g n (lastL seed) (s++[(d,c)]):=⟨by rw[hb5.block _ (Array.getElem?_eq_some_iff.1 HE.out.2.1).1];exact HE.out.2.1,HE.out.1.below hb5⟩
   have hbw:=HE.out.2.2.trans (hb5.mono HE.out.2.2.size)
   have HR5:Hid (RAll w5 g n (lastL seed) (s++[(d,c)])):=hrow5
   clear hst hr5 hb5 hr hrl HE c2 f2 hrow5
   go_wp2
   go_roundw
   case rel=>exact⟨d6,c6,s++[(d,c)],(p:Int)-1,by have:=HPS.out;have:=hSL.out;omega,by omega,rfl,by go_num,hs5,HR5.out,hbw⟩
   case measure=>simp[intOf]
  ·have hsl:s.length=n+1:=by omega
   have HFU:Hid (Full wr g n (lastL seed)):=⟨s,hsl,hrw,htold⟩
   have dq:decide (0<=q)=false:=decide_eq_false hge
   clear hs hrw htold hq hq1 hge hs2 hb2 hrow hsl
   go_wp2
   go_ret2
   exact⟨g,rfl,HFU.out,hb⟩
theorem rall_any (w:World)(a:Option Addr)(ca:Nat)(seed:List UInt8)(n:Int)(ha:Sees w a ca seed):
  Calls Tryz.prog 6 #[.slice a seed.length ca,.int .i64 n] w λe w'=>RTells w w' e (allP seed n).1 (allP seed n).2:=by
 have hkm:seed.length<=9223372036854775807:=by have:=ha.fits;have:=ha.room;unfold maxLen at this;omega
 by_cases hc:seed.length=16/\1<=n/\n<=256
 ·have hP:allP seed n=(allL n.toNat (lastL seed),0):=by unfold allP;rw[if_pos hc]
  rw[hP]
  obtain⟨h16,h1,h2⟩:=hc
  obtain⟨m,rfl⟩:∃ m:Nat,n=(m:Int):=⟨n.toNat,by omega⟩
  rw[h16,Int.toNat_natCast]
  refine(rall_ok w a ca seed h16 m (by omega) (by omega) ha).mono ?_
  rintro e w' ⟨g,rfl,hf,hb⟩
  exact rtells_full (lastL_len seed) (by omega) hf hb
 ·have hP:allP seed n=([],1):=by unfold allP;rw[if_neg hc]
  rw[hP]
  by_cases h16:seed.length=16
  ·rw[h16]
   by_cases h0:n<1
   ·clear hP hc ha h16 hkm
    go_enter Tryz.func6,Tryz.ntmps6
    go_wp2
    go_ret2
    exact rtells_no (Below.refl _ _)
   ·have d1:decide (n<1)=false:=decide_eq_false h0
    have d2:256<n:=by omega
    clear hP hc ha h16 hkm h0
    go_enter Tryz.func6,Tryz.ntmps6
    go_wp2
    go_ret2
    exact rtells_no (Below.refl _ _)
  ·have dd:((seed.length:Int) != 16)=true:=by simp;omega
   clear hP hc ha h16
   go_enter Tryz.func6,Tryz.ntmps6
   go_wp2
   go_ret2
   exact rtells_no (Below.refl _ _)
end Go.Proofs.YthogohkieiogiaaGreatDoor
