/-
  A frame by value, and in memory. The contracts of upTo, rightNumbers and rightLists.

  What a hand must say, whichever it is; the contracts of number.
  A hand's walk over pings.

  A hand's walk over data.

  A hand's walk over pongs.

  A hand's walk over frames of any kind.
-/
import Derived.Test.YthogohkieiogiaaGreatDoorBitsA
import Derived.Test.YthogohkieiogiaaGreatDoorRows
import Derived.Lib.SmallJoins
import Derived.Deep.DeepCutAuto
namespace Go.Proofs.YthogohkieiogiaaGreatDoor
set_option maxRecDepth 20000
set_option maxHeartbeats 3200000
open Go.ChangeShapes Go.WideShapes Go.ChangeAt Go.RowKit
structure At where
 ka:Option Addr
 kc:Nat
 ba:Option Addr
 bc:Nat
 ta:Option Addr
 tc:Nat
def At.zero:At:=⟨none,0,none,0,none,0⟩
structure Seen (w:World)(F:Fr)(A:At):Prop where
 key:Sees w A.ka A.kc F.key
 body:Sees w A.ba A.bc F.body
 tag:Sees w A.ta A.tc F.tag
theorem Seen.below {w w':World}{F:Fr}{A:At}(h:Seen w F A)(hb:Below w.heap.size w w'):Seen w' F A:=⟨h.key.below hb,h.body.below hb,h.tag.below hb⟩
theorem Seen.zero (w:World):Seen w Fr.zero At.zero:=⟨Sees.nil' w,Sees.nil' w,Sees.nil' w⟩
def frL (F:Fr)(A:At):List Value:=
 [.int .i64 F.k, .int .i64 F.f, .int .i64 F.t, .int .i64 F.e, .int .i64 F.s, .int .i64 F.r, .int .u64 (F.n : Int), .int .i64 F.m, .int .i64 F.v, .int .i64 F.i,
   .slice A.ka F.key.length A.kc, .slice A.ba F.body.length A.bc, .slice A.ta F.tag.length A.tc]
def frC (F:Fr)(A:At):Array Value:=(frL F A).toArray
theorem frC_size (F:Fr)(A:At):(frC F A).size=13:=rfl
theorem frC_one (F:Fr)(A:At):(frC F A).all (·.oneCell')=true:=all_oneCell_toArray (by
 intro v hv
 simp only[frL,List.mem_cons,List.not_mem_nil,or_false] at hv
 rcases hv with rfl|rfl|rfl|rfl|rfl|rfl|rfl|rfl|rfl|rfl|rfl|rfl|rfl<;>rfl)
def FrAt (w:World)(g:Nat)(F:Fr)(A:At):Prop:=w.heap[g]?=some (.cells (frC F A) 41 (0,0))
theorem FrAt.cell {w:World}{g:Nat}{F:Fr}{A:At}(h:FrAt w g F A)(i:Nat){u:Value}(hu:(frL F A)[i]?=some u):w.cell? ⟨g,i,none⟩=some u:=by
 rw[cell_of_row w _ i _ _ _ h];simpa [frC] using hu
theorem FrAt.c0 {w:World}{g:Nat}{F:Fr}{A:At}(h:FrAt w g F A):w.cell? ⟨g,0,none⟩=some (.int .i64 F.k):=h.cell 0 rfl
theorem FrAt.c1 {w:World}{g:Nat}{F:Fr}{A:At}(h:FrAt w g F A):w.cell? ⟨g,1,none⟩=some (.int .i64 F.f):=h.cell 1 rfl
theorem FrAt.c2 {w:World}{g:Nat}{F:Fr}{A:At}(h:FrAt w g F A):w.cell? ⟨g,2,none⟩=some (.int .i64 F.t):=h.cell 2 rfl
theorem FrAt.c3 {w:World}{g:Nat}{F:Fr}{A:At}(h:FrAt w g F A):w.cell? ⟨g,3,none⟩=some (.int .i64 F.e):=h.cell 3 rfl
theorem FrAt.c4 {w:World}{g:Nat}{F:Fr}{A:At}(h:FrAt w g F A):w.cell? ⟨g,4,none⟩=some (.int .i64 F.s):=h.cell 4 rfl
theorem FrAt.c5 {w:World}{g:Nat}{F:Fr}{A:At}(h:FrAt w g F A):w.cell? ⟨g,5,none⟩=some (.int .i64 F.r):=h.cell 5 rfl
theorem FrAt.c6 {w:World}{g:Nat}{F:Fr}{A:At}(h:FrAt w g F A):w.cell? ⟨g,6,none⟩=some (.int .u64 (F.n:Int)):=h.cell 6 rfl
theorem FrAt.c7 {w:World}{g:Nat}{F:Fr}{A:At}(h:FrAt w g F A):w.cell? ⟨g,7,none⟩=some (.int .i64 F.m):=h.cell 7 rfl
theorem FrAt.c8 {w:World}{g:Nat}{F:Fr}{A:At}(h:FrAt w g F A):w.cell? ⟨g,8,none⟩=some (.int .i64 F.v):=h.cell 8 rfl
theorem FrAt.c9 {w:World}{g:Nat}{F:Fr}{A:At}(h:FrAt w g F A):w.cell? ⟨g,9,none⟩=some (.int .i64 F.i):=h.cell 9 rfl
theorem FrAt.c10 {w:World}{g:Nat}{F:Fr}{A:At}(h:FrAt w g F A):w.cell? ⟨g,10,none⟩=some (.slice A.ka F.key.length A.kc):=h.cell 10 rfl
theorem FrAt.c11 {w:World}{g:Nat}{F:Fr}{A:At}(h:FrAt w g F A):w.cell? ⟨g,11,none⟩=some (.slice A.ba F.body.length A.bc):=h.cell 11 rfl
theorem FrAt.c12 {w:World}{g:Nat}{F:Fr}{A:At}(h:FrAt w g F A):w.cell? ⟨g,12,none⟩=some (.slice A.ta F.tag.length A.tc):=h.cell 12 rfl
theorem FrAt.fz {w:World}{g:Nat}{F:Fr}{A:At}(h:FrAt w g F A)(i:Nat):w.frozen? ⟨g,i,none⟩=false:=frozen_of_row _ _ i _ _ h
theorem FrAt.lt {w:World}{g:Nat}{F:Fr}{A:At}(h:FrAt w g F A):g<w.heap.size:=(Array.getElem?_eq_some_iff.1 h).1
theorem FrAt.keep {w w':World}{g:Nat}{F:Fr}{A:At}(h:FrAt w g F A)(hb:w'.heap[g]?=w.heap[g]?):FrAt w' g F A:=hb.trans h
theorem FrAt.below {w w':World}{g:Nat}{F:Fr}{A:At}(h:FrAt w g F A)(hb:Below w.heap.size w w'):FrAt w' g F A:=h.keep (hb.block g h.lt)
theorem FrAt.new (w:World)(F:Fr)(A:At):FrAt (w.alloc (.cells (frC F A) 41)) w.heap.size F A:=heap_alloc_new _ _
theorem FrAt.alloc {w:World}{g:Nat}{F:Fr}{A:At}(h:FrAt w g F A)(o:Obj):FrAt (w.alloc o) g F A:=by
 show (w.heap.push o)[g]?=_
 rw[Array.getElem?_push,if_neg (Nat.ne_of_lt h.lt)];exact h
theorem FrAt.loads {w:World}{g:Nat}{F:Fr}{A:At}(h:FrAt w g F A):(Instr.loadAt 41 (.pointer (some ⟨g,0,none⟩))).run Tryz.prog w=.ok (.agg (frC F A)) w:=
 loadAt_row w g 41 41 _ (0,0) _ h Tryz.underlying41 rfl (by rw[frC_size];kernel_rfl)
theorem FrAt.stores {w:World}{g:Nat}{F:Fr}{A:At}(h:FrAt w g F A)(G:Fr)(B:At):(Instr.storeAt 41 (.pointer (some ⟨g,0,none⟩)) (.agg (frC G B))).run Tryz.prog w=.ok () (w.setRow g (frC G B)):=
 storeAt_row w g 41 41 _ _ h (by rw[frC_size];kernel_rfl) rfl (frC_one G B)
theorem FrAt.stored {w:World}{g:Nat}{F:Fr}{A:At}(h:FrAt w g F A)(G:Fr)(B:At):FrAt (w.setRow g (frC G B)) g G B:=setRow_heap _ _ _ _ 41 _ h
theorem res_fr {fn:Func}{p:Tmp}(h:fn.results=#[.cell p 41]){tmps:Array Value}{w:World}{g:Nat}{F:Fr}{A:At}(hp:tmps.getD p undef=.pointer (some ⟨g,0,none⟩))(hg:FrAt w g F A):
  (results fn tmps).run Tryz.prog w=.ok (.agg (frC F A)) w:=
 results_cell_row h tmps w g 41 _ (0,0) _ hp hg Tryz.underlying41 rfl (by rw[frC_size];kernel_rfl)
theorem res_fr_tmp {fn:Func}{p q:Tmp}(h:fn.results=#[.cell p 41,.tmp q]){tmps:Array Value}{w:World}{g:Nat}{F:Fr}{A:At}(hp:tmps.getD p undef=.pointer (some ⟨g,0,none⟩))(hg:FrAt w g F A):
  (results fn tmps).run Tryz.prog w=.ok (.tuple #[.agg (frC F A),tmps.getD q undef]) w:=
 results_cell_tmp h tmps w g 41 _ (0,0) _ hp hg Tryz.underlying41 rfl (by rw[frC_size];kernel_rfl)
theorem FrAt.put {w:World}{g:Nat}{F G:Fr}{A B:At}(h:FrAt w g F A)(i:Nat)(u:Value)(hl:(frL F A).set i u=frL G B):FrAt (w.setCell ⟨g,i,none⟩ u) g G B:=by
 show (w.setCell ⟨g,i,none⟩ u).heap[g]?=_
 rw[heap_setCell_same _ _ _ _ _ _ h]
 congr 2
 show ((frL F A).toArray).setIfInBounds i u=(frL G B).toArray
 rw[List.setIfInBounds_toArray,hl]
theorem upto_ok (w:World)(n m:Int):Calls Tryz.prog 153 #[.int .i64 n,.int .i64 m] w λe w'=>e=.returned (.bool (inB n m))/\w'=w:=by
 by_cases h0:0<=n
 ·by_cases h1:n<=m
  ·have e:inB n m=true:=by simp[inB];omega
   rw[e]
   clear e
   go_enter Tryz.func153,Tryz.ntmps153
   go_wp2
   go_ret
   exact⟨rfl,rfl⟩
  ·have e:inB n m=false:=by simp[inB];omega
   rw[e]
   clear e
   go_enter Tryz.func153,Tryz.ntmps153
   go_wp2
   go_ret
   exact⟨rfl,rfl⟩
 ·have e:inB n m=false:=by simp[inB];omega
  rw[e]
  clear e
  go_enter Tryz.func153,Tryz.ntmps153
  go_wp2
  go_ret
  exact⟨rfl,rfl⟩
theorem upto64_ok (w:World)(n m:Int):Calls Tryz.prog 154 #[.int .i64 n,.int .i64 m] w λe w'=>e=.returned (.bool (inB n m))/\w'=w:=by
 by_cases h0:0<=n
 ·by_cases h1:n<=m
  ·have e:inB n m=true:=by simp[inB];omega
   rw[e]
   clear e
   go_enter Tryz.func154,Tryz.ntmps154
   go_wp2
   go_ret
   exact⟨rfl,rfl⟩
  ·have e:inB n m=false:=by simp[inB];omega
   rw[e]
   clear e
   go_enter Tryz.func154,Tryz.ntmps154
   go_wp2
   go_ret
   exact⟨rfl,rfl⟩
 ·have e:inB n m=false:=by simp[inB];omega
  rw[e]
  clear e
  go_enter Tryz.func154,Tryz.ntmps154
  go_wp2
  go_ret
  exact⟨rfl,rfl⟩
theorem rnums_ok (w:World)(F:Fr)(A:At):Calls Tryz.prog 118 #[.agg (frC F A)] w λe w'=>e=.returned (.bool (numsB F))/\w'=w.alloc (.cells (frC F A) 41):=by
 have hN:=FrAt.new w F A
 have k1:=hN.c1
 have k2:=hN.c2
 have k3:=hN.c3
 have k4:=hN.c4
 have k5:=hN.c5
 have k7:=hN.c7
 have k8:=hN.c8
 have k9:=hN.c9
 clear hN
 have u1:=upto_ok (w.alloc (.cells (frC F A) 41)) F.f 7
 have u2:=upto_ok (w.alloc (.cells (frC F A) 41)) F.t 7
 have u3:=upto_ok (w.alloc (.cells (frC F A) 41)) F.e 65535
 have u4:=upto_ok (w.alloc (.cells (frC F A) 41)) F.s 1048576
 have u5:=upto_ok (w.alloc (.cells (frC F A) 41)) F.r 1048576
 have u6:=upto64_ok (w.alloc (.cells (frC F A) 41)) F.m 1099511627776
 have u7:=upto_ok (w.alloc (.cells (frC F A) 41)) F.v 255
 have u8:=upto_ok (w.alloc (.cells (frC F A) 41)) F.i 256
 unfold numsB
 generalize inB F.f 7=b1 at *
 generalize inB F.t 7=b2 at *
 generalize inB F.e 65535=b3 at *
 generalize inB F.s 1048576=b4 at *
 generalize inB F.r 1048576=b5 at *
 generalize inB F.m 1099511627776=b6 at *
 generalize inB F.v 255=b7 at *
 generalize inB F.i 256=b8 at *
 go_enter Tryz.func118,Tryz.ntmps118
 go_wp2_with fail
 refine u1.mono ?_
 rintro e w1 ⟨rfl,rfl⟩
 clear u1
 cases b1
 ·go_wp2
  go_ret
  exact⟨rfl,rfl⟩
 go_wp2_with fail
 refine u2.mono ?_
 rintro e w1 ⟨rfl,rfl⟩
 clear u2
 cases b2
 ·go_wp2
  go_ret
  exact⟨rfl,rfl⟩
 go_wp2_with fail
 refine u3.mono ?_
 rintro e w1 ⟨rfl,rfl⟩
 clear u3
 cases b3
 ·go_wp2
  go_ret
  exact⟨rfl,rfl⟩
 go_wp2_with fail
 refine u4.mono ?_
 rintro e w1 ⟨rfl,rfl⟩
 clear u4
 cases b4
 ·go_wp2
  go_ret
  exact⟨rfl,rfl⟩
 go_wp2_with fail
 refine u5.mono ?_
 rintro e w1 ⟨rfl,rfl⟩
 clear u5
 cases b5
 ·go_wp2
  go_ret
  exact⟨rfl,rfl⟩
 go_wp2_with fail
 refine u6.mono ?_
 rintro e w1 ⟨rfl,rfl⟩
 clear u6
 cases b6
 ·go_wp2
  go_ret
  exact⟨rfl,rfl⟩
 go_wp2_with fail
 refine u7.mono ?_
 rintro e w1 ⟨rfl,rfl⟩
 clear u7
 cases b7
 ·go_wp2
  go_ret
  exact⟨rfl,rfl⟩
 go_wp2_with fail
 refine u8.mono ?_
 rintro e w1 ⟨rfl,rfl⟩
 clear u8
 go_wp2
 go_ret
 exact⟨rfl,rfl⟩
def listsB (F:Fr):Bool:=decide (F.key.length=if F.k=2 then 0 else 16)&&decide (F.body.length<=16)
theorem rlists_ok (w:World)(F:Fr)(A:At)(hB:F.body.length<=9223372036854775807):Calls Tryz.prog 119 #[.agg (frC F A)] w λe w'=>e=.returned (.bool (listsB F))/\w'=w.alloc (.cells (frC F A) 41):=by
 have hN:=FrAt.new w F A
 have k0:=hN.c0
 have k10:=hN.c10
 have k11:=hN.c11
 clear hN
 obtain⟨b,hb⟩:∃ b,b=listsB F:=⟨_,rfl⟩
 rw[<-hb]
 unfold listsB at hb
 obtain⟨K,eK⟩:∃ K,K=F.key.length:=⟨_,rfl⟩
 obtain⟨B,eB⟩:∃ B,B=F.body.length:=⟨_,rfl⟩
 rw[<-eK] at hb k10
 rw[<-eB] at hb k11 hB
 clear eK eB
 by_cases h2:F.k=2
 ·rw[if_pos h2] at hb
  have g2:(F.k==2)=true:=by simp[h2]
  by_cases hk:K=0
  ·have gk:((K:Int)==0)=true:=by simp[hk]
   by_cases h16:B<=16
   ·have gB:decide ((B:Int)<=16)=true:=by simp;omega
    have e:b=true:=by rw[hb];simp[hk,h16]
    rw[e]
    clear hb h2 e
    go_enter Tryz.func119,Tryz.ntmps119
    go_wp2
    go_ret
    exact⟨rfl,rfl⟩
   ·have gB:decide ((B:Int)<=16)=false:=by simp;omega
    have e:b=false:=by rw[hb];simp[h16]
    rw[e]
    clear hb h2 e
    go_enter Tryz.func119,Tryz.ntmps119
    go_wp2
    go_ret
    exact⟨rfl,rfl⟩
  ·have gk:((K:Int)==0)=false:=by simp[hk]
   have e:b=false:=by rw[hb];simp[hk]
   rw[e]
   clear hb h2 e
   go_enter Tryz.func119,Tryz.ntmps119
   go_wp2
   go_ret
   exact⟨rfl,rfl⟩
 ·rw[if_neg h2] at hb
  have g2:(F.k==2)=false:=by simp[h2]
  by_cases hk:K=16
  ·have gk:((K:Int)==16)=true:=by simp[hk]
   by_cases h16:B<=16
   ·have gB:decide ((B:Int)<=16)=true:=by simp;omega
    have e:b=true:=by rw[hb];simp[hk,h16]
    rw[e]
    clear hb h2 e
    go_enter Tryz.func119,Tryz.ntmps119
    go_wp2
    go_ret
    exact⟨rfl,rfl⟩
   ·have gB:decide ((B:Int)<=16)=false:=by simp;omega
    have e:b=false:=by rw[hb];simp[h16]
    rw[e]
    clear hb h2 e
    go_enter Tryz.func119,Tryz.ntmps119
    go_wp2
    go_ret
    exact⟨rfl,rfl⟩
  ·have gk:((K:Int)==16)=false:=by simp;omega
   have e:b=false:=by rw[hb];simp[hk]
   rw[e]
   clear hb h2 e
   go_enter Tryz.func119,Tryz.ntmps119
   go_wp2
   go_ret
   exact⟨rfl,rfl⟩
def Clear (F:Nat->Prop)(x:Option Addr)(l:List UInt8):Prop:=∀ b off,x=some ⟨b,off,none⟩->l≠[]->¬ F b
structure Hand {σ:Type}(i j:Nat)(r:Value)(M:World->Nat->σ->(Nat->Prop)->Prop)(b:Nat)(fn:σ->Nat->Nat->Nat)(sn:σ->Nat->Nat->σ)(fl:σ->List UInt8->Nat->List UInt8)(sl:σ->List UInt8->Nat->σ):Prop where
 kept:Kept M
 ei:∀ (args:Array Value) (w:World),(callFunc i args).run Tryz.prog w=.ok (.enter i args) w
 ej:∀ (args:Array Value) (w:World),(callFunc j args).run Tryz.prog w=.ok (.enter j args) w
 lt:∀ s n V,n<9223372036854775808->V<=48->fn s n V<9223372036854775808
 lt5:∀ s n,n<=16->fn s n 5<=31
 lt64:∀ s n V,n<18446744073709551616->V<=64->fn s n V<18446744073709551616
 num:∀ (w:World) (s:σ) (F:Nat->Prop) (n V:Nat),M w b s F->n<18446744073709551616->V<=64 ->
  Calls Tryz.prog i #[r,.int .u64 (n:Int),.int .i64 (V:Int)] w λe w'=>e=.returned (.int .u64 ((fn s n V:Nat):Int))/\Left M w F b (sn s n V) w'
 list:∀ (w:World) (s:σ) (F:Nat->Prop) (x:Option Addr) (cx:Nat) (l:List UInt8) (n:Nat),M w b s F->Sees w x cx l->Clear F x l->n<=31 ->
  Calls Tryz.prog j #[r,.slice x l.length cx,.int .i64 (n:Int)] w λe w'=>∃ d cd q,Hid (q=fl s l n)/\e=.returned (.slice d q.length cd)/\Sees w' d cd q/\∃ F',M w' b (sl s l n) F'/\Apart F w w'/\(∀ k,F' k->F k\/w.heap.size<=k)/\Clear F' d q
theorem Left.of_alloc {σ:Type}{M:World->Nat->σ->(Nat->Prop)->Prop}{w w':World}{o:Obj}{F:Nat->Prop}{b:Nat}{s:σ}(h:Left M (w.alloc o) F b s w'):Left M w F b s w':=by
 obtain⟨F',h1,h2,h3⟩:=h
 refine⟨F',h1,⟨h2.os,h2.tape,h2.output,Nat.le_trans (by simp) h2.size,λk hk hn=>?_⟩,λk hk=>?_⟩
 ·rw[h2.block k (by simp;omega) hn]
  show (w.heap.push o)[k]?=_
  rw[Array.getElem?_push,if_neg (by omega)]
 ·rcases h3 k hk with h|h
  ·exact .inl h
  ·right;have:(w.alloc o).heap.size=w.heap.size+1:=by simp
   omega
theorem Kept.alloc {σ:Type}{M:World->Nat->σ->(Nat->Prop)->Prop}(h:Kept M){w:World}{b:Nat}{s:σ}{F:Nat->Prop}(hm:M w b s F)(o:Obj):M (w.alloc o) b s F:=
 h.below hm (Go.Joins.below_alloc1 _ _)
theorem numU_ok {σ:Type}{i j:Nat}{r:Value}{M:World->Nat->σ->(Nat->Prop)->Prop}{b:Nat}{fn:σ->Nat->Nat->Nat}{sn:σ->Nat->Nat->σ}{fl:σ->List UInt8->Nat->List UInt8}{sl:σ->List UInt8->Nat->σ}(H:Hand i j r M b fn sn fl sl)(w:World)(s:σ)(F:Nat->Prop)(n V:Nat)(hm:M w b s F)(hn:n<18446744073709551616)(hV:V<=64):
  Calls Tryz.prog 151 #[.agg #[.func (.func i) #[r] #[],.func (.func j) #[r] #[]],.int .u64 (n:Int),.int .i64 (V:Int)] w λe w'=>e=.returned (.int .u64 ((fn s n V:Nat):Int))/\Left M w F b (sn s n V) w':=by
 have hc:=H.num (w.alloc (.cells #[.func (.func i) #[r] #[],.func (.func j) #[r] #[]] 101)) s F n V (H.kept.alloc hm _) hn hV
 obtain⟨X,hX⟩:∃ X,X=fn s n V:=⟨_,rfl⟩
 rw[<-hX] at hc ⊢
 have hen:=H.ei
 clear hX hm H
 go_enter Tryz.func151,Tryz.ntmps151
 go_wp2_with fail
 refine hc.mono ?_
 rintro e w1 ⟨rfl,hL⟩
 clear hc
 have HL:Hid (Left M (w.alloc (.cells #[.func (.func i) #[r] #[],.func (.func j) #[r] #[]] 101)) F b (sn s n V) w1):=hL
 clear hL
 go_wp2
 go_ret
 exact⟨rfl,HL.out.of_alloc⟩
theorem numI_ok {σ:Type}{i j:Nat}{r:Value}{M:World->Nat->σ->(Nat->Prop)->Prop}{b:Nat}{fn:σ->Nat->Nat->Nat}{sn:σ->Nat->Nat->σ}{fl:σ->List UInt8->Nat->List UInt8}{sl:σ->List UInt8->Nat->σ}(H:Hand i j r M b fn sn fl sl)(w:World)(s:σ)(F:Nat->Prop)(n:Int)(V:Nat)(hm:M w b s F)(h0:0<=n)(hn:n<9223372036854775808)(hV:V<=48):
  Calls Tryz.prog 114 #[.agg #[.func (.func i) #[r] #[],.func (.func j) #[r] #[]],.int .i64 n,.int .i64 (V:Int)] w λe w'=>e=.returned (.int .i64 ((fn s n.toNat V:Nat):Int))/\Left M w F b (sn s n.toNat V) w':=by
 obtain⟨m,rfl⟩:∃ m:Nat,n=m:=⟨n.toNat,by omega⟩
 rw[Int.toNat_natCast]
 have hc:=H.num (w.alloc (.cells #[.func (.func i) #[r] #[],.func (.func j) #[r] #[]] 101)) s F m V (H.kept.alloc hm _) (by omega) (by omega)
 have hX2:=H.lt s m V (by omega) hV
 obtain⟨X,hX⟩:∃ X,X=fn s m V:=⟨_,rfl⟩
 rw[<-hX] at hc hX2 ⊢
 have hen:=H.ei
 clear hX hm H
 go_enter Tryz.func114,Tryz.ntmps114
 go_wp2_with fail
 refine hc.mono ?_
 rintro e w1 ⟨rfl,hL⟩
 clear hc
 have HL:Hid (Left M (w.alloc (.cells #[.func (.func i) #[r] #[],.func (.func j) #[r] #[]] 101)) F b (sn s m V) w1):=hL
 clear hL
 go_wp2
 go_ret
 exact⟨rfl,HL.out.of_alloc⟩
theorem num64_ok {σ:Type}{i j:Nat}{r:Value}{M:World->Nat->σ->(Nat->Prop)->Prop}{b:Nat}{fn:σ->Nat->Nat->Nat}{sn:σ->Nat->Nat->σ}{fl:σ->List UInt8->Nat->List UInt8}{sl:σ->List UInt8->Nat->σ}(H:Hand i j r M b fn sn fl sl)(w:World)(s:σ)(F:Nat->Prop)(n:Int)(V:Nat)(hm:M w b s F)(h0:0<=n)(hn:n<9223372036854775808)(hV:V<=48):
  Calls Tryz.prog 152 #[.agg #[.func (.func i) #[r] #[],.func (.func j) #[r] #[]],.int .i64 n,.int .i64 (V:Int)] w λe w'=>e=.returned (.int .i64 ((fn s n.toNat V:Nat):Int))/\Left M w F b (sn s n.toNat V) w':=by
 obtain⟨m,rfl⟩:∃ m:Nat,n=m:=⟨n.toNat,by omega⟩
 rw[Int.toNat_natCast]
 have hc:=H.num (w.alloc (.cells #[.func (.func i) #[r] #[],.func (.func j) #[r] #[]] 101)) s F m V (H.kept.alloc hm _) (by omega) (by omega)
 have hX2:=H.lt s m V (by omega) hV
 obtain⟨X,hX⟩:∃ X,X=fn s m V:=⟨_,rfl⟩
 rw[<-hX] at hc hX2 ⊢
 have hen:=H.ei
 clear hX hm H
 go_enter Tryz.func152,Tryz.ntmps152
 go_wp2_with fail
 refine hc.mono ?_
 rintro e w1 ⟨rfl,hL⟩
 clear hc
 have HL:Hid (Left M (w.alloc (.cells #[.func (.func i) #[r] #[],.func (.func j) #[r] #[]] 101)) F b (sn s m V) w1):=hL
 clear hL
 go_wp2
 go_ret
 exact⟨rfl,HL.out.of_alloc⟩
theorem two_new' (w:World)(F:Fr)(A:At)(G:Fr)(B:At):FrAt ((w.alloc (.cells (frC F A) 41)).alloc (.cells (frC G B) 41)) w.heap.size F A/\FrAt ((w.alloc (.cells (frC F A) 41)).alloc (.cells (frC G B) 41)) (w.heap.size+1) G B:=
 ⟨(FrAt.new w F A).alloc _,by simpa using FrAt.new (w.alloc (.cells (frC F A) 41)) G B⟩
theorem frL_nou8 (F:Fr)(A:At)(k:Nat)(x:Int):(frL F A)[k]?≠some (.int .u8 x):=by
 intro h
 have:=List.mem_of_getElem? h
 simp[frL] at this
theorem FrAt.apart {w:World}{g:Nat}{F:Fr}{A:At}(h:FrAt w g F A){x:Option Addr}{c:Nat}{l:List UInt8}(hs:Sees w x c l):∀ b off,x=some ⟨b,off,none⟩->l≠[]->b≠g:=by
 rintro b off rfl hne rfl
 obtain⟨b',off',he,hc⟩:=hs.at' hne
 simp only[Option.some.injEq,Addr.mk.injEq] at he
 obtain⟨rfl,rfl,_⟩:=he
 obtain⟨z,hz⟩:∃ z,l[0]?=some z:=⟨l[0]'(List.length_pos_iff.2 hne),by simp⟩
 have h1:=hc 0 z hz
 rw[cell_of_row w _ (off+0) _ _ _ h] at h1
 exact frL_nou8 F A _ _ (by simpa [frC] using h1)
theorem Sees.set {w:World}{x:Option Addr}{c:Nat}{l:List UInt8}(hs:Sees w x c l){g q:Nat}(u:Value)(hn:∀ b off,x=some ⟨b,off,none⟩->l≠[]->b≠g):Sees (w.setCell ⟨g,q,none⟩ u) x c l:=
 ⟨hs.fits, hs.room, hs.bare, fun hne => by
   obtain ⟨b, off, ha, hc⟩ := hs.at' hne
   refine ⟨b, off, ha, fun k y hy => ?_⟩
   rw [World.cell?_of_block (w := w) (by rw [heap_setCell_other _ _ _ _ (hn b off ha hne)]), hc k y hy]⟩
theorem Sees.lt {w:World}{x:Option Addr}{c:Nat}{l:List UInt8}(hs:Sees w x c l):∀ b off,x=some ⟨b,off,none⟩->l≠[]->b<w.heap.size:=by
 rintro b off rfl hne
 obtain⟨b',off',he,hc⟩:=hs.at' hne
 simp only[Option.some.injEq,Addr.mk.injEq] at he
 obtain⟨rfl,rfl,_⟩:=he
 obtain⟨z,hz⟩:∃ z,l[0]?=some z:=⟨l[0]'(List.length_pos_iff.2 hne),by simp⟩
 exact World.block_lt_of_cell? w _ (hc 0 z hz)
structure Clears (F:Nat->Prop)(G:Fr)(A:At):Prop where
 key:Clear F A.ka G.key
 body:Clear F A.ba G.body
 tag:Clear F A.ta G.tag
structure Mid {σ:Type}(i j:Nat)(r:Value)(M:World->Nat->σ->(Nat->Prop)->Prop)(b:Nat)(w:World)(F0 F1:Nat->Prop)(s:σ)(G:Fr)(A:At)(W:World):Prop where
 hand:W.heap[w.heap.size]?=some (.cells #[.func (.func i) #[r] #[],.func (.func j) #[r] #[]] 101 (0,0))
 fr:FrAt W (w.heap.size+1) G A
 res:FrAt W (w.heap.size+2) Fr.zero At.zero
 obj:M W b s F1
 sub:∀ k,F1 k->F0 k\/w.heap.size+3<=k
 clear:Clears F1 G A
 seen:Seen W G A
 apart:Apart F0 w W
 lt:∀ k,F0 k->k<w.heap.size
theorem Mid.cells {σ:Type}{i j:Nat}{r:Value}{M:World->Nat->σ->(Nat->Prop)->Prop}{b:Nat}{w:World}{F0 F1:Nat->Prop}{s:σ}{G:Fr}{A:At}{W:World}(h:Mid i j r M b w F0 F1 s G A W):
  W.cell? ⟨w.heap.size,0,none⟩=some (.func (.func i) #[r] #[])/\W.cell? ⟨w.heap.size,1,none⟩=some (.func (.func j) #[r] #[]):=⟨cell_of_row _ _ 0 _ _ _ h.hand,cell_of_row _ _ 1 _ _ _ h.hand⟩
theorem Mid.start {σ:Type}{i j:Nat}{r:Value}{M:World->Nat->σ->(Nat->Prop)->Prop}{b:Nat}{fn:σ->Nat->Nat->Nat}{sn:σ->Nat->Nat->σ}{fl:σ->List UInt8->Nat->List UInt8}{sl:σ->List UInt8->Nat->σ}(H:Hand i j r M b fn sn fl sl)(w:World)(s:σ)(F0:Nat->Prop)(G:Fr)(A:At)(hm:M w b s F0)(hs:Seen w G A)(hc:Clears F0 G A):
  Mid i j r M b w F0 F0 s G A (((w.alloc (.cells #[.func (.func i) #[r] #[],.func (.func j) #[r] #[]] 101)).alloc (.cells (frC G A) 41)).alloc (.cells (frC Fr.zero At.zero) 41)):=by
 obtain⟨w1,hw1⟩:∃ w1,w1=w.alloc (.cells #[.func (.func i) #[r] #[],.func (.func j) #[r] #[]] 101):=⟨_,rfl⟩
 have z1:w1.heap.size=w.heap.size+1:=by rw[hw1];simp
 have b1:Below w.heap.size w w1:=by rw[hw1];exact Go.Joins.below_alloc1 _ _
 have g1:w1.heap[w.heap.size]?=some (.cells #[.func (.func i) #[r] #[],.func (.func j) #[r] #[]] 101 (0,0)):=by rw[hw1];exact heap_alloc_new _ _
 rw[<-hw1]
 obtain⟨h1,h2⟩:=two_new' w1 G A Fr.zero At.zero
 have b2:Below w1.heap.size w1 ((w1.alloc (.cells (frC G A) 41)).alloc (.cells (frC Fr.zero At.zero) 41)):=Go.Joins.below_alloc2 _ _ _
 have b3:=b1.trans (b2.mono b1.size)
 rw[z1] at h1 h2
 exact⟨by rw[b2.block _ (by omega)];exact g1,h1,h2,H.kept.below hm b3,λk hk=>.inl hk,hc,hs.below b3,Apart.of_below b3,H.kept.lt hm⟩
theorem Mid.keeps {σ:Type}{i j:Nat}{r:Value}{M:World->Nat->σ->(Nat->Prop)->Prop}{b:Nat}{fn:σ->Nat->Nat->Nat}{sn:σ->Nat->Nat->σ}{fl:σ->List UInt8->Nat->List UInt8}{sl:σ->List UInt8->Nat->σ}(_:Hand i j r M b fn sn fl sl){w:World}{F0 F1 F2:Nat->Prop}{s s':σ}{G:Fr}{A:At}{W W1:World}(h:Mid i j r M b w F0 F1 s G A W)(hm:M W1 b s' F2)(ha:Apart F1 W W1)(hf:∀ k,F2 k->F1 k\/W.heap.size<=k):Mid i j r M b w F0 F2 s' G A W1:=by
 have hlt:=h.res.lt
 have no:∀ k,w.heap.size<=k->k<w.heap.size+3->¬ F1 k:=λk h1 h2 hk=>by
  rcases h.sub k hk with h3|h3
  ·have:=h.lt k h3;omega
  ·omega
 have bl:∀ k,w.heap.size<=k->k<w.heap.size+3->W1.heap[k]?=W.heap[k]?:=λk h1 h2=>ha.block k (by omega) (no k h1 h2)
 have cl:∀ (x:Option Addr) (c:Nat) (l:List UInt8),Sees W x c l->Clear F1 x l->Clear F2 x l:=λx c l hs hc b off e hne hb=>by
  rcases hf b hb with h3|h3
  ·exact hc b off e hne h3
  ·have:=hs.lt b off e hne;omega
 refine⟨by rw[bl _ (by omega) (by omega)];exact h.hand,h.fr.keep (bl _ (by omega) (by omega)),h.res.keep (bl _ (by omega) (by omega)),hm,λk hk=>?_,⟨cl _ _ _ h.seen.key h.clear.key,cl _ _ _ h.seen.body h.clear.body,cl _ _ _ h.seen.tag h.clear.tag⟩,
  ⟨ha.sees h.seen.key h.clear.key,ha.sees h.seen.body h.clear.body,ha.sees h.seen.tag h.clear.tag⟩,h.apart.trans ha λk hk=>?_,h.lt⟩
 ·rcases hf k hk with h3|h3
  ·exact h.sub k h3
  ·right;omega
 ·rcases h.sub k hk with h3|h3
  ·exact .inl h3
  ·right;omega
theorem Mid.call {σ:Type}{i j:Nat}{r:Value}{M:World->Nat->σ->(Nat->Prop)->Prop}{b:Nat}{fn:σ->Nat->Nat->Nat}{sn:σ->Nat->Nat->σ}{fl:σ->List UInt8->Nat->List UInt8}{sl:σ->List UInt8->Nat->σ}(H:Hand i j r M b fn sn fl sl){w:World}{F0 F1:Nat->Prop}{s s':σ}{G:Fr}{A:At}{W W1:World}(h:Mid i j r M b w F0 F1 s G A W)(hL:Left M W F1 b s' W1):∃ F2,Mid i j r M b w F0 F2 s' G A W1:=by
 obtain⟨F2,hm,ha,hf⟩:=hL
 exact⟨F2,h.keeps H hm ha hf⟩
theorem Mid.set {σ:Type}{i j:Nat}{r:Value}{M:World->Nat->σ->(Nat->Prop)->Prop}{b:Nat}{fn:σ->Nat->Nat->Nat}{sn:σ->Nat->Nat->σ}{fl:σ->List UInt8->Nat->List UInt8}{sl:σ->List UInt8->Nat->σ}(H:Hand i j r M b fn sn fl sl){w:World}{F0 F1:Nat->Prop}{s:σ}{G:Fr}{A:At}{W:World}(h:Mid i j r M b w F0 F1 s G A W)(q:Nat)(u:Value)(G':Fr)(A':At)(hl:(frL G A).set q u=frL G' A')(hs:Seen W G' A')(hc:Clears F1 G' A'):
  Mid i j r M b w F0 F1 s G' A' (W.setCell ⟨w.heap.size+1,q,none⟩ u):=by
 have no:¬ F1 (w.heap.size+1):=λhk=>by
  rcases h.sub _ hk with h3|h3
  ·have:=h.lt _ h3;omega
  ·omega
 have ot:∀ k,k≠w.heap.size+1->(W.setCell ⟨w.heap.size+1,q,none⟩ u).heap[k]?=W.heap[k]?:=λk hk=>heap_setCell_other _ _ _ _ hk
 exact⟨by rw[ot _ (by omega)];exact h.hand,h.fr.put q u hl,h.res.keep (ot _ (by omega)),H.kept.keep h.obj λk hk=>ot k (λe=>no (e▸hk)),h.sub,hc,
  ⟨hs.key.set u (h.fr.apart hs.key),hs.body.set u (h.fr.apart hs.body),hs.tag.set u (h.fr.apart hs.tag)⟩,h.apart.setCell (.inr (by omega)) q u,h.lt⟩
def pingG {σ:Type}(fn:σ->Nat->Nat->Nat)(sn:σ->Nat->Nat->σ)(s:σ)(F:Fr):Fr×σ:=
 let s1:=sn s F.t.toNat 4
 ({ F with t:=fn s F.t.toNat 4,n:=fn s1 F.n 64 },sn s1 F.n 64)
def pongG {σ:Type}(fn:σ->Nat->Nat->Nat)(sn:σ->Nat->Nat->σ)(fl:σ->List UInt8->Nat->List UInt8)(sl:σ->List UInt8->Nat->σ)(s:σ)(F:Fr):Fr×σ:=
 let p:=pingG fn sn s F
 let s1:=sn p.2 p.1.m.toNat 48
 let s2:=sn s1 p.1.e.toNat 16
 let s3:=sn s2 p.1.s.toNat 24
 let s4:=sn s3 p.1.i.toNat 16
 ({ p.1 with m:=fn p.2 p.1.m.toNat 48,e:=fn s1 p.1.e.toNat 16,s:=fn s2 p.1.s.toNat 24,i:=fn s3 p.1.i.toNat 16,key:=fl s4 p.1.key 16 },sl s4 p.1.key 16)
def dataG {σ:Type}(fn:σ->Nat->Nat->Nat)(sn:σ->Nat->Nat->σ)(fl:σ->List UInt8->Nat->List UInt8)(sl:σ->List UInt8->Nat->σ)(s:σ)(F:Fr):Fr×σ:=
 let s1:=sn s F.e.toNat 16
 let s2:=sn s1 F.r.toNat 24
 let s3:=sn s2 F.v.toNat 8
 let s4:=sn s3 F.i.toNat 16
 let s5:=sl s4 F.key 16
 let s6:=sn s5 F.body.length 5
 let z:=fn s5 F.body.length 5
 ({ F with e:=fn s F.e.toNat 16,r:=fn s1 F.r.toNat 24,v:=fn s2 F.v.toNat 8,i:=fn s3 F.i.toNat 16,key:=fl s4 F.key 16,body:=fl s6 F.body z },sl s6 F.body z)
def coreG {σ:Type}(fn:σ->Nat->Nat->Nat)(sn:σ->Nat->Nat->σ)(fl:σ->List UInt8->Nat->List UInt8)(sl:σ->List UInt8->Nat->σ)(s:σ)(F:Fr):Fr×σ:=
 let s1:=sn s F.k.toNat 4
 let s2:=sn s1 F.f.toNat 4
 let G:Fr:={ F with k:=fn s F.k.toNat 4,f:=fn s1 F.f.toNat 4 }
 if G.k=1 then dataG fn sn fl sl s2 G else if G.k=2 then pingG fn sn s2 G else if G.k=3 then pongG fn sn fl sl s2 G else (G,s2)
def wholeG {σ:Type}(fn:σ->Nat->Nat->Nat)(sn:σ->Nat->Nat->σ)(fl:σ->List UInt8->Nat->List UInt8)(sl:σ->List UInt8->Nat->σ)(s:σ)(F:Fr):Fr×σ:=
 let p:=coreG fn sn fl sl s F
 ({ p.1 with tag:=fl p.2 p.1.tag 8 },sl p.2 p.1.tag 8)
structure InR0 (F:Fr):Prop where
 k:0<=F.k/\F.k<9223372036854775808
 f:0<=F.f/\F.f<9223372036854775808
 t:0<=F.t/\F.t<9223372036854775808
 e:0<=F.e/\F.e<9223372036854775808
 s:0<=F.s/\F.s<9223372036854775808
 r:0<=F.r/\F.r<9223372036854775808
 n:F.n<18446744073709551616
 m:0<=F.m/\F.m<9223372036854775808
 v:0<=F.v/\F.v<9223372036854775808
 i:0<=F.i/\F.i<9223372036854775808
def Leaves {σ:Type}(M:World->Nat->σ->(Nat->Prop)->Prop)(b:Nat)(w:World)(F0:Nat->Prop)(p:Fr×σ)(e:Ending)(w':World):Prop:=
 ∃ A' F',e=.returned (.agg (frC p.1 A'))/\M w' b p.2 F'/\Apart F0 w w'/\(∀ k,F' k->F0 k\/w.heap.size<=k)/\Seen w' p.1 A'/\Clears F' p.1 A'/\InR0 p.1
theorem Mid.stored {σ:Type}{i j:Nat}{r:Value}{M:World->Nat->σ->(Nat->Prop)->Prop}{b:Nat}{fn:σ->Nat->Nat->Nat}{sn:σ->Nat->Nat->σ}{fl:σ->List UInt8->Nat->List UInt8}{sl:σ->List UInt8->Nat->σ}(H:Hand i j r M b fn sn fl sl){w:World}{F0 F1:Nat->Prop}{s:σ}{G:Fr}{A:At}{W:World}(h:Mid i j r M b w F0 F1 s G A W)(hr:InR0 G):
  ∃ W',(Instr.storeAt 41 (.pointer (some ⟨w.heap.size+2,0,none⟩)) (.agg (frC G A))).run Tryz.prog W=.ok () W'/\FrAt W' (w.heap.size+2) G A/\Leaves M b w F0 (G,s) (.returned (.agg (frC G A))) W':=by
 have no:¬ F1 (w.heap.size+2):=λhk=>by
  rcases h.sub _ hk with h3|h3
  ·have:=h.lt _ h3;omega
  ·omega
 have ot:∀ k,k≠w.heap.size+2->(W.setRow (w.heap.size+2) (frC G A)).heap[k]?=W.heap[k]?:=λk hk=>setRow_other _ _ _ _ hk
 have hb:∀ (x:Option Addr) (c:Nat) (l:List UInt8),Sees W x c l->Sees (W.setRow (w.heap.size+2) (frC G A)) x c l:=λx c l hs=>
  ⟨hs.fits, hs.room, hs.bare, fun hne => by
    obtain ⟨b', off, ha, hc⟩ := hs.at' hne
    refine ⟨b', off, ha, fun k y hy => ?_⟩
    rw [World.cell?_of_block (w := W) (ot b' (h.res.apart hs b' off ha hne)), hc k y hy]⟩
 refine⟨_,h.res.stores G A,h.res.stored G A,A,F1,rfl,H.kept.keep h.obj (λk hk=>ot k (λe=>no (e▸hk))),?_,λk hk=>?_,⟨hb _ _ _ h.seen.key,hb _ _ _ h.seen.body,hb _ _ _ h.seen.tag⟩,h.clear,hr⟩
 ·refine⟨h.apart.os,h.apart.tape,h.apart.output,Nat.le_trans h.apart.size (by simp),λk hk hn=>?_⟩
  rw[ot k (by omega)];exact h.apart.block k hk hn
 ·rcases h.sub k hk with h3|h3
  ·exact .inl h3
  ·right;omega
theorem Mid.put {σ:Type}{i j:Nat}{r:Value}{M:World->Nat->σ->(Nat->Prop)->Prop}{b:Nat}{fn:σ->Nat->Nat->Nat}{sn:σ->Nat->Nat->σ}{fl:σ->List UInt8->Nat->List UInt8}{sl:σ->List UInt8->Nat->σ}(H:Hand i j r M b fn sn fl sl){w:World}{F0 F1:Nat->Prop}{s:σ}{G:Fr}{A:At}{W:World}(h:Mid i j r M b w F0 F1 s G A W)(G':Fr)(A':At)(hs:Seen W G' A')(hc:Clears F1 G' A'):
  ∃ W',(Instr.storeAt 41 (.pointer (some ⟨w.heap.size+1,0,none⟩)) (.agg (frC G' A'))).run Tryz.prog W=.ok () W'/\Mid i j r M b w F0 F1 s G' A' W':=by
 have no:¬ F1 (w.heap.size+1):=λhk=>by
  rcases h.sub _ hk with h3|h3
  ·have:=h.lt _ h3;omega
  ·omega
 have ot:∀ k,k≠w.heap.size+1->(W.setRow (w.heap.size+1) (frC G' A')).heap[k]?=W.heap[k]?:=λk hk=>setRow_other _ _ _ _ hk
 have hb:∀ (x:Option Addr) (c:Nat) (l:List UInt8),Sees W x c l->Sees (W.setRow (w.heap.size+1) (frC G' A')) x c l:=λx c l hs=>
  ⟨hs.fits, hs.room, hs.bare, fun hne => by
    obtain ⟨b', off, ha, hc⟩ := hs.at' hne
    refine ⟨b', off, ha, fun k y hy => ?_⟩
    rw [World.cell?_of_block (w := W) (ot b' (h.fr.apart hs b' off ha hne)), hc k y hy]⟩
 refine⟨_,h.fr.stores G' A',by rw[ot _ (by omega)];exact h.hand,h.fr.stored G' A',h.res.keep (ot _ (by omega)),H.kept.keep h.obj (λk hk=>ot k (λe=>no (e▸hk))),h.sub,hc,⟨hb _ _ _ hs.key,hb _ _ _ hs.body,hb _ _ _ hs.tag⟩,?_,h.lt⟩
 refine⟨h.apart.os,h.apart.tape,h.apart.output,Nat.le_trans h.apart.size (by simp),λk hk hn=>?_⟩
 rw[ot k (by omega)];exact h.apart.block k hk hn
theorem Mid.leaves {σ:Type}{i j:Nat}{r:Value}{M:World->Nat->σ->(Nat->Prop)->Prop}{b:Nat}{fn:σ->Nat->Nat->Nat}{sn:σ->Nat->Nat->σ}{fl:σ->List UInt8->Nat->List UInt8}{sl:σ->List UInt8->Nat->σ}(H:Hand i j r M b fn sn fl sl){w:World}{F0 F1:Nat->Prop}{s:σ}{G:Fr}{A:At}{W W1:World}{p:Fr×σ}{e:Ending}(h:Mid i j r M b w F0 F1 s G A W)(hL:Leaves M b W F1 p e W1):
  ∃ A' F2,e=.returned (.agg (frC p.1 A'))/\Mid i j r M b w F0 F2 p.2 G A W1/\Seen W1 p.1 A'/\Clears F2 p.1 A'/\InR0 p.1:=by
 obtain⟨A',F2,he,hm,ha,hf,hs,hc,hr⟩:=hL
 exact⟨A',F2,he,h.keeps H hm ha hf,hs,hc,hr⟩
theorem ping_ok {σ:Type}{i j:Nat}{r:Value}{M:World->Nat->σ->(Nat->Prop)->Prop}{b:Nat}{fn:σ->Nat->Nat->Nat}{sn:σ->Nat->Nat->σ}{fl:σ->List UInt8->Nat->List UInt8}{sl:σ->List UInt8->Nat->σ}(H:Hand i j r M b fn sn fl sl)(w:World)(s0:σ)(F0:Nat->Prop)(G0:Fr)(A0:At)(hm:M w b s0 F0)(hs:Seen w G0 A0)(hcl:Clears F0 G0 A0)(hR:InR0 G0):
  Calls Tryz.prog 116 #[.agg #[.func (.func i) #[r] #[],.func (.func j) #[r] #[]],.agg (frC G0 A0)] w λe w'=>Leaves M b w F0 (pingG fn sn s0 G0) e w':=by
 have hM0:=Mid.start H w s0 F0 G0 A0 hm hs hcl
 have HM0:Hid (Mid i j r M b w F0 F0 s0 G0 A0 (((w.alloc (.cells #[.func (.func i) #[r] #[],.func (.func j) #[r] #[]] 101)).alloc (.cells (frC G0 A0) 41)).alloc (.cells #[.int .i64 0,.int .i64 0,.int .i64 0,.int .i64 0,.int .i64 0,.int .i64 0,.int .u64 0,.int .i64 0,.int .i64 0,.int .i64 0,.slice none 0 0,.slice none 0 0,.slice none 0 0] 41))):=hM0
 have HR0:Hid (InR0 G0):=hR
 have HH:Hid (Hand i j r M b fn sn fl sl):=H
 have hen:=H.ei
 have hej:=H.ej
 clear hM0 hR hm hs hcl H
 go_enter Tryz.func116,Tryz.ntmps116
 go_upto_region 1 with fail
 generalize ((w.alloc (Obj.cells #[Value.func (Fn.func i) #[r] #[],Value.func (Fn.func j) #[r] #[]] 101)).alloc (Obj.cells (frC G0 A0) 41)).alloc (Obj.cells #[.int .i64 0,.int .i64 0,.int .i64 0,.int .i64 0,.int .i64 0,.int .i64 0,.int .u64 0,.int .i64 0,.int .i64 0,.int .i64 0,.slice none 0 0,.slice none 0 0,.slice none 0 0] 41)=X0 at *
 have y0:=HM0.out.cells.1
 have y1:=HM0.out.cells.2
 have c2:=HM0.out.fr.c2
 have hc:=numI_ok HH.out X0 s0 F0 G0.t 4 HM0.out.obj HR0.out.t.1 HR0.out.t.2 (by omega)
 have bx1:=HH.out.lt s0 G0.t.toNat 4 (by have:=HR0.out.t;omega) (by omega)
 obtain⟨x1,ex1⟩:∃ x,x=fn s0 (G0.t.toNat) 4:=⟨_,rfl⟩
 obtain⟨s1,es1⟩:∃ t,t=sn s0 (G0.t.toNat) 4:=⟨_,rfl⟩
 obtain⟨G1,eG1⟩:∃ g:Fr,g={ G0 with t:=x1 }:=⟨_,rfl⟩
 rw[<-ex1] at hc bx1
 rw[<-es1] at hc
 have HR1:Hid (InR0 G1):=by
  rw[eG1]
  exact⟨HR0.out.k,HR0.out.f,⟨Int.natCast_nonneg _,by dsimp only;omega⟩,HR0.out.e,HR0.out.s,HR0.out.r,HR0.out.n,HR0.out.m,HR0.out.v,HR0.out.i⟩
 have EQ1:Hid (x1=fn s0 (G0.t.toNat) 4/\s1=sn s0 (G0.t.toNat) 4/\G1={ G0 with t:=x1 }):=⟨ex1,es1,eG1⟩
 clear ex1 es1 eG1 bx1
 go_wp2_with fail
 refine hc.mono ?_
 rintro e V1 ⟨rfl,hL⟩
 obtain⟨F1,hM⟩:=HM0.out.call HH.out hL
 have d2:=hM.fr.c2
 have z2:=hM.fr.fz 2
 have HM1:Hid (Mid i j r M b w F0 F1 s1 G1 A0 (V1.setCell ⟨w.heap.size+1,2,none⟩ (.int .i64 (x1:Int)))):=
  hM.set HH.out 2 _ G1 A0 (by rw[EQ1.out.2.2];rfl) (by rw[EQ1.out.2.2];exact⟨hM.seen.key,hM.seen.body,hM.seen.tag⟩) (by rw[EQ1.out.2.2];exact⟨hM.clear.key,hM.clear.body,hM.clear.tag⟩)
 clear y0 y1 c2 hc hL hM
 go_upto_region 2 with fail
 clear d2 z2
 generalize V1.setCell ⟨w.heap.size+1,2,none⟩ (.int .i64 (x1:Int))=X1 at *
 have y0:=HM1.out.cells.1
 have y1:=HM1.out.cells.2
 have c6:=HM1.out.fr.c6
 have hc:=numU_ok HH.out X1 s1 F1 G1.n 64 HM1.out.obj HR1.out.n (by omega)
 have bx2:=HH.out.lt64 s1 G1.n 64 HR1.out.n (by omega)
 obtain⟨x2,ex2⟩:∃ x,x=fn s1 (G1.n) 64:=⟨_,rfl⟩
 obtain⟨s2,es2⟩:∃ t,t=sn s1 (G1.n) 64:=⟨_,rfl⟩
 obtain⟨G2,eG2⟩:∃ g:Fr,g={ G1 with n:=x2 }:=⟨_,rfl⟩
 rw[<-ex2] at hc bx2
 rw[<-es2] at hc
 have HR2:Hid (InR0 G2):=by
  rw[eG2]
  exact⟨HR1.out.k,HR1.out.f,HR1.out.t,HR1.out.e,HR1.out.s,HR1.out.r,bx2,HR1.out.m,HR1.out.v,HR1.out.i⟩
 have EQ2:Hid (x2=fn s1 (G1.n) 64/\s2=sn s1 (G1.n) 64/\G2={ G1 with n:=x2 }):=⟨ex2,es2,eG2⟩
 clear ex2 es2 eG2 bx2
 go_wp2_with fail
 refine hc.mono ?_
 rintro e V2 ⟨rfl,hL⟩
 obtain⟨F2,hM⟩:=HM1.out.call HH.out hL
 have d6:=hM.fr.c6
 have z6:=hM.fr.fz 6
 have HM2:Hid (Mid i j r M b w F0 F2 s2 G2 A0 (V2.setCell ⟨w.heap.size+1,6,none⟩ (.int .u64 (x2:Int)))):=
  hM.set HH.out 6 _ G2 A0 (by rw[EQ2.out.2.2];rfl) (by rw[EQ2.out.2.2];exact⟨hM.seen.key,hM.seen.body,hM.seen.tag⟩) (by rw[EQ2.out.2.2];exact⟨hM.clear.key,hM.clear.body,hM.clear.tag⟩)
 clear y0 y1 c6 hc hL hM
 go_upto_region 3 with fail
 clear d6 z6
 generalize V2.setCell ⟨w.heap.size+1,6,none⟩ (.int .u64 (x2:Int))=X2 at *
 have HL:Hid ((Instr.loadAt 41 (.pointer (some ⟨w.heap.size+1,0,none⟩))).run Tryz.prog X2=.ok (.agg (frC G2 A0)) X2):=HM2.out.fr.loads
 obtain⟨Y,hst,hY,hlv⟩:=HM2.out.stored HH.out HR2.out
 have HST:Hid ((Instr.storeAt 41 (.pointer (some ⟨w.heap.size+2,0,none⟩)) (.agg (frC G2 A0))).run Tryz.prog X2=.ok () Y):=hst
 have HY:Hid (FrAt Y (w.heap.size+2) G2 A0):=hY
 have HLV:Hid (Leaves M b w F0 (G2,s2) (.returned (.agg (frC G2 A0))) Y):=hlv
 clear hst hY hlv
 go_wp2_with (first|(refine wpList_gload_run rfl 41 _ rfl _ _ rfl HL.out ?_)|(refine wpList_store_run rfl 41 _ _ rfl _ _ rfl rfl HST.out ?_)|fail)
 refine bodyPost_ret (res_fr rfl rfl HY.out) rfl ?_
 have hE:(G2,s2)=pingG fn sn s0 G0:=by
  have e1:=EQ1.out
  have e2:=EQ2.out
  obtain⟨u2,v2,w2⟩:=e2
  obtain⟨u1,v1,w1⟩:=e1
  subst w2 v2
  subst w1 v1
  subst u2
  subst u1
  rfl
 rw[<-hE]
 exact HLV.out
theorem data_ok {σ:Type}{i j:Nat}{r:Value}{M:World->Nat->σ->(Nat->Prop)->Prop}{b:Nat}{fn:σ->Nat->Nat->Nat}{sn:σ->Nat->Nat->σ}{fl:σ->List UInt8->Nat->List UInt8}{sl:σ->List UInt8->Nat->σ}(H:Hand i j r M b fn sn fl sl)(w:World)(s0:σ)(F0:Nat->Prop)(G0:Fr)(A0:At)(hm:M w b s0 F0)(hs:Seen w G0 A0)(hcl:Clears F0 G0 A0)(hR:InR0 G0)(hB:G0.body.length<=16):
  Calls Tryz.prog 115 #[.agg #[.func (.func i) #[r] #[],.func (.func j) #[r] #[]],.agg (frC G0 A0)] w λe w'=>Leaves M b w F0 (dataG fn sn fl sl s0 G0) e w':=by
 have hM0:=Mid.start H w s0 F0 G0 A0 hm hs hcl
 have HM0:Hid (Mid i j r M b w F0 F0 s0 G0 A0 (((w.alloc (.cells #[.func (.func i) #[r] #[],.func (.func j) #[r] #[]] 101)).alloc (.cells (frC G0 A0) 41)).alloc (.cells #[.int .i64 0,.int .i64 0,.int .i64 0,.int .i64 0,.int .i64 0,.int .i64 0,.int .u64 0,.int .i64 0,.int .i64 0,.int .i64 0,.slice none 0 0,.slice none 0 0,.slice none 0 0] 41))):=hM0
 have HR0:Hid (InR0 G0):=hR
 have HH:Hid (Hand i j r M b fn sn fl sl):=H
 have hen:=H.ei
 have hej:=H.ej
 clear hM0 hR hm hs hcl H
 go_enter Tryz.func115,Tryz.ntmps115
 go_upto_region 1 with fail
 generalize ((w.alloc (Obj.cells #[Value.func (Fn.func i) #[r] #[],Value.func (Fn.func j) #[r] #[]] 101)).alloc (Obj.cells (frC G0 A0) 41)).alloc (Obj.cells #[.int .i64 0,.int .i64 0,.int .i64 0,.int .i64 0,.int .i64 0,.int .i64 0,.int .u64 0,.int .i64 0,.int .i64 0,.int .i64 0,.slice none 0 0,.slice none 0 0,.slice none 0 0] 41)=X0 at *
 have HB:Hid (G0.body.length<=16):=hB
 clear hB
 have y0:=HM0.out.cells.1
 have y1:=HM0.out.cells.2
 have c3:=HM0.out.fr.c3
 have hc:=numI_ok HH.out X0 s0 F0 G0.e 16 HM0.out.obj HR0.out.e.1 HR0.out.e.2 (by omega)
 have bx1:=HH.out.lt s0 G0.e.toNat 16 (by have:=HR0.out.e;omega) (by omega)
 obtain⟨x1,ex1⟩:∃ x,x=fn s0 (G0.e.toNat) 16:=⟨_,rfl⟩
 obtain⟨s1,es1⟩:∃ t,t=sn s0 (G0.e.toNat) 16:=⟨_,rfl⟩
 obtain⟨G1,eG1⟩:∃ g:Fr,g={ G0 with e:=x1 }:=⟨_,rfl⟩
 rw[<-ex1] at hc bx1
 rw[<-es1] at hc
 have HR1:Hid (InR0 G1):=by
  rw[eG1]
  exact⟨HR0.out.k,HR0.out.f,HR0.out.t,⟨Int.natCast_nonneg _,by dsimp only;omega⟩,HR0.out.s,HR0.out.r,HR0.out.n,HR0.out.m,HR0.out.v,HR0.out.i⟩
 have EQ1:Hid (x1=fn s0 (G0.e.toNat) 16/\s1=sn s0 (G0.e.toNat) 16/\G1={ G0 with e:=x1 }):=⟨ex1,es1,eG1⟩
 clear ex1 es1 eG1 bx1
 go_wp2_with fail
 refine hc.mono ?_
 rintro e V1 ⟨rfl,hL⟩
 obtain⟨F1,hM⟩:=HM0.out.call HH.out hL
 have d3:=hM.fr.c3
 have z3:=hM.fr.fz 3
 have HM1:Hid (Mid i j r M b w F0 F1 s1 G1 A0 (V1.setCell ⟨w.heap.size+1,3,none⟩ (.int .i64 (x1:Int)))):=
  hM.set HH.out 3 _ G1 A0 (by rw[EQ1.out.2.2];rfl) (by rw[EQ1.out.2.2];exact⟨hM.seen.key,hM.seen.body,hM.seen.tag⟩) (by rw[EQ1.out.2.2];exact⟨hM.clear.key,hM.clear.body,hM.clear.tag⟩)
 clear y0 y1 c3 hc hL hM
 go_upto_region 2 with fail
 clear d3 z3
 generalize V1.setCell ⟨w.heap.size+1,3,none⟩ (.int .i64 (x1:Int))=X1 at *
 have y0:=HM1.out.cells.1
 have y1:=HM1.out.cells.2
 have c5:=HM1.out.fr.c5
 have hc:=numI_ok HH.out X1 s1 F1 G1.r 24 HM1.out.obj HR1.out.r.1 HR1.out.r.2 (by omega)
 have bx2:=HH.out.lt s1 G1.r.toNat 24 (by have:=HR1.out.r;omega) (by omega)
 obtain⟨x2,ex2⟩:∃ x,x=fn s1 (G1.r.toNat) 24:=⟨_,rfl⟩
 obtain⟨s2,es2⟩:∃ t,t=sn s1 (G1.r.toNat) 24:=⟨_,rfl⟩
 obtain⟨G2,eG2⟩:∃ g:Fr,g={ G1 with r:=x2 }:=⟨_,rfl⟩
 rw[<-ex2] at hc bx2
 rw[<-es2] at hc
 have HR2:Hid (InR0 G2):=by
  rw[eG2]
  exact⟨HR1.out.k,HR1.out.f,HR1.out.t,HR1.out.e,HR1.out.s,⟨Int.natCast_nonneg _,by dsimp only;omega⟩,HR1.out.n,HR1.out.m,HR1.out.v,HR1.out.i⟩
 have EQ2:Hid (x2=fn s1 (G1.r.toNat) 24/\s2=sn s1 (G1.r.toNat) 24/\G2={ G1 with r:=x2 }):=⟨ex2,es2,eG2⟩
 clear ex2 es2 eG2 bx2
 go_wp2_with fail
 refine hc.mono ?_
 rintro e V2 ⟨rfl,hL⟩
 obtain⟨F2,hM⟩:=HM1.out.call HH.out hL
 have d5:=hM.fr.c5
 have z5:=hM.fr.fz 5
 have HM2:Hid (Mid i j r M b w F0 F2 s2 G2 A0 (V2.setCell ⟨w.heap.size+1,5,none⟩ (.int .i64 (x2:Int)))):=
  hM.set HH.out 5 _ G2 A0 (by rw[EQ2.out.2.2];rfl) (by rw[EQ2.out.2.2];exact⟨hM.seen.key,hM.seen.body,hM.seen.tag⟩) (by rw[EQ2.out.2.2];exact⟨hM.clear.key,hM.clear.body,hM.clear.tag⟩)
 clear y0 y1 c5 hc hL hM
 go_upto_region 3 with fail
 clear d5 z5
 generalize V2.setCell ⟨w.heap.size+1,5,none⟩ (.int .i64 (x2:Int))=X2 at *
 have y0:=HM2.out.cells.1
 have y1:=HM2.out.cells.2
 have c8:=HM2.out.fr.c8
 have hc:=numI_ok HH.out X2 s2 F2 G2.v 8 HM2.out.obj HR2.out.v.1 HR2.out.v.2 (by omega)
 have bx3:=HH.out.lt s2 G2.v.toNat 8 (by have:=HR2.out.v;omega) (by omega)
 obtain⟨x3,ex3⟩:∃ x,x=fn s2 (G2.v.toNat) 8:=⟨_,rfl⟩
 obtain⟨s3,es3⟩:∃ t,t=sn s2 (G2.v.toNat) 8:=⟨_,rfl⟩
 obtain⟨G3,eG3⟩:∃ g:Fr,g={ G2 with v:=x3 }:=⟨_,rfl⟩
 rw[<-ex3] at hc bx3
 rw[<-es3] at hc
 have HR3:Hid (InR0 G3):=by
  rw[eG3]
  exact⟨HR2.out.k,HR2.out.f,HR2.out.t,HR2.out.e,HR2.out.s,HR2.out.r,HR2.out.n,HR2.out.m,⟨Int.natCast_nonneg _,by dsimp only;omega⟩,HR2.out.i⟩
 have EQ3:Hid (x3=fn s2 (G2.v.toNat) 8/\s3=sn s2 (G2.v.toNat) 8/\G3={ G2 with v:=x3 }):=⟨ex3,es3,eG3⟩
 clear ex3 es3 eG3 bx3
 go_wp2_with fail
 refine hc.mono ?_
 rintro e V3 ⟨rfl,hL⟩
 obtain⟨F3,hM⟩:=HM2.out.call HH.out hL
 have d8:=hM.fr.c8
 have z8:=hM.fr.fz 8
 have HM3:Hid (Mid i j r M b w F0 F3 s3 G3 A0 (V3.setCell ⟨w.heap.size+1,8,none⟩ (.int .i64 (x3:Int)))):=
  hM.set HH.out 8 _ G3 A0 (by rw[EQ3.out.2.2];rfl) (by rw[EQ3.out.2.2];exact⟨hM.seen.key,hM.seen.body,hM.seen.tag⟩) (by rw[EQ3.out.2.2];exact⟨hM.clear.key,hM.clear.body,hM.clear.tag⟩)
 clear y0 y1 c8 hc hL hM
 go_upto_region 4 with fail
 clear d8 z8
 generalize V3.setCell ⟨w.heap.size+1,8,none⟩ (.int .i64 (x3:Int))=X3 at *
 have y0:=HM3.out.cells.1
 have y1:=HM3.out.cells.2
 have c9:=HM3.out.fr.c9
 have hc:=numI_ok HH.out X3 s3 F3 G3.i 16 HM3.out.obj HR3.out.i.1 HR3.out.i.2 (by omega)
 have bx4:=HH.out.lt s3 G3.i.toNat 16 (by have:=HR3.out.i;omega) (by omega)
 obtain⟨x4,ex4⟩:∃ x,x=fn s3 (G3.i.toNat) 16:=⟨_,rfl⟩
 obtain⟨s4,es4⟩:∃ t,t=sn s3 (G3.i.toNat) 16:=⟨_,rfl⟩
 obtain⟨G4,eG4⟩:∃ g:Fr,g={ G3 with i:=x4 }:=⟨_,rfl⟩
 rw[<-ex4] at hc bx4
 rw[<-es4] at hc
 have HR4:Hid (InR0 G4):=by
  rw[eG4]
  exact⟨HR3.out.k,HR3.out.f,HR3.out.t,HR3.out.e,HR3.out.s,HR3.out.r,HR3.out.n,HR3.out.m,HR3.out.v,⟨Int.natCast_nonneg _,by dsimp only;omega⟩⟩
 have EQ4:Hid (x4=fn s3 (G3.i.toNat) 16/\s4=sn s3 (G3.i.toNat) 16/\G4={ G3 with i:=x4 }):=⟨ex4,es4,eG4⟩
 clear ex4 es4 eG4 bx4
 go_wp2_with fail
 refine hc.mono ?_
 rintro e V4 ⟨rfl,hL⟩
 obtain⟨F4,hM⟩:=HM3.out.call HH.out hL
 have d9:=hM.fr.c9
 have z9:=hM.fr.fz 9
 have HM4:Hid (Mid i j r M b w F0 F4 s4 G4 A0 (V4.setCell ⟨w.heap.size+1,9,none⟩ (.int .i64 (x4:Int)))):=
  hM.set HH.out 9 _ G4 A0 (by rw[EQ4.out.2.2];rfl) (by rw[EQ4.out.2.2];exact⟨hM.seen.key,hM.seen.body,hM.seen.tag⟩) (by rw[EQ4.out.2.2];exact⟨hM.clear.key,hM.clear.body,hM.clear.tag⟩)
 clear y0 y1 c9 hc hL hM
 go_upto_region 5 with fail
 clear d9 z9
 generalize V4.setCell ⟨w.heap.size+1,9,none⟩ (.int .i64 (x4:Int))=X4 at *
 have y0:=HM4.out.cells.1
 have y1:=HM4.out.cells.2
 have c10:=HM4.out.fr.c10
 have hc:=HH.out.list X4 s4 F4 A0.ka A0.kc G4.key 16 HM4.out.obj HM4.out.seen.key HM4.out.clear.key (by omega)
 obtain⟨s5,es5⟩:∃ t,t=sl s4 G4.key 16:=⟨_,rfl⟩
 rw[<-es5] at hc
 have ES5:Hid (s5=sl s4 G4.key 16):=es5
 clear es5
 go_wp2_with fail
 refine hc.mono ?_
 rintro e V5 ⟨a5,ca5,q5,eq5,rfl,hq,F5,hmm,hap,hsub,hcq⟩
 obtain⟨G5,eG5⟩:∃ g:Fr,g={ G4 with key:=q5 }:=⟨_,rfl⟩
 have hM:=HM4.out.keeps HH.out hmm hap hsub
 have EQ5:Hid (q5=fl s4 G4.key 16/\s5=sl s4 G4.key 16/\G5={ G4 with key:=q5 }):=⟨eq5.out,ES5.out,eG5⟩
 have HR5:Hid (InR0 G5):=by
  rw[eG5]
  exact⟨HR4.out.k,HR4.out.f,HR4.out.t,HR4.out.e,HR4.out.s,HR4.out.r,HR4.out.n,HR4.out.m,HR4.out.v,HR4.out.i⟩
 have d10:=hM.fr.c10
 have z10:=hM.fr.fz 10
 have HM5:Hid (Mid i j r M b w F0 F5 s5 G5 { A0 with ka:=a5,kc:=ca5 } (V5.setCell ⟨w.heap.size+1,10,none⟩ (.slice a5 q5.length ca5))):=
  hM.set HH.out 10 _ G5 { A0 with ka:=a5,kc:=ca5 } (by rw[EQ5.out.2.2];rfl) (by rw[EQ5.out.2.2];exact⟨hq,hM.seen.body,hM.seen.tag⟩) (by rw[EQ5.out.2.2];exact⟨hcq,hM.clear.body,hM.clear.tag⟩)
 clear y0 y1 c10 hc hmm hap hsub hcq hM hq eG5 eq5 ES5
 go_upto_region 6 with fail
 clear d10 z10
 generalize V5.setCell ⟨w.heap.size+1,10,none⟩ (.slice a5 q5.length ca5)=X5 at *
 generalize ({ A0 with ka:=a5,kc:=ca5 }:At)=A5 at *
 have hbl:G5.body.length<=16:=by rw[EQ5.out.2.2];rw[EQ4.out.2.2];rw[EQ3.out.2.2];rw[EQ2.out.2.2];rw[EQ1.out.2.2];exact HB.out
 have y0:=HM5.out.cells.1
 have y1:=HM5.out.cells.2
 have c11:=HM5.out.fr.c11
 have hc:=numI_ok HH.out X5 s5 F5 ((G5.body.length:Nat):Int) 5 HM5.out.obj (Int.natCast_nonneg _) (by omega) (by omega)
 rw[Int.toNat_natCast] at hc
 have bx6:=HH.out.lt5 s5 G5.body.length hbl
 obtain⟨x6,ex6⟩:∃ x,x=fn s5 G5.body.length 5:=⟨_,rfl⟩
 obtain⟨s6,es6⟩:∃ t,t=sn s5 G5.body.length 5:=⟨_,rfl⟩
 rw[<-ex6] at hc bx6
 rw[<-es6] at hc
 have EQ6:Hid (x6=fn s5 G5.body.length 5/\s6=sn s5 G5.body.length 5):=⟨ex6,es6⟩
 clear ex6 es6
 have HBX:Hid (x6<=31):=bx6
 clear bx6
 go_wp2_with fail
 refine hc.mono ?_
 rintro e X6 ⟨rfl,hL⟩
 obtain⟨F6,hM⟩:=HM5.out.call HH.out hL
 have HM6:Hid (Mid i j r M b w F0 F6 s6 G5 A5 X6):=hM
 have HR6:Hid (InR0 G5):=HR5.out
 clear y0 y1 c11 hc hL hM hbl
 have y0:=HM6.out.cells.1
 have y1:=HM6.out.cells.2
 have c11:=HM6.out.fr.c11
 have hc:=HH.out.list X6 s6 F6 A5.ba A5.bc G5.body x6 HM6.out.obj HM6.out.seen.body HM6.out.clear.body HBX.out
 obtain⟨s7,es7⟩:∃ t,t=sl s6 G5.body x6:=⟨_,rfl⟩
 rw[<-es7] at hc
 have ES7:Hid (s7=sl s6 G5.body x6):=es7
 clear es7
 go_wp2_with fail
 refine hc.mono ?_
 rintro e V7 ⟨a7,ca7,q7,eq7,rfl,hq,F7,hmm,hap,hsub,hcq⟩
 obtain⟨G7,eG7⟩:∃ g:Fr,g={ G5 with body:=q7 }:=⟨_,rfl⟩
 have hM:=HM6.out.keeps HH.out hmm hap hsub
 have EQ7:Hid (q7=fl s6 G5.body x6/\s7=sl s6 G5.body x6/\G7={ G5 with body:=q7 }):=⟨eq7.out,ES7.out,eG7⟩
 have HR7:Hid (InR0 G7):=by
  rw[eG7]
  exact⟨HR6.out.k,HR6.out.f,HR6.out.t,HR6.out.e,HR6.out.s,HR6.out.r,HR6.out.n,HR6.out.m,HR6.out.v,HR6.out.i⟩
 have d11:=hM.fr.c11
 have z11:=hM.fr.fz 11
 have HM7:Hid (Mid i j r M b w F0 F7 s7 G7 { A5 with ba:=a7,bc:=ca7 } (V7.setCell ⟨w.heap.size+1,11,none⟩ (.slice a7 q7.length ca7))):=
  hM.set HH.out 11 _ G7 { A5 with ba:=a7,bc:=ca7 } (by rw[EQ7.out.2.2];rfl) (by rw[EQ7.out.2.2];exact⟨hM.seen.key,hq,hM.seen.tag⟩) (by rw[EQ7.out.2.2];exact⟨hM.clear.key,hcq,hM.clear.tag⟩)
 clear y0 y1 c11 hc hmm hap hsub hcq hM hq eG7 eq7 ES7
 go_upto_region 8 with fail
 clear d11 z11
 generalize V7.setCell ⟨w.heap.size+1,11,none⟩ (.slice a7 q7.length ca7)=X7 at *
 generalize ({ A5 with ba:=a7,bc:=ca7 }:At)=A7 at *
 have HL:Hid ((Instr.loadAt 41 (.pointer (some ⟨w.heap.size+1,0,none⟩))).run Tryz.prog X7=.ok (.agg (frC G7 A7)) X7):=HM7.out.fr.loads
 obtain⟨Y,hst,hY,hlv⟩:=HM7.out.stored HH.out HR7.out
 have HST:Hid ((Instr.storeAt 41 (.pointer (some ⟨w.heap.size+2,0,none⟩)) (.agg (frC G7 A7))).run Tryz.prog X7=.ok () Y):=hst
 have HY:Hid (FrAt Y (w.heap.size+2) G7 A7):=hY
 have HLV:Hid (Leaves M b w F0 (G7,s7) (.returned (.agg (frC G7 A7))) Y):=hlv
 clear hst hY hlv
 go_wp2_with (first|(refine wpList_gload_run rfl 41 _ rfl _ _ rfl HL.out ?_)|(refine wpList_store_run rfl 41 _ _ rfl _ _ rfl rfl HST.out ?_)|fail)
 refine bodyPost_ret (res_fr rfl rfl HY.out) rfl ?_
 have hE:(G7,s7)=dataG fn sn fl sl s0 G0:=by
  obtain⟨a1,b1,c1⟩:=EQ1.out
  obtain⟨a2,b2,c2⟩:=EQ2.out
  obtain⟨a3,b3,c3⟩:=EQ3.out
  obtain⟨a4,b4,c4⟩:=EQ4.out
  obtain⟨a5,b5,c5⟩:=EQ5.out
  obtain⟨a7,b7,c7⟩:=EQ7.out
  obtain⟨a6,b6⟩:=EQ6.out
  subst c7 b7 a7 b6 a6 c5 b5 a5 c4 b4 a4 c3 b3 a3 c2 b2 a2 c1 b1 a1
  rfl
 rw[<-hE]
 exact HLV.out
theorem pong_ok {σ:Type}{i j:Nat}{r:Value}{M:World->Nat->σ->(Nat->Prop)->Prop}{b:Nat}{fn:σ->Nat->Nat->Nat}{sn:σ->Nat->Nat->σ}{fl:σ->List UInt8->Nat->List UInt8}{sl:σ->List UInt8->Nat->σ}(H:Hand i j r M b fn sn fl sl)(w:World)(s0:σ)(F0:Nat->Prop)(G0:Fr)(A0:At)(hm:M w b s0 F0)(hs:Seen w G0 A0)(hcl:Clears F0 G0 A0)(hR:InR0 G0):
  Calls Tryz.prog 117 #[.agg #[.func (.func i) #[r] #[],.func (.func j) #[r] #[]],.agg (frC G0 A0)] w λe w'=>Leaves M b w F0 (pongG fn sn fl sl s0 G0) e w':=by
 have hM0:=Mid.start H w s0 F0 G0 A0 hm hs hcl
 have HM0:Hid (Mid i j r M b w F0 F0 s0 G0 A0 (((w.alloc (.cells #[.func (.func i) #[r] #[],.func (.func j) #[r] #[]] 101)).alloc (.cells (frC G0 A0) 41)).alloc (.cells #[.int .i64 0,.int .i64 0,.int .i64 0,.int .i64 0,.int .i64 0,.int .i64 0,.int .u64 0,.int .i64 0,.int .i64 0,.int .i64 0,.slice none 0 0,.slice none 0 0,.slice none 0 0] 41))):=hM0
 have HR0:Hid (InR0 G0):=hR
 have HH:Hid (Hand i j r M b fn sn fl sl):=H
 have hen:=H.ei
 have hej:=H.ej
 clear hM0 hR hm hs hcl H
 go_enter Tryz.func117,Tryz.ntmps117
 go_upto_region 1 with fail
 generalize ((w.alloc (Obj.cells #[Value.func (Fn.func i) #[r] #[],Value.func (Fn.func j) #[r] #[]] 101)).alloc (Obj.cells (frC G0 A0) 41)).alloc (Obj.cells #[.int .i64 0,.int .i64 0,.int .i64 0,.int .i64 0,.int .i64 0,.int .i64 0,.int .u64 0,.int .i64 0,.int .i64 0,.int .i64 0,.slice none 0 0,.slice none 0 0,.slice none 0 0] 41)=X0 at *
 have y0:=HM0.out.cells.1
 have y1:=HM0.out.cells.2
 have HL:Hid ((Instr.loadAt 41 (.pointer (some ⟨w.heap.size+1,0,none⟩))).run Tryz.prog X0=.ok (.agg (frC G0 A0)) X0):=HM0.out.fr.loads
 have hc:=ping_ok HH.out X0 s0 F0 G0 A0 HM0.out.obj HM0.out.seen HM0.out.clear HR0.out
 obtain⟨p1,ep1⟩:∃ p,p=pingG fn sn s0 G0:=⟨_,rfl⟩
 rw[<-ep1] at hc
 have EQ1:Hid (p1=pingG fn sn s0 G0):=ep1
 clear ep1
 go_wp2_with (first|(refine wpList_gload_run rfl 41 _ rfl _ _ rfl HL.out ?_)|fail)
 refine hc.mono ?_
 rintro e V1 hL
 obtain⟨A1,F1,rfl,hM,hsn,hcl,hr⟩:=HM0.out.leaves HH.out hL
 obtain⟨X1,hst,hM2⟩:=hM.put HH.out p1.1 A1 hsn hcl
 have HST:Hid ((Instr.storeAt 41 (.pointer (some ⟨w.heap.size+1,0,none⟩)) (.agg (frC p1.1 A1))).run Tryz.prog V1=.ok () X1):=hst
 have HM1:Hid (Mid i j r M b w F0 F1 p1.2 p1.1 A1 X1):=hM2
 have HR1:Hid (InR0 p1.1):=hr
 clear y0 y1 HL hc hL hM hsn hcl hr hst hM2
 go_upto_region 2 with (first|(refine wpList_store_run rfl 41 _ _ rfl _ _ rfl rfl HST.out ?_)|fail)
 clear HST
 have y0:=HM1.out.cells.1
 have y1:=HM1.out.cells.2
 have c7:=HM1.out.fr.c7
 have hc:=num64_ok HH.out X1 p1.2 F1 p1.1.m 48 HM1.out.obj HR1.out.m.1 HR1.out.m.2 (by omega)
 have bx2:=HH.out.lt p1.2 p1.1.m.toNat 48 (by have:=HR1.out.m;omega) (by omega)
 obtain⟨x2,ex2⟩:∃ x,x=fn p1.2 (p1.1.m.toNat) 48:=⟨_,rfl⟩
 obtain⟨s2,es2⟩:∃ t,t=sn p1.2 (p1.1.m.toNat) 48:=⟨_,rfl⟩
 obtain⟨G2,eG2⟩:∃ g:Fr,g={ p1.1 with m:=x2 }:=⟨_,rfl⟩
 rw[<-ex2] at hc bx2
 rw[<-es2] at hc
 have HR2:Hid (InR0 G2):=by
  rw[eG2]
  exact⟨HR1.out.k,HR1.out.f,HR1.out.t,HR1.out.e,HR1.out.s,HR1.out.r,HR1.out.n,⟨Int.natCast_nonneg _,by dsimp only;omega⟩,HR1.out.v,HR1.out.i⟩
 have EQ2:Hid (x2=fn p1.2 (p1.1.m.toNat) 48/\s2=sn p1.2 (p1.1.m.toNat) 48/\G2={ p1.1 with m:=x2 }):=⟨ex2,es2,eG2⟩
 clear ex2 es2 eG2 bx2
 go_wp2_with fail
 refine hc.mono ?_
 rintro e V2 ⟨rfl,hL⟩
 obtain⟨F2,hM⟩:=HM1.out.call HH.out hL
 have d7:=hM.fr.c7
 have z7:=hM.fr.fz 7
 have HM2:Hid (Mid i j r M b w F0 F2 s2 G2 A1 (V2.setCell ⟨w.heap.size+1,7,none⟩ (.int .i64 (x2:Int)))):=
  hM.set HH.out 7 _ G2 A1 (by rw[EQ2.out.2.2];rfl) (by rw[EQ2.out.2.2];exact⟨hM.seen.key,hM.seen.body,hM.seen.tag⟩) (by rw[EQ2.out.2.2];exact⟨hM.clear.key,hM.clear.body,hM.clear.tag⟩)
 clear y0 y1 c7 hc hL hM
 go_upto_region 3 with fail
 clear d7 z7
 generalize V2.setCell ⟨w.heap.size+1,7,none⟩ (.int .i64 (x2:Int))=X2 at *
 have y0:=HM2.out.cells.1
 have y1:=HM2.out.cells.2
 have c3:=HM2.out.fr.c3
 have hc:=numI_ok HH.out X2 s2 F2 G2.e 16 HM2.out.obj HR2.out.e.1 HR2.out.e.2 (by omega)
 have bx3:=HH.out.lt s2 G2.e.toNat 16 (by have:=HR2.out.e;omega) (by omega)
 obtain⟨x3,ex3⟩:∃ x,x=fn s2 (G2.e.toNat) 16:=⟨_,rfl⟩
 obtain⟨s3,es3⟩:∃ t,t=sn s2 (G2.e.toNat) 16:=⟨_,rfl⟩
 obtain⟨G3,eG3⟩:∃ g:Fr,g={ G2 with e:=x3 }:=⟨_,rfl⟩
 rw[<-ex3] at hc bx3
 rw[<-es3] at hc
 have HR3:Hid (InR0 G3):=by
  rw[eG3]
  exact⟨HR2.out.k,HR2.out.f,HR2.out.t,⟨Int.natCast_nonneg _,by dsimp only;omega⟩,HR2.out.s,HR2.out.r,HR2.out.n,HR2.out.m,HR2.out.v,HR2.out.i⟩
 have EQ3:Hid (x3=fn s2 (G2.e.toNat) 16/\s3=sn s2 (G2.e.toNat) 16/\G3={ G2 with e:=x3 }):=⟨ex3,es3,eG3⟩
 clear ex3 es3 eG3 bx3
 go_wp2_with fail
 refine hc.mono ?_
 rintro e V3 ⟨rfl,hL⟩
 obtain⟨F3,hM⟩:=HM2.out.call HH.out hL
 have d3:=hM.fr.c3
 have z3:=hM.fr.fz 3
 have HM3:Hid (Mid i j r M b w F0 F3 s3 G3 A1 (V3.setCell ⟨w.heap.size+1,3,none⟩ (.int .i64 (x3:Int)))):=
  hM.set HH.out 3 _ G3 A1 (by rw[EQ3.out.2.2];rfl) (by rw[EQ3.out.2.2];exact⟨hM.seen.key,hM.seen.body,hM.seen.tag⟩) (by rw[EQ3.out.2.2];exact⟨hM.clear.key,hM.clear.body,hM.clear.tag⟩)
 clear y0 y1 c3 hc hL hM
 go_upto_region 4 with fail
 clear d3 z3
 generalize V3.setCell ⟨w.heap.size+1,3,none⟩ (.int .i64 (x3:Int))=X3 at *
 have y0:=HM3.out.cells.1
 have y1:=HM3.out.cells.2
 have c4:=HM3.out.fr.c4
 have hc:=numI_ok HH.out X3 s3 F3 G3.s 24 HM3.out.obj HR3.out.s.1 HR3.out.s.2 (by omega)
 have bx4:=HH.out.lt s3 G3.s.toNat 24 (by have:=HR3.out.s;omega) (by omega)
 obtain⟨x4,ex4⟩:∃ x,x=fn s3 (G3.s.toNat) 24:=⟨_,rfl⟩
 obtain⟨s4,es4⟩:∃ t,t=sn s3 (G3.s.toNat) 24:=⟨_,rfl⟩
 obtain⟨G4,eG4⟩:∃ g:Fr,g={ G3 with s:=x4 }:=⟨_,rfl⟩
 rw[<-ex4] at hc bx4
 rw[<-es4] at hc
 have HR4:Hid (InR0 G4):=by
  rw[eG4]
  exact⟨HR3.out.k,HR3.out.f,HR3.out.t,HR3.out.e,⟨Int.natCast_nonneg _,by dsimp only;omega⟩,HR3.out.r,HR3.out.n,HR3.out.m,HR3.out.v,HR3.out.i⟩
 have EQ4:Hid (x4=fn s3 (G3.s.toNat) 24/\s4=sn s3 (G3.s.toNat) 24/\G4={ G3 with s:=x4 }):=⟨ex4,es4,eG4⟩
 clear ex4 es4 eG4 bx4
 go_wp2_with fail
 refine hc.mono ?_
 rintro e V4 ⟨rfl,hL⟩
 obtain⟨F4,hM⟩:=HM3.out.call HH.out hL
 have d4:=hM.fr.c4
 have z4:=hM.fr.fz 4
 have HM4:Hid (Mid i j r M b w F0 F4 s4 G4 A1 (V4.setCell ⟨w.heap.size+1,4,none⟩ (.int .i64 (x4:Int)))):=
  hM.set HH.out 4 _ G4 A1 (by rw[EQ4.out.2.2];rfl) (by rw[EQ4.out.2.2];exact⟨hM.seen.key,hM.seen.body,hM.seen.tag⟩) (by rw[EQ4.out.2.2];exact⟨hM.clear.key,hM.clear.body,hM.clear.tag⟩)
 clear y0 y1 c4 hc hL hM
 go_upto_region 5 with fail
 clear d4 z4
 generalize V4.setCell ⟨w.heap.size+1,4,none⟩ (.int .i64 (x4:Int))=X4 at *
 have y0:=HM4.out.cells.1
 have y1:=HM4.out.cells.2
 have c9:=HM4.out.fr.c9
 have hc:=numI_ok HH.out X4 s4 F4 G4.i 16 HM4.out.obj HR4.out.i.1 HR4.out.i.2 (by omega)
 have bx5:=HH.out.lt s4 G4.i.toNat 16 (by have:=HR4.out.i;omega) (by omega)
 obtain⟨x5,ex5⟩:∃ x,x=fn s4 (G4.i.toNat) 16:=⟨_,rfl⟩
 obtain⟨s5,es5⟩:∃ t,t=sn s4 (G4.i.toNat) 16:=⟨_,rfl⟩
 obtain⟨G5,eG5⟩:∃ g:Fr,g={ G4 with i:=x5 }:=⟨_,rfl⟩
 rw[<-ex5] at hc bx5
 rw[<-es5] at hc
 have HR5:Hid (InR0 G5):=by
  rw[eG5]
  exact⟨HR4.out.k,HR4.out.f,HR4.out.t,HR4.out.e,HR4.out.s,HR4.out.r,HR4.out.n,HR4.out.m,HR4.out.v,⟨Int.natCast_nonneg _,by dsimp only;omega⟩⟩
 have EQ5:Hid (x5=fn s4 (G4.i.toNat) 16/\s5=sn s4 (G4.i.toNat) 16/\G5={ G4 with i:=x5 }):=⟨ex5,es5,eG5⟩
 clear ex5 es5 eG5 bx5
 go_wp2_with fail
 refine hc.mono ?_
 rintro e V5 ⟨rfl,hL⟩
 obtain⟨F5,hM⟩:=HM4.out.call HH.out hL
 have d9:=hM.fr.c9
 have z9:=hM.fr.fz 9
 have HM5:Hid (Mid i j r M b w F0 F5 s5 G5 A1 (V5.setCell ⟨w.heap.size+1,9,none⟩ (.int .i64 (x5:Int)))):=
  hM.set HH.out 9 _ G5 A1 (by rw[EQ5.out.2.2];rfl) (by rw[EQ5.out.2.2];exact⟨hM.seen.key,hM.seen.body,hM.seen.tag⟩) (by rw[EQ5.out.2.2];exact⟨hM.clear.key,hM.clear.body,hM.clear.tag⟩)
 clear y0 y1 c9 hc hL hM
 go_upto_region 6 with fail
 clear d9 z9
 generalize V5.setCell ⟨w.heap.size+1,9,none⟩ (.int .i64 (x5:Int))=X5 at *
 have y0:=HM5.out.cells.1
 have y1:=HM5.out.cells.2
 have c10:=HM5.out.fr.c10
 have hc:=HH.out.list X5 s5 F5 A1.ka A1.kc G5.key 16 HM5.out.obj HM5.out.seen.key HM5.out.clear.key (by omega)
 obtain⟨s6,es6⟩:∃ t,t=sl s5 G5.key 16:=⟨_,rfl⟩
 rw[<-es6] at hc
 have ES6:Hid (s6=sl s5 G5.key 16):=es6
 clear es6
 go_wp2_with fail
 refine hc.mono ?_
 rintro e V6 ⟨a6,ca6,q6,eq6,rfl,hq,F6,hmm,hap,hsub,hcq⟩
 obtain⟨G6,eG6⟩:∃ g:Fr,g={ G5 with key:=q6 }:=⟨_,rfl⟩
 have hM:=HM5.out.keeps HH.out hmm hap hsub
 have EQ6:Hid (q6=fl s5 G5.key 16/\s6=sl s5 G5.key 16/\G6={ G5 with key:=q6 }):=⟨eq6.out,ES6.out,eG6⟩
 have HR6:Hid (InR0 G6):=by
  rw[eG6]
  exact⟨HR5.out.k,HR5.out.f,HR5.out.t,HR5.out.e,HR5.out.s,HR5.out.r,HR5.out.n,HR5.out.m,HR5.out.v,HR5.out.i⟩
 have d10:=hM.fr.c10
 have z10:=hM.fr.fz 10
 have HM6:Hid (Mid i j r M b w F0 F6 s6 G6 { A1 with ka:=a6,kc:=ca6 } (V6.setCell ⟨w.heap.size+1,10,none⟩ (.slice a6 q6.length ca6))):=
  hM.set HH.out 10 _ G6 { A1 with ka:=a6,kc:=ca6 } (by rw[EQ6.out.2.2];rfl) (by rw[EQ6.out.2.2];exact⟨hq,hM.seen.body,hM.seen.tag⟩) (by rw[EQ6.out.2.2];exact⟨hcq,hM.clear.body,hM.clear.tag⟩)
 clear y0 y1 c10 hc hmm hap hsub hcq hM hq eG6 eq6 ES6
 go_upto_region 7 with fail
 clear d10 z10
 generalize V6.setCell ⟨w.heap.size+1,10,none⟩ (.slice a6 q6.length ca6)=X6 at *
 generalize ({ A1 with ka:=a6,kc:=ca6 }:At)=A6 at *
 have HL:Hid ((Instr.loadAt 41 (.pointer (some ⟨w.heap.size+1,0,none⟩))).run Tryz.prog X6=.ok (.agg (frC G6 A6)) X6):=HM6.out.fr.loads
 obtain⟨Y,hst,hY,hlv⟩:=HM6.out.stored HH.out HR6.out
 have HST:Hid ((Instr.storeAt 41 (.pointer (some ⟨w.heap.size+2,0,none⟩)) (.agg (frC G6 A6))).run Tryz.prog X6=.ok () Y):=hst
 have HY:Hid (FrAt Y (w.heap.size+2) G6 A6):=hY
 have HLV:Hid (Leaves M b w F0 (G6,s6) (.returned (.agg (frC G6 A6))) Y):=hlv
 clear hst hY hlv
 go_wp2_with (first|(refine wpList_gload_run rfl 41 _ rfl _ _ rfl HL.out ?_)|(refine wpList_store_run rfl 41 _ _ rfl _ _ rfl rfl HST.out ?_)|fail)
 refine bodyPost_ret (res_fr rfl rfl HY.out) rfl ?_
 have hE:(G6,s6)=pongG fn sn fl sl s0 G0:=by
  obtain⟨a2,b2,c2⟩:=EQ2.out
  obtain⟨a3,b3,c3⟩:=EQ3.out
  obtain⟨a4,b4,c4⟩:=EQ4.out
  obtain⟨a5,b5,c5⟩:=EQ5.out
  obtain⟨a6,b6,c6⟩:=EQ6.out
  have a1:=EQ1.out
  subst c6 b6 a6 c5 b5 a5 c4 b4 a4 c3 b3 a3 c2 b2 a2 a1
  rfl
 rw[<-hE]
 exact HLV.out
theorem Mid.stored2 {σ:Type}{i j:Nat}{r:Value}{M:World->Nat->σ->(Nat->Prop)->Prop}{b:Nat}{fn:σ->Nat->Nat->Nat}{sn:σ->Nat->Nat->σ}{fl:σ->List UInt8->Nat->List UInt8}{sl:σ->List UInt8->Nat->σ}(H:Hand i j r M b fn sn fl sl){w:World}{F0 F1:Nat->Prop}{s:σ}{G:Fr}{A:At}{W:World}(h:Mid i j r M b w F0 F1 s G A W)(G':Fr)(A':At)(hs:Seen W G' A')(hc:Clears F1 G' A')(hr:InR0 G'):
  ∃ W',(Instr.storeAt 41 (.pointer (some ⟨w.heap.size+2,0,none⟩)) (.agg (frC G' A'))).run Tryz.prog W=.ok () W'/\FrAt W' (w.heap.size+2) G' A'/\Leaves M b w F0 (G',s) (.returned (.agg (frC G' A'))) W':=by
 have no:¬ F1 (w.heap.size+2):=λhk=>by
  rcases h.sub _ hk with h3|h3
  ·have:=h.lt _ h3;omega
  ·omega
 have ot:∀ k,k≠w.heap.size+2->(W.setRow (w.heap.size+2) (frC G' A')).heap[k]?=W.heap[k]?:=λk hk=>setRow_other _ _ _ _ hk
 have hb:∀ (x:Option Addr) (c:Nat) (l:List UInt8),Sees W x c l->Sees (W.setRow (w.heap.size+2) (frC G' A')) x c l:=λx c l hs=>
  ⟨hs.fits, hs.room, hs.bare, fun hne => by
    obtain ⟨b', off, ha, hc⟩ := hs.at' hne
    refine ⟨b', off, ha, fun k y hy => ?_⟩
    rw [World.cell?_of_block (w := W) (ot b' (h.res.apart hs b' off ha hne)), hc k y hy]⟩
 refine⟨_,h.res.stores G' A',h.res.stored G' A',A',F1,rfl,H.kept.keep h.obj (λk hk=>ot k (λe=>no (e▸hk))),?_,λk hk=>?_,⟨hb _ _ _ hs.key,hb _ _ _ hs.body,hb _ _ _ hs.tag⟩,hc,hr⟩
 ·refine⟨h.apart.os,h.apart.tape,h.apart.output,Nat.le_trans h.apart.size (by simp),λk hk hn=>?_⟩
  rw[ot k (by omega)];exact h.apart.block k hk hn
 ·rcases h.sub k hk with h3|h3
  ·exact .inl h3
  ·right;omega
theorem core_ok {σ:Type}{i j:Nat}{r:Value}{M:World->Nat->σ->(Nat->Prop)->Prop}{b:Nat}{fn:σ->Nat->Nat->Nat}{sn:σ->Nat->Nat->σ}{fl:σ->List UInt8->Nat->List UInt8}{sl:σ->List UInt8->Nat->σ}(H:Hand i j r M b fn sn fl sl)(w:World)(s0:σ)(F0:Nat->Prop)(G0:Fr)(A0:At)(hm:M w b s0 F0)(hs:Seen w G0 A0)(hcl:Clears F0 G0 A0)(hR:InR0 G0)(hB:G0.body.length<=16):
  Calls Tryz.prog 75 #[.agg #[.func (.func i) #[r] #[],.func (.func j) #[r] #[]],.agg (frC G0 A0)] w λe w'=>Leaves M b w F0 (coreG fn sn fl sl s0 G0) e w':=by
 have hM0:=Mid.start H w s0 F0 G0 A0 hm hs hcl
 have HM0:Hid (Mid i j r M b w F0 F0 s0 G0 A0 (((w.alloc (.cells #[.func (.func i) #[r] #[],.func (.func j) #[r] #[]] 101)).alloc (.cells (frC G0 A0) 41)).alloc (.cells #[.int .i64 0,.int .i64 0,.int .i64 0,.int .i64 0,.int .i64 0,.int .i64 0,.int .u64 0,.int .i64 0,.int .i64 0,.int .i64 0,.slice none 0 0,.slice none 0 0,.slice none 0 0] 41))):=hM0
 have HR0:Hid (InR0 G0):=hR
 have HH:Hid (Hand i j r M b fn sn fl sl):=H
 have hen:=H.ei
 have hej:=H.ej
 clear hM0 hR hm hs hcl H
 go_enter Tryz.func75,Tryz.ntmps75
 go_upto_region 1 with fail
 generalize ((w.alloc (Obj.cells #[Value.func (Fn.func i) #[r] #[],Value.func (Fn.func j) #[r] #[]] 101)).alloc (Obj.cells (frC G0 A0) 41)).alloc (Obj.cells #[.int .i64 0,.int .i64 0,.int .i64 0,.int .i64 0,.int .i64 0,.int .i64 0,.int .u64 0,.int .i64 0,.int .i64 0,.int .i64 0,.slice none 0 0,.slice none 0 0,.slice none 0 0] 41)=X0 at *
 have HB:Hid (G0.body.length<=16):=hB
 clear hB
 have y0:=HM0.out.cells.1
 have y1:=HM0.out.cells.2
 have c0:=HM0.out.fr.c0
 have hc:=numI_ok HH.out X0 s0 F0 G0.k 4 HM0.out.obj HR0.out.k.1 HR0.out.k.2 (by omega)
 have bx1:=HH.out.lt s0 G0.k.toNat 4 (by have:=HR0.out.k;omega) (by omega)
 obtain⟨x1,ex1⟩:∃ x,x=fn s0 (G0.k.toNat) 4:=⟨_,rfl⟩
 obtain⟨s1,es1⟩:∃ t,t=sn s0 (G0.k.toNat) 4:=⟨_,rfl⟩
 obtain⟨G1,eG1⟩:∃ g:Fr,g={ G0 with k:=x1 }:=⟨_,rfl⟩
 rw[<-ex1] at hc bx1
 rw[<-es1] at hc
 have HR1:Hid (InR0 G1):=by
  rw[eG1]
  exact⟨⟨Int.natCast_nonneg _,by dsimp only;omega⟩,HR0.out.f,HR0.out.t,HR0.out.e,HR0.out.s,HR0.out.r,HR0.out.n,HR0.out.m,HR0.out.v,HR0.out.i⟩
 have EQ1:Hid (x1=fn s0 (G0.k.toNat) 4/\s1=sn s0 (G0.k.toNat) 4/\G1={ G0 with k:=x1 }):=⟨ex1,es1,eG1⟩
 clear ex1 es1 eG1 bx1
 go_wp2_with fail
 refine hc.mono ?_
 rintro e V1 ⟨rfl,hL⟩
 obtain⟨F1,hM⟩:=HM0.out.call HH.out hL
 have d0:=hM.fr.c0
 have z0:=hM.fr.fz 0
 have HM1:Hid (Mid i j r M b w F0 F1 s1 G1 A0 (V1.setCell ⟨w.heap.size+1,0,none⟩ (.int .i64 (x1:Int)))):=
  hM.set HH.out 0 _ G1 A0 (by rw[EQ1.out.2.2];rfl) (by rw[EQ1.out.2.2];exact⟨hM.seen.key,hM.seen.body,hM.seen.tag⟩) (by rw[EQ1.out.2.2];exact⟨hM.clear.key,hM.clear.body,hM.clear.tag⟩)
 clear y0 y1 c0 hc hL hM
 go_upto_region 2 with fail
 clear d0 z0
 generalize V1.setCell ⟨w.heap.size+1,0,none⟩ (.int .i64 (x1:Int))=X1 at *
 have y0:=HM1.out.cells.1
 have y1:=HM1.out.cells.2
 have c1:=HM1.out.fr.c1
 have hc:=numI_ok HH.out X1 s1 F1 G1.f 4 HM1.out.obj HR1.out.f.1 HR1.out.f.2 (by omega)
 have bx2:=HH.out.lt s1 G1.f.toNat 4 (by have:=HR1.out.f;omega) (by omega)
 obtain⟨x2,ex2⟩:∃ x,x=fn s1 (G1.f.toNat) 4:=⟨_,rfl⟩
 obtain⟨s2,es2⟩:∃ t,t=sn s1 (G1.f.toNat) 4:=⟨_,rfl⟩
 obtain⟨G2,eG2⟩:∃ g:Fr,g={ G1 with f:=x2 }:=⟨_,rfl⟩
 rw[<-ex2] at hc bx2
 rw[<-es2] at hc
 have HR2:Hid (InR0 G2):=by
  rw[eG2]
  exact⟨HR1.out.k,⟨Int.natCast_nonneg _,by dsimp only;omega⟩,HR1.out.t,HR1.out.e,HR1.out.s,HR1.out.r,HR1.out.n,HR1.out.m,HR1.out.v,HR1.out.i⟩
 have EQ2:Hid (x2=fn s1 (G1.f.toNat) 4/\s2=sn s1 (G1.f.toNat) 4/\G2={ G1 with f:=x2 }):=⟨ex2,es2,eG2⟩
 clear ex2 es2 eG2 bx2
 go_wp2_with fail
 refine hc.mono ?_
 rintro e V2 ⟨rfl,hL⟩
 obtain⟨F2,hM⟩:=HM1.out.call HH.out hL
 have d1:=hM.fr.c1
 have z1:=hM.fr.fz 1
 have HM2:Hid (Mid i j r M b w F0 F2 s2 G2 A0 (V2.setCell ⟨w.heap.size+1,1,none⟩ (.int .i64 (x2:Int)))):=
  hM.set HH.out 1 _ G2 A0 (by rw[EQ2.out.2.2];rfl) (by rw[EQ2.out.2.2];exact⟨hM.seen.key,hM.seen.body,hM.seen.tag⟩) (by rw[EQ2.out.2.2];exact⟨hM.clear.key,hM.clear.body,hM.clear.tag⟩)
 clear y0 y1 c1 hc hL hM
 go_upto_region 3 with fail
 clear d1 z1
 generalize V2.setCell ⟨w.heap.size+1,1,none⟩ (.int .i64 (x2:Int))=X2 at *
 have hcg:coreG fn sn fl sl s0 G0=if G2.k=1 then dataG fn sn fl sl s2 G2 else if G2.k=2 then pingG fn sn s2 G2 else if G2.k=3 then pongG fn sn fl sl s2 G2 else (G2,s2):=by
  obtain⟨a1,b1,c1⟩:=EQ1.out
  obtain⟨a2,b2,c2⟩:=EQ2.out
  subst c2 b2 a2 c1 b1 a1
  rfl
 have hbl:G2.body.length<=16:=by rw[EQ2.out.2.2,EQ1.out.2.2];exact HB.out
 have HBL:Hid (G2.body.length<=16):=hbl
 clear hbl EQ1 EQ2 HB HR0 HR1
 have y0:=HM2.out.cells.1
 have y1:=HM2.out.cells.2
 have c0:=HM2.out.fr.c0
 have HL:Hid ((Instr.loadAt 41 (.pointer (some ⟨w.heap.size+1,0,none⟩))).run Tryz.prog X2=.ok (.agg (frC G2 A0)) X2):=HM2.out.fr.loads
 by_cases k1:G2.k=1
 ·rw[if_pos k1] at hcg
  have g1:(G2.k==1)=true:=by simp[k1]
  have HCG:Hid (coreG fn sn fl sl s0 G0=dataG fn sn fl sl s2 G2):=hcg
  clear hcg k1
  have hc:=data_ok HH.out X2 s2 F2 G2 A0 HM2.out.obj HM2.out.seen HM2.out.clear HR2.out HBL.out
  obtain⟨p,ep⟩:∃ p,p=dataG fn sn fl sl s2 G2:=⟨_,rfl⟩
  rw[<-ep] at hc
  have EP:Hid (p=dataG fn sn fl sl s2 G2):=ep
  clear ep
  go_wp2_with (first|(refine wpList_gload_run rfl 41 _ rfl _ _ rfl HL.out ?_)|fail)
  refine hc.mono ?_
  rintro e V hL
  obtain⟨A3,F3,rfl,hM,hsn,hcl,hr⟩:=HM2.out.leaves HH.out hL
  obtain⟨Y,hst,hY,hlv⟩:=hM.stored2 HH.out p.1 A3 hsn hcl hr
  have HST:Hid ((Instr.storeAt 41 (.pointer (some ⟨w.heap.size+2,0,none⟩)) (.agg (frC p.1 A3))).run Tryz.prog V=.ok () Y):=hst
  have HY:Hid (FrAt Y (w.heap.size+2) p.1 A3):=hY
  have HLV:Hid (Leaves M b w F0 (p.1,p.2) (.returned (.agg (frC p.1 A3))) Y):=hlv
  clear y0 y1 HL hc hL hM hsn hcl hr hst hY hlv c0
  go_wp2_with (first|(refine wpList_store_run rfl 41 _ _ rfl _ _ rfl rfl HST.out ?_)|fail)
  refine bodyPost_ret (res_fr rfl rfl HY.out) rfl ?_
  rw[HCG.out,<-EP.out]
  exact HLV.out
 ·rw[if_neg k1] at hcg
  by_cases k2:G2.k=2
  ·rw[if_pos k2] at hcg
   have g1:(G2.k==1)=false:=by simp[k1]
   have g2:(G2.k==2)=true:=by simp[k2]
   have HCG:Hid (coreG fn sn fl sl s0 G0=pingG fn sn s2 G2):=hcg
   clear hcg k1 k2
   have hc:=ping_ok HH.out X2 s2 F2 G2 A0 HM2.out.obj HM2.out.seen HM2.out.clear HR2.out
   obtain⟨p,ep⟩:∃ p,p=pingG fn sn s2 G2:=⟨_,rfl⟩
   rw[<-ep] at hc
   have EP:Hid (p=pingG fn sn s2 G2):=ep
   clear ep
   go_wp2_with (first|(refine wpList_gload_run rfl 41 _ rfl _ _ rfl HL.out ?_)|fail)
   refine hc.mono ?_
   rintro e V hL
   obtain⟨A3,F3,rfl,hM,hsn,hcl,hr⟩:=HM2.out.leaves HH.out hL
   obtain⟨Y,hst,hY,hlv⟩:=hM.stored2 HH.out p.1 A3 hsn hcl hr
   have HST:Hid ((Instr.storeAt 41 (.pointer (some ⟨w.heap.size+2,0,none⟩)) (.agg (frC p.1 A3))).run Tryz.prog V=.ok () Y):=hst
   have HY:Hid (FrAt Y (w.heap.size+2) p.1 A3):=hY
   have HLV:Hid (Leaves M b w F0 (p.1,p.2) (.returned (.agg (frC p.1 A3))) Y):=hlv
   clear y0 y1 HL hc hL hM hsn hcl hr hst hY hlv c0
   go_wp2_with (first|(refine wpList_store_run rfl 41 _ _ rfl _ _ rfl rfl HST.out ?_)|fail)
   refine bodyPost_ret (res_fr rfl rfl HY.out) rfl ?_
   rw[HCG.out,<-EP.out]
   exact HLV.out
  ·rw[if_neg k2] at hcg
   by_cases k3:G2.k=3
   ·rw[if_pos k3] at hcg
    have g1:(G2.k==1)=false:=by simp[k1]
    have g2:(G2.k==2)=false:=by simp[k2]
    have g3:(G2.k==3)=true:=by simp[k3]
    have HCG:Hid (coreG fn sn fl sl s0 G0=pongG fn sn fl sl s2 G2):=hcg
    clear hcg k1 k2 k3
    have hc:=pong_ok HH.out X2 s2 F2 G2 A0 HM2.out.obj HM2.out.seen HM2.out.clear HR2.out
    obtain⟨p,ep⟩:∃ p,p=pongG fn sn fl sl s2 G2:=⟨_,rfl⟩
    rw[<-ep] at hc
    have EP:Hid (p=pongG fn sn fl sl s2 G2):=ep
    clear ep
    go_wp2_with (first|(refine wpList_gload_run rfl 41 _ rfl _ _ rfl HL.out ?_)|fail)
    refine hc.mono ?_
    rintro e V hL
    obtain⟨A3,F3,rfl,hM,hsn,hcl,hr⟩:=HM2.out.leaves HH.out hL
    obtain⟨Y,hst,hY,hlv⟩:=hM.stored2 HH.out p.1 A3 hsn hcl hr
    have HST:Hid ((Instr.storeAt 41 (.pointer (some ⟨w.heap.size+2,0,none⟩)) (.agg (frC p.1 A3))).run Tryz.prog V=.ok () Y):=hst
    have HY:Hid (FrAt Y (w.heap.size+2) p.1 A3):=hY
    have HLV:Hid (Leaves M b w F0 (p.1,p.2) (.returned (.agg (frC p.1 A3))) Y):=hlv
    clear y0 y1 HL hc hL hM hsn hcl hr hst hY hlv c0
    go_wp2_with (first|(refine wpList_store_run rfl 41 _ _ rfl _ _ rfl rfl HST.out ?_)|fail)
    refine bodyPost_ret (res_fr rfl rfl HY.out) rfl ?_
    rw[HCG.out,<-EP.out]
    exact HLV.out
   ·rw[if_neg k3] at hcg
    have g1:(G2.k==1)=false:=by simp[k1]
    have g2:(G2.k==2)=false:=by simp[k2]
    have g3:(G2.k==3)=false:=by simp[k3]
    have HCG:Hid (coreG fn sn fl sl s0 G0=(G2,s2)):=hcg
    clear hcg k1 k2 k3 HL y0 y1
    have HL:Hid ((Instr.loadAt 41 (.pointer (some ⟨w.heap.size+1,0,none⟩))).run Tryz.prog X2=.ok (.agg (frC G2 A0)) X2):=HM2.out.fr.loads
    obtain⟨Y,hst,hY,hlv⟩:=HM2.out.stored HH.out HR2.out
    have HST:Hid ((Instr.storeAt 41 (.pointer (some ⟨w.heap.size+2,0,none⟩)) (.agg (frC G2 A0))).run Tryz.prog X2=.ok () Y):=hst
    have HY:Hid (FrAt Y (w.heap.size+2) G2 A0):=hY
    have HLV:Hid (Leaves M b w F0 (G2,s2) (.returned (.agg (frC G2 A0))) Y):=hlv
    clear hst hY hlv
    go_wp2_with (first|(refine wpList_gload_run rfl 41 _ rfl _ _ rfl HL.out ?_)|(refine wpList_store_run rfl 41 _ _ rfl _ _ rfl rfl HST.out ?_)|fail)
    refine bodyPost_ret (res_fr rfl rfl HY.out) rfl ?_
    rw[HCG.out]
    exact HLV.out
theorem hwhole_ok {σ:Type}{i j:Nat}{r:Value}{M:World->Nat->σ->(Nat->Prop)->Prop}{b:Nat}{fn:σ->Nat->Nat->Nat}{sn:σ->Nat->Nat->σ}{fl:σ->List UInt8->Nat->List UInt8}{sl:σ->List UInt8->Nat->σ}(H:Hand i j r M b fn sn fl sl)(w:World)(s0:σ)(F0:Nat->Prop)(G0:Fr)(A0:At)(hm:M w b s0 F0)(hs:Seen w G0 A0)(hcl:Clears F0 G0 A0)(hR:InR0 G0)(hB:G0.body.length<=16):
  Calls Tryz.prog 41 #[.agg #[.func (.func i) #[r] #[],.func (.func j) #[r] #[]],.agg (frC G0 A0)] w λe w'=>Leaves M b w F0 (wholeG fn sn fl sl s0 G0) e w':=by
 have hM0:=Mid.start H w s0 F0 G0 A0 hm hs hcl
 have HM0:Hid (Mid i j r M b w F0 F0 s0 G0 A0 (((w.alloc (.cells #[.func (.func i) #[r] #[],.func (.func j) #[r] #[]] 101)).alloc (.cells (frC G0 A0) 41)).alloc (.cells #[.int .i64 0,.int .i64 0,.int .i64 0,.int .i64 0,.int .i64 0,.int .i64 0,.int .u64 0,.int .i64 0,.int .i64 0,.int .i64 0,.slice none 0 0,.slice none 0 0,.slice none 0 0] 41))):=hM0
 have HR0:Hid (InR0 G0):=hR
 have HH:Hid (Hand i j r M b fn sn fl sl):=H
 have hen:=H.ei
 have hej:=H.ej
 clear hM0 hR hm hs hcl H
 go_enter Tryz.func41,Tryz.ntmps41
 go_upto_region 1 with fail
 generalize ((w.alloc (Obj.cells #[Value.func (Fn.func i) #[r] #[],Value.func (Fn.func j) #[r] #[]] 101)).alloc (Obj.cells (frC G0 A0) 41)).alloc (Obj.cells #[.int .i64 0,.int .i64 0,.int .i64 0,.int .i64 0,.int .i64 0,.int .i64 0,.int .u64 0,.int .i64 0,.int .i64 0,.int .i64 0,.slice none 0 0,.slice none 0 0,.slice none 0 0] 41)=X0 at *
 have HB:Hid (G0.body.length<=16):=hB
 clear hB
 have y0:=HM0.out.cells.1
 have y1:=HM0.out.cells.2
 have HL:Hid ((Instr.loadAt 41 (.pointer (some ⟨w.heap.size+1,0,none⟩))).run Tryz.prog X0=.ok (.agg (frC G0 A0)) X0):=HM0.out.fr.loads
 have hc:=core_ok HH.out X0 s0 F0 G0 A0 HM0.out.obj HM0.out.seen HM0.out.clear HR0.out HB.out
 obtain⟨p1,ep1⟩:∃ p,p=coreG fn sn fl sl s0 G0:=⟨_,rfl⟩
 rw[<-ep1] at hc
 have EQ1:Hid (p1=coreG fn sn fl sl s0 G0):=ep1
 clear ep1
 go_wp2_with (first|(refine wpList_gload_run rfl 41 _ rfl _ _ rfl HL.out ?_)|fail)
 refine hc.mono ?_
 rintro e V1 hL
 obtain⟨A1,F1,rfl,hM,hsn,hcl,hr⟩:=HM0.out.leaves HH.out hL
 obtain⟨X1,hst,hM2⟩:=hM.put HH.out p1.1 A1 hsn hcl
 have HST:Hid ((Instr.storeAt 41 (.pointer (some ⟨w.heap.size+1,0,none⟩)) (.agg (frC p1.1 A1))).run Tryz.prog V1=.ok () X1):=hst
 have HM1:Hid (Mid i j r M b w F0 F1 p1.2 p1.1 A1 X1):=hM2
 have HR1:Hid (InR0 p1.1):=hr
 clear y0 y1 HL hc hL hM hsn hcl hr hst hM2
 go_upto_region 2 with (first|(refine wpList_store_run rfl 41 _ _ rfl _ _ rfl rfl HST.out ?_)|fail)
 clear HST
 have y0:=HM1.out.cells.1
 have y1:=HM1.out.cells.2
 have c12:=HM1.out.fr.c12
 have hc:=HH.out.list X1 p1.2 F1 A1.ta A1.tc p1.1.tag 8 HM1.out.obj HM1.out.seen.tag HM1.out.clear.tag (by omega)
 obtain⟨s2,es2⟩:∃ t,t=sl p1.2 p1.1.tag 8:=⟨_,rfl⟩
 rw[<-es2] at hc
 have ES2:Hid (s2=sl p1.2 p1.1.tag 8):=es2
 clear es2
 go_wp2_with fail
 refine hc.mono ?_
 rintro e V2 ⟨a2,ca2,q2,eq2,rfl,hq,F2,hmm,hap,hsub,hcq⟩
 obtain⟨G2,eG2⟩:∃ g:Fr,g={ p1.1 with tag:=q2 }:=⟨_,rfl⟩
 have hM:=HM1.out.keeps HH.out hmm hap hsub
 have EQ2:Hid (q2=fl p1.2 p1.1.tag 8/\s2=sl p1.2 p1.1.tag 8/\G2={ p1.1 with tag:=q2 }):=⟨eq2.out,ES2.out,eG2⟩
 have HR2:Hid (InR0 G2):=by
  rw[eG2]
  exact⟨HR1.out.k,HR1.out.f,HR1.out.t,HR1.out.e,HR1.out.s,HR1.out.r,HR1.out.n,HR1.out.m,HR1.out.v,HR1.out.i⟩
 have d12:=hM.fr.c12
 have z12:=hM.fr.fz 12
 have HM2:Hid (Mid i j r M b w F0 F2 s2 G2 { A1 with ta:=a2,tc:=ca2 } (V2.setCell ⟨w.heap.size+1,12,none⟩ (.slice a2 q2.length ca2))):=
  hM.set HH.out 12 _ G2 { A1 with ta:=a2,tc:=ca2 } (by rw[EQ2.out.2.2];rfl) (by rw[EQ2.out.2.2];exact⟨hM.seen.key,hM.seen.body,hq⟩) (by rw[EQ2.out.2.2];exact⟨hM.clear.key,hM.clear.body,hcq⟩)
 clear y0 y1 c12 hc hmm hap hsub hcq hM hq eG2 eq2 ES2
 go_upto_region 3 with fail
 clear d12 z12
 generalize V2.setCell ⟨w.heap.size+1,12,none⟩ (.slice a2 q2.length ca2)=X2 at *
 generalize ({ A1 with ta:=a2,tc:=ca2 }:At)=A2 at *
 have HL:Hid ((Instr.loadAt 41 (.pointer (some ⟨w.heap.size+1,0,none⟩))).run Tryz.prog X2=.ok (.agg (frC G2 A2)) X2):=HM2.out.fr.loads
 obtain⟨Y,hst,hY,hlv⟩:=HM2.out.stored HH.out HR2.out
 have HST:Hid ((Instr.storeAt 41 (.pointer (some ⟨w.heap.size+2,0,none⟩)) (.agg (frC G2 A2))).run Tryz.prog X2=.ok () Y):=hst
 have HY:Hid (FrAt Y (w.heap.size+2) G2 A2):=hY
 have HLV:Hid (Leaves M b w F0 (G2,s2) (.returned (.agg (frC G2 A2))) Y):=hlv
 clear hst hY hlv
 go_wp2_with (first|(refine wpList_gload_run rfl 41 _ rfl _ _ rfl HL.out ?_)|(refine wpList_store_run rfl 41 _ _ rfl _ _ rfl rfl HST.out ?_)|fail)
 refine bodyPost_ret (res_fr rfl rfl HY.out) rfl ?_
 have hE:(G2,s2)=wholeG fn sn fl sl s0 G0:=by
  obtain⟨a2,b2,c2⟩:=EQ2.out
  have a1:=EQ1.out
  subst c2 b2 a2 a1
  rfl
 rw[<-hE]
 exact HLV.out
end Go.Proofs.YthogohkieiogiaaGreatDoor
