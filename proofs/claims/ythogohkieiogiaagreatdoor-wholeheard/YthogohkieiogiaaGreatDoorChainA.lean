/-
  The chain over plain lists; the contracts of isKey, isPlace, isChain, last, down, and of the iterator that goes down a chain.
  The contract of chain.reach: a range over the iterator, left by a label.
-/
import Derived.Test.YthogohkieiogiaaGreatDoorKdfB
import Derived.WalkMore
namespace Go.Proofs.YthogohkieiogiaaGreatDoor
set_option maxRecDepth 100000
set_option maxHeartbeats 4000000
open Go.ChangeShapes Go.WideShapes Go.ChangeAt Go.RowKit
def stepL (k:List UInt8):List UInt8:=keyOf k chainN []
def backL:Nat->List UInt8->List UInt8
 | 0,k=>k
 | n+1,k=>stepL (backL n k)
theorem backL_len (n:Nat)(k:List UInt8)(h:k.length=16):(backL n k).length=16:=by
 cases n with
 | zero=>exact h
 | succ n=>exact keyOf_length _ _ _
theorem backL_add (m n:Nat)(k:List UInt8):backL (m+n) k=backL m (backL n k):=by
 induction m with
 | zero=>rw[Nat.zero_add];rfl
 | succ m ih=>rw[Nat.succ_add];show stepL _=stepL _;rw[ih]
theorem stepP_eq (k:List UInt8)(h:k.length=16):stepP k=(stepL k,0):=by
 unfold stepP stepL;rw[if_pos h,keyP_ok _ _ _ labels.2.2.1 (by simp) (by omega)]
def seedN:List UInt8:=[115,101,101,100]
def epochN:List UInt8:=[101,112,111,99,104]
theorem seed_labels:labelL seedN=true/\labelL epochN=true:=by decide +kernel
def lastL (seed:List UInt8):List UInt8:=keyOf seed seedN []
theorem lastL_len (seed:List UInt8):(lastL seed).length=16:=keyOf_length _ _ _
abbrev Loc:=Option Addr×Nat
def Told (W:World)(key:List UInt8)(s:List Loc):Prop:=∀ i p,s[i]?=some p->Sees W p.1 p.2 (backL i key)
theorem Told.nil (W:World)(key:List UInt8):Told W key []:=λi p h=>by simp at h
theorem Told.below {W W':World}{key:List UInt8}{s:List Loc}(h:Told W key s)(hb:Below W.heap.size W W'):Told W' key s:=λi p hi=>(h i p hi).below hb
theorem Told.turned {B:Nat}{W W':World}{key:List UInt8}{s:List Loc}(h:Told W key s)(ht:Turned B W W'):Told W' key s:=λi p hi=>ht.sees (h i p hi)
theorem Told.push {W:World}{key:List UInt8}{s:List Loc}(h:Told W key s)(p:Loc)(hp:Sees W p.1 p.2 (backL s.length key)):Told W key (s++[p]):=by
 intro i q hi
 by_cases hlt:i<s.length
 ·rw[List.getElem?_append_left hlt] at hi;exact h i q hi
 ·rw[List.getElem?_append_right (by omega)] at hi
  by_cases he:i=s.length
  ·subst he;simp at hi;subst hi;exact hp
  ·have:i-s.length=(i-s.length-1)+1:=by omega
   rw[this] at hi;simp at hi
theorem isKey_yes (w:World)(a:Option Addr)(ca:Nat):Calls Tryz.prog 102 #[.slice a 16 ca] w λe w'=>e=.returned (.bool true)/\w'=w:=by
 go_enter Tryz.func102,Tryz.ntmps102
 go_wp2
 go_ret
 exact⟨rfl,rfl⟩
theorem isKey_no (w:World)(a:Option Addr)(n ca:Nat)(hn:n≠16)(_hm:n<=9223372036854775807):Calls Tryz.prog 102 #[.slice a n ca] w λe w'=>e=.returned (.bool false)/\w'=w:=by
 have d:((n:Int)==16)=false:=by simp;omega
 clear hn
 go_enter Tryz.func102,Tryz.ntmps102
 go_wp2
 go_ret
 exact⟨rfl,rfl⟩
theorem isPlace_yes (w:World)(i:Int)(h0:0<=i)(h1:i<=256):Calls Tryz.prog 101 #[.int .i64 i] w λe w'=>e=.returned (.bool true)/\w'=w:=by
 go_enter Tryz.func101,Tryz.ntmps101
 go_wp2
 go_ret
 exact⟨rfl,rfl⟩
theorem isPlace_no (w:World)(i:Int)(h:i<0\/256<i):Calls Tryz.prog 101 #[.int .i64 i] w λe w'=>e=.returned (.bool false)/\w'=w:=by
 by_cases h0:i<0
 ·have d:decide (0<=i)=false:=decide_eq_false (by omega)
  clear h
  go_enter Tryz.func101,Tryz.ntmps101
  go_wp2
  go_ret
  exact⟨rfl,rfl⟩
 ·have d0:0<=i:=by omega
  have d:decide (i<=256)=false:=decide_eq_false (by omega)
  clear h h0
  go_enter Tryz.func101,Tryz.ntmps101
  go_wp2
  go_ret
  exact⟨rfl,rfl⟩
theorem down_ok (w:World)(F:Int)(a:Option Addr)(n ca:Nat):
  Calls Tryz.prog 145 #[.int .i64 F,.slice a n ca] w λe w'=>e=.returned (.func (.func 171) #[] #[.pointer (some ⟨w.heap.size+1,0,none⟩),.pointer (some ⟨w.heap.size,0,none⟩)])/\w'=(w.alloc (.cells #[.int .i64 F] 3)).alloc (.cells #[.slice a n ca] 22):=by
 have hmf:∀ (fn:Fn) (first cap:Array Value) (w:World),(Instr.makeFunc fn first cap).run Tryz.prog w=.ok (.func fn first cap) w:=λ_ _ _ _=>rfl
 go_enter Tryz.func145,Tryz.ntmps145
 go_wp2
 go_ret
 exact⟨rfl,rfl⟩
open Go.ChangeShapes Go.WideShapes Go.ChangeAt Go.RowKit Go.Shelf
attribute [local go_sem] Oper.semAt_some
theorem down_in (m l bK bF:Nat)(a:Option Addr)(ca:Nat)(key:List UInt8)(hk:key.length=16)(F:Nat)(hF:F<=256)(I:List Loc->World->Prop)(kI:∀ s W W',I s W->Below W.heap.size W W'->I s W')(bI:∀ s W,I s W->W.cell? ⟨bK,0,none⟩=some (.slice a 16 ca)/\W.cell? ⟨bF,0,none⟩=some (.int .i64 (F:Int))/\Sees W a ca key/\FTab W/\KTab W/\Told W key s)(Bk Bx:World->Prop)(kB:∀ W W',Bk W->Below W.heap.size W W'->Bk W')(hY:∀ (s:List Loc) (x:Nat×Loc) W,Bk W->(I s W/\x.1+s.length=F/\Sees W x.2.1 x.2.2 (backL s.length key))->YieldAt Fence.wide (m-1) Tryz.prog l #[.int .i64 (x.1:Int),.slice x.2.1 16 x.2.2] W λe W'=>(e=.returned (.bool true)/\Bk W'/\I (s++[x.2]) W')\/(e=.returned (.bool false)/\Bx W'))(W:World)(hW:Bk W)(hI:I [] W):
  CallsIn Fence.wide m Tryz.prog 171 #[.func (.yield l) #[] #[],.pointer (some ⟨bK,0,none⟩),.pointer (some ⟨bF,0,none⟩)] W λe W'=>(∃ v,e=.returned v)/\((∃ s:List Loc,s.length=F+1/\Bk W'/\I s W')\/Bx W'):=by
 obtain⟨hcK,hcF,hsee,_,_,_⟩:=bI [] W hI
 have hcl:=clone_any W a ca key hsee (by omega)
 rw[hk] at hcl
 have HY:Hid (∀ (s:List Loc) (x:Nat×Loc) W,Bk W->(I s W/\x.1+s.length=F/\Sees W x.2.1 x.2.2 (backL s.length key))->YieldAt Fence.wide (m-1) Tryz.prog l #[.int .i64 (x.1:Int),.slice x.2.1 16 x.2.2] W λe W'=>(e=.returned (.bool true)/\Bk W'/\I (s++[x.2]) W')\/(e=.returned (.bool false)/\Bx W')):=hY
 have HI:Hid (∀ s W,I s W->W.cell? ⟨bK,0,none⟩=some (.slice a 16 ca)/\W.cell? ⟨bF,0,none⟩=some (.int .i64 (F:Int))/\Sees W a ca key/\FTab W/\KTab W/\Told W key s):=bI
 have Hk:Hid (key.length=16):=hk
 clear hY bI hsee hcF hk
 refine callsIn_of_wp Tryz.func171 rfl trivial ?_ rfl
 simp only[Tryz.ntmps171,List.size_toArray,List.length_cons,List.length_nil,Nat.reduceAdd,Nat.reduceSub,Array.replicate_succ,Array.replicate_zero,List.push_toArray,List.append_toArray,List.nil_append,List.cons_append]
 gi_wp2
 refine⟨trivial,(λh=>by cases h),(callsIn_wide.2 hcl).mono ?_⟩
 rintro e w1 ⟨d1,c1,rfl,hs1,hb1⟩
 have hB1:=kB _ _ hW hb1
 have hI1:=kI _ _ _ hI hb1
 obtain⟨_,hcF,_⟩:=HI.out _ w1 hI1
 clear hcl hcK hb1 hW hI
 gi_wp2
 gi_loopw [4,5] (λnx pl wr=>∃ (s:List Loc) (p:Loc) (q:Nat),q+s.length=F/\nx=.slice p.1 16 p.2/\pl=.int .i64 (q:Int)/\Bk wr/\I s wr/\Sees wr p.1 p.2 (backL s.length key)) (λ_ pl _=>(intOf pl).toNat)
 case atStart=>exact⟨[],(d1,c1),F,rfl,rfl,rfl,hB1,hI1,hs1⟩
 case round=>
  obtain⟨s,p,q,hq,rfl,rfl,hBk,hIk,hsee⟩:=hrel
  obtain⟨fn,tmps,assign,body,hy,hR⟩:=HY.out s (q,p) wr hBk ⟨hIk,hq,hsee⟩
  have HR:Hid (RoundIn Fence.wide (m-1) Tryz.prog l fn tmps assign body wr λe W'=>(e=.returned (.bool true)/\Bk W'/\I (s++[p]) W')\/(e=.returned (.bool false)/\Bx W')):=hR
  have HQ:Hid (q+s.length=F):=hq
  dsimp only at hy
  clear hR hB1 hI1 hs1 hcF hBk hIk hsee hq
  gi_wp2
  refine⟨(λh=>by cases h),HR.out.mono ?_⟩
  clear hy HR
  rintro e W2 (⟨rfl,hB2,hI2⟩|⟨rfl,hX2⟩)
  ·by_cases h0:q=0
   ·have dq:decide (0<q)=false:=decide_eq_false (by omega)
    have HE:Hid ((s++[p]).length=F+1):=by show (s++[p]).length=F+1;have:=HQ.out;simp;omega
    clear h0
    gi_wp2
    go_end0
    exact⟨⟨_,rfl⟩,.inl ⟨_,HE.out,hB2,hI2⟩⟩
   ·obtain⟨_,_,_,hFT,hKT,htold⟩:=HI.out _ W2 hI2
    have hst:=step_any key_ok W2 p.1 p.2 (backL s.length key) hFT hKT (htold s.length p (by simp))
    have hbl:=backL_len s.length key Hk.out
    rw[stepP_eq _ hbl,hbl] at hst
    obtain⟨q',hq'⟩:∃ q',q=q'+1:=⟨q-1,by omega⟩
    have HQ':Hid (q'+(s++[p]).length=F):=by show q'+(s++[p]).length=F;have:=HQ.out;simp;omega
    have dq:0<q:=by omega
    have hqm:q<=256:=by have:=HQ.out;omega
    have HQ1:Hid ((q:Int)-1=(q':Int)):=by show (q:Int)-1=(q':Int);omega
    have HM:Hid (q'<q):=by show q'<q;omega
    clear h0 hFT hKT htold hbl hq'
    gi_wp2
    refine⟨trivial,(λh=>by cases h),(callsIn_wide.2 hst).mono ?_⟩
    rintro e w5 ⟨d5,c5,r5,hr5,rfl,hs5,hb5⟩
    have hr:r5=backL (s++[p]).length key:=by rw[hr5.out];simp[backL]
    have hrl:r5.length=16:=by rw[hr];exact backL_len _ _ Hk.out
    have hB5:=kB _ _ hB2 hb5
    have hI5:=kI _ _ _ hI2 hb5
    rw[hr] at hs5
    rw[hrl]
    clear hst hr5 hb5 hB2 hI2 hr hrl
    gi_wp2
    go_roundw
    case rel=>exact⟨s++[p],(d5,c5),q',HQ'.out,rfl,by rw[<-HQ1.out],hB5,hI5,hs5⟩
    case measure=>have h1:=HM.out;have h2:=HQ1.out;simp[intOf];omega
  ·gi_wp2
   go_end0
   exact⟨⟨_,rfl⟩,.inr hX2⟩
theorem Sees.slot {W:World}{a:Option Addr}{cap:Nat}{bs:List UInt8}(h:Sees W a cap bs){g:Nat}{cur:Array Value}{e:TypeId}{fr:Nat×Nat}(hg:W.heap[g]?=some (.cells cur e fr))(hv:∀ (j:Nat) (y:Int),cur[j]?≠some (.int .u8 y))(q:Nat)(u:Value):Sees (W.setCell ⟨g,q,none⟩ u) a cap bs:=
 ⟨h.fits, h.room, h.bare, fun hne => by
   obtain ⟨b, off, ha, hc⟩ := h.at' hne
   refine ⟨b, off, ha, fun i x hx => ?_⟩
   have h1 := hc i x hx
   have hne2 : b ≠ g := by
     rintro rfl
     rw [cell_of_row W b (off + i) cur e fr hg] at h1
     exact hv _ _ h1
   rw [World.cell?_of_block (w := W) (a := ⟨b, off + i, none⟩) (Below.heap_setCell W ⟨g, q, none⟩ u b (fun e => hne2 (by rw [e]))), h1]⟩
theorem Told.slot {W:World}{key:List UInt8}{s:List Loc}(h:Told W key s){g:Nat}{cur:Array Value}{e:TypeId}{fr:Nat×Nat}(hg:W.heap[g]?=some (.cells cur e fr))(hv:∀ (j:Nat) (y:Int),cur[j]?≠some (.int .u8 y))(q:Nat)(u:Value):Told (W.setCell ⟨g,q,none⟩ u) key s:=
 λi p hi=>(h i p hi).slot hg hv q u
theorem box_slice (a:Option Addr)(n c:Nat):∀ (j:Nat) (y:Int),(#[Value.slice a n c])[j]?≠some (.int .u8 y):=by
 intro j y h
 match j,h with
 | 0,h=>simp at h
 | k+1,h=>simp at h
def RI (w:World)(T F:Nat)(a:Option Addr)(ca:Nat)(key:List UInt8)(s:List Loc)(W:World):Prop:=
 Boxed W w.heap.size 3 (.int .i64 (T:Int))/\Boxed W (w.heap.size+1) 22 (.slice none 0 0)/\Boxed W (w.heap.size+1+1) 3 (.int .i64 (F:Int))/\Boxed W (w.heap.size+1+1+1) 22 (.slice a 16 ca)/\Told W key s/\s.length+T<=F/\Below w.heap.size w W
def RX (w:World)(T F:Nat)(key:List UInt8)(W:World):Prop:=∃ d cd,Boxed W (w.heap.size+1) 22 (.slice d 16 cd)/\Sees W d cd (backL (F-T) key)/\Below w.heap.size w W
theorem RI.turned {w:World}{T F:Nat}{a:Option Addr}{ca:Nat}{key:List UInt8}{s:List Loc}{W W':World}{B:Nat}(h:RI w T F a ca key s W)(hB:w.heap.size<=B)(ht:Turned B W W'):RI w T F a ca key s W':=by
 obtain⟨h1,h2,h3,h4,h5,h6,h7⟩:=h
 exact⟨ht.boxed h1,ht.boxed h2,ht.boxed h3,ht.boxed h4,h5.turned ht,h6,ht.below h7 hB⟩
theorem RI.below {w:World}{T F:Nat}{a:Option Addr}{ca:Nat}{key:List UInt8}{s:List Loc}{W W':World}(h:RI w T F a ca key s W)(hb:Below W.heap.size W W'):RI w T F a ca key s W':=by
 obtain⟨h1,h2,h3,h4,h5,h6,h7⟩:=h
 exact⟨Boxed.below h1 hb,Boxed.below h2 hb,Boxed.below h3 hb,Boxed.below h4 hb,h5.below hb,h6,h7.trans (hb.mono h7.size)⟩
theorem RX.turned {w:World}{T F:Nat}{key:List UInt8}{W W':World}{B:Nat}(h:RX w T F key W)(hB:w.heap.size<=B)(ht:Turned B W W'):RX w T F key W':=by
 obtain⟨d,cd,h1,h2,h3⟩:=h
 exact⟨d,cd,ht.boxed h1,ht.sees h2,ht.below h3 hB⟩
theorem RX.below {w:World}{T F:Nat}{key:List UInt8}{W W':World}(h:RX w T F key W)(hb:Below W.heap.size W W'):RX w T F key W':=by
 obtain⟨d,cd,h1,h2,h3⟩:=h
 exact⟨d,cd,Boxed.below h1 hb,h2.below hb,h3.trans (hb.mono h3.size)⟩
theorem reach_ok (w:World)(a:Option Addr)(ca:Nat)(key:List UInt8)(hk:key.length=16)(T F:Nat)(hTF:T<=F)(hFm:F<=256)(hF0:FTab w)(hT0:KTab w)(ha0:Sees w a ca key):
  Calls Tryz.prog 103 #[.int .i64 (F:Int),.slice a 16 ca,.int .i64 (T:Int)] w λe w'=>∃ d cd,e=.returned (.slice d 16 cd)/\Sees w' d cd (backL (F-T) key)/\Below w.heap.size w w':=by
 have HF:Hid (FTab w):=hF0
 have HT:Hid (KTab w):=hT0
 have HA:Hid (Sees w a ca key):=ha0
 have Hk:Hid (key.length=16):=hk
 clear hF0 hT0 ha0 hk
 have hdn:=down_ok ((w.alloc (.cells #[.int .i64 (T:Int)] 3)).alloc (.cells #[.slice none 0 0] 22)) (F:Int) a 16 ca
 rw[World.size_alloc,World.size_alloc] at hdn
 refine(callsIn_wide (n:=9)).1 ?_
 refine callsIn_of_wp_marks Tryz.func103 rfl trivial ?_ rfl
 simp only[Tryz.ntmps103,List.size_toArray,List.length_cons,List.length_nil,Nat.reduceAdd,Nat.reduceSub,Array.replicate_succ,Array.replicate_zero,List.push_toArray,List.append_toArray,List.nil_append,List.cons_append]
 gi_wp2
 refine wpIn_wide.2 (wp_scope_straight ((wpIn_wide (n:=9)).1 ?_))
 gi_wp2
 refine wpIn_label ?_
 gi_wp2
 refine⟨trivial,(callsIn_wide.2 hdn).mono ?_⟩
 rintro e w' ⟨rfl,hw'⟩
 rw[hw']
 clear hdn hw' w'
 gi_wp2
 obtain⟨W0,hW0⟩:∃ W0,W0=(((w.alloc (.cells #[.int .i64 (T:Int)] 3)).alloc (.cells #[.slice none 0 0] 22)).alloc (.cells #[.int .i64 (F:Int)] 3)).alloc (.cells #[.slice a 16 ca] 22):=⟨_,rfl⟩
 have hsz:W0.heap.size=w.heap.size+4:=by rw[hW0];simp
 have hB0:Below w.heap.size w W0:=by rw[hW0];exact((((Below.refl _ w).alloc (Nat.le_refl _) _).alloc (by simp) _).alloc (by simp;omega) _).alloc (by simp;omega) _
 have hI0:RI w T F a ca key [] W0:=by
  refine⟨?_,?_,?_,?_,Told.nil _ _,by simpa using hTF,hB0⟩
  ·rw[hW0];exact(((Boxed.new w 3 _).alloc _).alloc _).alloc _
  ·have:=Boxed.new (w.alloc (.cells #[.int .i64 (T:Int)] 3)) 22 (.slice none 0 0)
   rw[World.size_alloc] at this
   rw[hW0];exact(this.alloc _).alloc _
  ·have:=Boxed.new ((w.alloc (.cells #[.int .i64 (T:Int)] 3)).alloc (.cells #[.slice none 0 0] 22)) 3 (.int .i64 (F:Int))
   rw[World.size_alloc,World.size_alloc] at this
   rw[hW0];exact this.alloc _
  ·have:=Boxed.new (((w.alloc (.cells #[.int .i64 (T:Int)] 3)).alloc (.cells #[.slice none 0 0] 22)).alloc (.cells #[.int .i64 (F:Int)] 3)) 22 (.slice a 16 ca)
   rw[World.size_alloc,World.size_alloc,World.size_alloc] at this
   rw[hW0];exact this
 rw[<-hW0]
 have HW0:Hid (w.heap.size<=W0.heap.size):=by show w.heap.size<=W0.heap.size;omega
 clear hW0 hsz hB0
 refine range_pre 171 #[.pointer (some ⟨w.heap.size+1+1+1,0,none⟩),.pointer (some ⟨w.heap.size+1+1,0,none⟩)] rfl (enters_of Tryz.func171 (by kernel_rfl) rfl)
  (λx:Nat×Loc=>#[.int .i64 (x.1:Int),.slice x.2.1 16 x.2.2]) (λ_=>rfl) (RI w T F a ca key) (λs x W=>RI w T F a ca key s W/\x.1+s.length=F/\Sees W x.2.1 x.2.2 (backL s.length key)) (λs x=>s++[x.2]) (λc _ W=>c=.exit 0/\RX w T F key W)
  (λs=>s.length=F+1) ?fI ?fP ?fX
  (λx=>{ tmps:=#[.int .i64 (F:Int),.slice a 16 ca,.int .i64 (T:Int),undef,undef,.pointer (some ⟨w.heap.size,0,none⟩),.slice none 0 0,.pointer (some ⟨w.heap.size+1,0,none⟩),.int .i64 (x.1:Int),.slice x.2.1 16 x.2.2,.int .i64 (F:Int),.slice a 16 ca,.func (.func 171) #[] #[.pointer (some ⟨w.heap.size+1+1+1,0,none⟩),.pointer (some ⟨w.heap.size+1+1,0,none⟩)],.int .i64 (x.1:Int),.slice x.2.1 16 x.2.2,undef,undef,undef,undef,undef,undef],defers:=[] })
  ?assign ?body ?iter ?kX ?done ?stop
 case fI=>exact λs V V' h ht=>h.turned HW0.out ht
 case fP=>exact λs x V V' ⟨h1,h2,h3⟩ ht=>⟨h1.turned HW0.out ht,h2,ht.sees h3⟩
 case fX=>exact λc s V V' ⟨h1,h2⟩ ht=>⟨h1,h2.turned HW0.out ht⟩
 case kX=>exact λc s V V' ⟨h1,h2⟩ hb=>⟨h1,h2.below hb⟩
 case assign=>
  intro l x W K hK
  gi_wp2
  exact hK
 case body=>
  rintro l s ⟨q,d,cd⟩ W ⟨⟨b1,b2,b3,b4,told,hle,hB⟩,hq,hsee⟩
  show Code.wpIn _ _ _ _ (roundEnds W0.heap.size (RI w T F a ca key) (λc _ W=>c=.exit 0/\RX w T F key W) (s++[(d,cd)]) W) _ _
  have c1:=b1.cell
  have c2:=b2.cell
  have f2:=b2.frozen
  have hsl:(s++[((d,cd):Loc)]).length=s.length+1:=by simp
  dsimp only at hq hsee
  by_cases hqT:q=T
  ·subst hqT
   have HE:Hid (KeepsFrom W0.heap.size W (W.setCell ⟨w.heap.size+1,0,none⟩ (.slice d 16 cd))/\RX w q F key (W.setCell ⟨w.heap.size+1,0,none⟩ (.slice d 16 cd))):=by
    refine⟨(KeepsOthers.setCell _ _ _).from _,d,cd,b2.set _,?_,hB.setCell (p:=⟨w.heap.size+1,0,none⟩) (by show w.heap.size<=w.heap.size+1;omega) _⟩
    rw[show F-q=s.length by omega]
    exact hsee.slot b2 (box_slice _ _ _) 0 _
   clear b1 b2 b3 b4 told hle hB hq hsee hsl hI0
   gi_wp2
   exact⟨HE.out.1,rfl,HE.out.2⟩
  ·have dq:((q:Int)==(T:Int))=false:=by simp;omega
   have HE:Hid (KeepsFrom W0.heap.size W W/\RI w T F a ca key (s++[(d,cd)]) W):=⟨KeepsFrom.refl _ _,b1,b2,b3,b4,told.push (d,cd) hsee,by omega,hB⟩
   clear b1 b2 b3 b4 told hle hB hq hsee hsl hI0
   gi_wp2
   exact HE.out
 case iter=>
  intro l W1 hB1 hs1 hl Bk Bx kB hY kX hBk
  exact down_in 8 l _ _ a ca key Hk.out F hFm (RI w T F a ca key) (λs W W' h hb=>h.below hb) (λs W h=>⟨h.2.2.2.1.cell,h.2.2.1.cell,HA.out.below h.2.2.2.2.2.2,HF.out.below h.2.2.2.2.2.2,HT.out.below h.2.2.2.2.2.2,h.2.2.2.2.1⟩) Bk Bx kB hY W1 hBk (hI0.below hB1)
 case done=>
  rintro D s V hD hs ⟨_,_,_,_,_,h6,_⟩ hK
  exact absurd hs (by omega)
 case stop=>
  rintro D c s V hD ⟨rfl,d,cd,b2,hsee,hB⟩ hK
  have c2:=b2.cell
  have HK:Hid (V.heap[D]?=some (.deferred (some []))):=hK
  clear b2 hI0 hK
  gi_wp2
  refine⟨by simp,.inl ⟨_,_,rfl,run_takeDeferred HK.out,?_⟩⟩
  refine⟨_,results_tmp rfl _ _ _,d,cd,rfl,hsee.put _ HK.out rfl,?_⟩
  exact hB.trans (belowK_b (w:=w) (Nat.le_refl _) V D _ _ (by have:=HW0.out;omega) HK.out rfl rfl)
end Go.Proofs.YthogohkieiogiaaGreatDoor
