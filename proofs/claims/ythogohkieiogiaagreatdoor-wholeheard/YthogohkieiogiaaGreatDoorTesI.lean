/-
  A region that draws its order, inside a round of a range over a function, and inside the iterator itself: as it is walked outside. No program here.
  The law of a range over a function whose iterator itself changes memory that lay there ahead of the loop.
  The last keys of a chain up to one of it, stepped down from each other.
  A receiver and the frames that it has released so far, in the midst of a range over a function.
  What a range over what waits goes through: the receiver, and whatever else of its memory the iterator needs.
-/
import Derived.OrdersHeld
import Derived.OrdersIn
import Derived.TacticsIn
import Derived.RangeFuncCalls
import Derived.Test.YthogohkieiogiaaGreatDoorTesA
namespace Go.Proofs.YthogohkieiogiaaGreatDoor
set_option maxRecDepth 20000
set_option maxHeartbeats 1600000
open Go
theorem rows_wide {n:Nat}{P:Program}{row:String}{args:Array Value}{w:World}{R:Value->World->Prop}(l:Nat)(h:Rows P row args w R):RowsIn (Fence.wide.inRound l) n P row args w R:=
 λc cs _=>let ⟨v,w',r,s⟩:=h c cs;⟨v,w',r,stepsIn_wide.2 s⟩
theorem oper_round {l n:Nat}{P:Program}{o:Oper}{a:Act}{w:World}{K:Act->World->Prop}{Q:Exit->Act->World->Prop}(hd:∀ c,o.op≠.defer c)(h:o.wp P a w K Q):o.wpIn (Fence.wide.inRound l) n P a w K Q:=by
 unfold Oper.wp at h
 unfold Oper.wpIn
 refine⟨λ_ _=>trivial,?_⟩
 rw[Oper.semAt_eq _ _ _ hd]
 generalize (execOp a.eval o).run P w=r at *
 cases r with
 | ok x w' =>
   cases x <;> simp only [Oper.upon, Oper.uponIn] at h ⊢
   case value => exact h
   case skip => exact h
   case defer => exact h
   case enter => exact ⟨(fun h => by cases h), (callsIn_wide.2 h).inRound l⟩
   case row => exact ⟨(fun h => by cases h), rows_wide l h⟩
 | halt x w' =>
   cases x <;> simp only [Oper.upon, Oper.uponIn] at h ⊢
   case panic => exact h
theorem op_round {l n:Nat}{P:Program}{ops:Array Oper}{Q:Exit->Act->World->Prop}(hL:¬ LetsOut Q)(hd:∀ (i:Nat) (o:Oper),ops[i]?=some o->∀ c,o.op≠.defer c){i:Nat}{K:Act->World->Prop}{a:Act}{w:World}(h:wpOp P ops Q i K a w):wpOpIn (Fence.wide.inRound l) n P ops Q i K a w:=by
 unfold wpOp at h
 unfold wpOpIn
 cases ho:ops[i]? with
 | none=>simp only[ho] at h;exact h
 | some o =>
   simp only [ho] at h ⊢
   split
   · rename_i hw
     simp only [hw, if_true] at h
     exact oper_round (hd i o ho) (h.resolve_right fun q => hL q.2)
   · rename_i hw
     simp only [hw] at h
     exact ⟨fun _ _ => trivial, h⟩
theorem any_round {l n:Nat}{P:Program}{md:Region.Mode}{ops:Array Oper}{Q:Exit->Act->World->Prop}(hL:¬ LetsOut Q)(hd:∀ (i:Nat) (o:Oper),ops[i]?=some o->∀ c,o.op≠.defer c):∀ (fuel:Nat) (listed:Array Bool) (a:Act) (w:World),wpAny P md ops Q fuel listed a w->wpAnyIn (Fence.wide.inRound l) n P md ops Q fuel listed a w
 | 0,_,_,_,h=>h
 | fuel+1,_,_,_,h=>⟨h.1,λi hi=>wpOpIn_mono (λa' w' h'=>any_round hL hd fuel _ a' w' h') (op_round hL hd (h.2 i hi))⟩
def noDefer (o:Oper):Bool:=match o.op with
 | .defer _=>false
 | _=>true
theorem no_defers {ops:Array Oper}(h:ops.all noDefer=true):∀ (i:Nat) (o:Oper),ops[i]?=some o->∀ c,o.op≠.defer c:=by
 intro i o ho c hc
 have h1:=Array.all_eq_true'.1 h o (Array.mem_of_getElem? ho)
 unfold noDefer at h1
 rw[hc] at h1
 cases h1
theorem region_round {l n id:Nat}{P:Program}{ops:Array Oper}{Q:Exit->Act->World->Prop}{S:World->Prop}{a:Act}{w:World}(hL:¬ LetsOut Q)(hm:P.follows .mixedOrders=true)(hd:ops.all noDefer=true)(h:wpAnyH P .any ops Q S ops.size (Array.replicate ops.size false) a w.drew):(Code.region id ops true).wpIn (Fence.wide.inRound l) n P Q a w:=
 wpIn_region_any hm (any_round hL (no_defers hd) _ _ _ _ (wpAny_of_held _ _ _ _ h))
theorem rows_plain {n:Nat}{P:Program}{row:String}{args:Array Value}{w:World}{R:Value->World->Prop}(h:Rows P row args w R):RowsIn Fence.wide n P row args w R:=
 λc cs _=>let ⟨v,w',r,s⟩:=h c cs;⟨v,w',r,stepsIn_wide.2 s⟩
theorem oper_wide {n:Nat}{P:Program}{o:Oper}{a:Act}{w:World}{K:Act->World->Prop}{Q:Exit->Act->World->Prop}(hd:∀ c,o.op≠.defer c)(h:o.wp P a w K Q):o.wpIn Fence.wide n P a w K Q:=by
 unfold Oper.wp at h
 unfold Oper.wpIn
 refine⟨λ_ _=>trivial,?_⟩
 rw[Oper.semAt_eq _ _ _ hd]
 generalize (execOp a.eval o).run P w=r at *
 cases r with
 | ok x w' =>
   cases x <;> simp only [Oper.upon, Oper.uponIn] at h ⊢
   case value => exact h
   case skip => exact h
   case defer => exact h
   case enter => exact ⟨(fun h => by cases h), callsIn_wide.2 h⟩
   case row => exact ⟨(fun h => by cases h), rows_plain h⟩
 | halt x w' =>
   cases x <;> simp only [Oper.upon, Oper.uponIn] at h ⊢
   case panic => exact h
theorem op_wide {n:Nat}{P:Program}{ops:Array Oper}{Q:Exit->Act->World->Prop}(hL:¬ LetsOut Q)(hd:∀ (i:Nat) (o:Oper),ops[i]?=some o->∀ c,o.op≠.defer c){i:Nat}{K:Act->World->Prop}{a:Act}{w:World}(h:wpOp P ops Q i K a w):wpOpIn Fence.wide n P ops Q i K a w:=by
 unfold wpOp at h
 unfold wpOpIn
 cases ho:ops[i]? with
 | none=>simp only[ho] at h;exact h
 | some o =>
   simp only [ho] at h ⊢
   split
   · rename_i hw
     simp only [hw, if_true] at h
     exact oper_wide (hd i o ho) (h.resolve_right fun q => hL q.2)
   · rename_i hw
     simp only [hw] at h
     exact ⟨fun _ _ => trivial, h⟩
theorem any_wide {n:Nat}{P:Program}{md:Region.Mode}{ops:Array Oper}{Q:Exit->Act->World->Prop}(hL:¬ LetsOut Q)(hd:∀ (i:Nat) (o:Oper),ops[i]?=some o->∀ c,o.op≠.defer c):∀ (fuel:Nat) (listed:Array Bool) (a:Act) (w:World),wpAny P md ops Q fuel listed a w->wpAnyIn Fence.wide n P md ops Q fuel listed a w
 | 0,_,_,_,h=>h
 | fuel+1,_,_,_,h=>⟨h.1,λi hi=>wpOpIn_mono (λa' w' h'=>any_wide hL hd fuel _ a' w' h') (op_wide hL hd (h.2 i hi))⟩
theorem region_wide {n id:Nat}{P:Program}{ops:Array Oper}{Q:Exit->Act->World->Prop}{S:World->Prop}{a:Act}{w:World}(hL:¬ LetsOut Q)(hm:P.follows .mixedOrders=true)(hd:ops.all noDefer=true)(h:wpAnyH P .any ops Q S ops.size (Array.replicate ops.size false) a w.drew):(Code.region id ops true).wpIn Fence.wide n P Q a w:=
 wpIn_region_any hm (any_wide hL (no_defers hd) _ _ _ _ (wpAny_of_held _ _ _ _ h))
def NoOut (Q:Exit->Act->World->Prop):Exit->Act->World->Prop
 | .panic _,_,_=>False
 | .outgrown,_,_=>False
 | e,a,w=>Q e a w
theorem NoOut.normal {Q:Exit->Act->World->Prop}{a:Act}{w:World}(h:Q .normal a w):NoOut Q .normal a w:=h
theorem NoOut.imp {Q:Exit->Act->World->Prop}:∀ (e:Exit) (a:Act) (w:World),NoOut Q e a w->Q e a w:=λe a w h=>by
 cases e<;>first|exact h|exact(h:False).elim
theorem region_wideN {n id:Nat}{P:Program}{ops:Array Oper}{Q:Exit->Act->World->Prop}{S:World->Prop}{a:Act}{w:World}(hm:P.follows .mixedOrders=true)(hd:ops.all noDefer=true)(h:wpAnyH P .any ops (NoOut Q) S ops.size (Array.replicate ops.size false) a w.drew):(Code.region id ops true).wpIn Fence.wide n P Q a w:=
 wpIn_mono (region_wide (λ⟨_,_,h⟩=>h) hm hd h) NoOut.imp
theorem region_roundN {l n id:Nat}{P:Program}{ops:Array Oper}{Q:Exit->Act->World->Prop}{S:World->Prop}{a:Act}{w:World}(hm:P.follows .mixedOrders=true)(hd:ops.all noDefer=true)(h:wpAnyH P .any ops (NoOut Q) S ops.size (Array.replicate ops.size false) a w.drew):(Code.region id ops true).wpIn (Fence.wide.inRound l) n P Q a w:=
 wpIn_mono (region_round (λ⟨_,_,h⟩=>h) hm hd h) NoOut.imp
open Go.RowKit
theorem range_own {σ α:Type}{n:Nat}{P:Program}{g:Operand}{ps:Array Tmp}{assign body:Code}{Q:Exit->Act->World->Prop}{a:Act}{w:World}(gf:Nat)(lb:Array Value)(hg:a.eval g=.func (.func gf) #[] lb)(eg:∀ args w,(callFunc gf args).run P w=.ok (.enter gf args) w)(encs:α->Array Value)(hps:∀ x,(encs x).size=ps.size)(I:σ->World->Prop)(Pr:σ->α->World->Prop)(nx:σ->α->σ)(Ix:Code->σ->World->Prop)(Done:σ->Prop)(fI:∀ s W W',I s W->Turned w.heap.size W W'->I s W')(fX:∀ c s W W',Ix c s W->Turned w.heap.size W W'->Ix c s W')(a₁:α->Nat->Act)(Pa:σ->α->Nat->World->Prop)(fA:∀ s x N W W',Pa s x N W->Turned w.heap.size W W'->Pa s x N W')(hassign : ∀ (l : Nat) (s : σ) (x : α) (W : World) (K : Act → World → Prop), Pr s x W → (∀ N W', KeepsFrom w.heap.size W W' → Pa s x N W' → K (a₁ x N) W') →
    assign.wpIn (Fence.wide.inRound l) (n - 1 - 1) P (Exit.then K (fun _ _ _ => False)) { tmps := (ps.zip (encs x)).foldl (fun t (p, v) => t.setIfInBounds p v) a.tmps, defers := [] } W)(hbody:∀ (l:Nat) (s:σ) (x:α) (N:Nat) (W:World),Pa s x N W->body.wpIn (Fence.wide.inRound l) (n-1-1) P (roundEnds w.heap.size I Ix (nx s x) W) (a₁ x N) W)(hiter : ∀ (l : Nat) (W1 : World), Below w.heap.size w W1 → W1.heap.size = w.heap.size + 2 → l < W1.heap.size →
    ∀ (Bk Bx : World → Prop), (∀ W W', Bk W → KeepsFrom w.heap.size W W' → Bk W') →
      (∀ s x W, Bk W → Pr s x W → YieldAt Fence.wide (n - 1 - 1) P l (encs x) W fun e W' => (e = .returned (.bool true) ∧ Bk W' ∧ I (nx s x) W') ∨ (e = .returned (.bool false) ∧ Bx W')) → (∀ W W', Bx W → Below W.heap.size W W' → Bx W') → Bk W1 →
    CallsIn Fence.wide (n - 1) P gf (#[.func (.yield l) #[] #[]] ++ lb) W1 fun e W' => (∃ v, e = .returned v) ∧ ((∃ s, Done s ∧ Bk W' ∧ I s W') ∨ Bx W'))(hkeepX:∀ c s W W',Ix c s W->Below W.heap.size W W'->Ix c s W')(hdone:∀ (D:Nat) (s:σ) (W:World),w.heap.size<=D->Done s->I s W->W.heap[D]?=some (.deferred (some []))->Q .normal { a with defers:={ target:=.collected D,args:=#[] }::a.defers } W)(hstop:∀ (D:Nat) (c:Code) (s:σ) (W:World),w.heap.size<=D->Ix c s W->W.heap[D]?=some (.deferred (some []))->c.wpIn Fence.wide n P Q { a with defers:={ target:=.collected D,args:=#[] }::a.defers } W):
  (Code.rangeFunc g ps assign body).wpIn Fence.wide n P Q a w:=by
 refine wpIn_rangeFunc λfn hfn=>?_
 obtain⟨rec,hrec⟩:∃ rec:LoopState->Option Code->Loop,rec=λst pe=>{ state:=st,pending:=pe,fn,tmps:=a.tmps,params:=ps,assign,body,defers:=w.heap.size }:=⟨_,rfl⟩
 obtain⟨W1,hW1⟩:∃ W1,W1=(w.alloc (.deferred (some []))).alloc (.loop (rec .ready none)):=⟨_,rfl⟩
 have hsz:W1.heap.size=w.heap.size+2:=by rw[hW1];simp
 have hB1:Below w.heap.size w W1:=by rw[hW1];exact((Below.refl _ _).alloc (Nat.le_refl _) _).alloc (by simp) _
 have hrun:=run_enterLoop_outer (P:=P) (w:=w) fn a.tmps ps assign body
 have hrec0:rec .ready none={ state:=.ready,pending:=none,fn,tmps:=a.tmps,params:=ps,assign,body,defers:=w.heap.size }:=by rw[hrec]
 rw[<-hrec0,<-hW1] at hrun
 have hL:W1.heap[w.heap.size+1]?=some (.loop (rec .ready none)):=by
  have h1:=World.alloc_heap_new (w.alloc (.deferred (some []))) (.loop (rec .ready none))
  rw[World.size_alloc] at h1
  rw[hW1];exact h1
 have hD:W1.heap[w.heap.size]?=some (.deferred (some [])):=by
  rw[hW1];exact(Below.heap_alloc _ _ _ (by simp)).trans (World.alloc_heap_new w _)
 refine⟨w.heap.size+1,_,W1,{ target:=.fn (.func gf) lb,args:=#[.func (.yield (w.heap.size+1)) #[] #[]] },W1,gf,#[.func (.yield (w.heap.size+1)) #[] #[]]++lb,W1,hrun,?_,λ_ _=>trivial,?_,(λh=>by cases h),?_⟩
 ·simp only[resolve,hg];simp[go_sem]
 ·simp[invoke,go_sem,eg]
 have keepB:∀ (st:LoopState) (pe:Option Code) (W W':World),W.heap[w.heap.size+1]?=some (.loop (rec st pe))/\W.heap[w.heap.size]?=some (.deferred (some []))->KeepsFrom w.heap.size W W' ->
   W'.heap[w.heap.size+1]?=some (.loop (rec st pe))/\W'.heap[w.heap.size]?=some (.deferred (some [])):=λst pe W W' h hb=>
  ⟨hb.same _ _ (by omega) h.1 rfl,hb.same _ _ (Nat.le_refl _) h.2 rfl⟩
 have hcall:=hiter (w.heap.size+1) W1 hB1 hsz (by omega)
  (λW=>W.heap[w.heap.size+1]?=some (.loop (rec .ready none))/\W.heap[w.heap.size]?=some (.deferred (some [])))
  (λW=>∃ c s,Ix c s W/\W.heap[w.heap.size+1]?=some (.loop (rec .done (some c)))/\W.heap[w.heap.size]?=some (.deferred (some [])))
  (keepB .ready none) ?round (λW W' ⟨c,s,hx,hbk⟩ hb=>⟨c,s,hkeepX c s W W' hx hb,keepB _ _ W W' hbk (Below.keepsFrom hb _)⟩) ⟨hL,hD⟩
 case round=>
  rintro s x W0 ⟨hl0,hd0⟩ hp
  have hy:=run_yield (P:=P) (args:=encs x) hl0 (by rw[hrec];exact hps x)
  rw[hrec] at hy
  refine⟨fn,_,assign,body,hy,roundIn_of_wpIn hfn (hassign _ s x W0 _ hp λN W hkf hpa=>?_)⟩
  have hl:=hkf.same _ _ (by omega) hl0 rfl
  have hd:=hkf.same _ _ (Nat.le_refl _) hd0 rfl
  have hlt:w.heap.size+1<W.heap.size:=(Array.getElem?_eq_some_iff.1 hl).1
  refine⟨_,run_beginRound hl (by rw[hrec]),?_⟩
  obtain⟨W2,hW2⟩:∃ W2,W2=W.putObj (w.heap.size+1) (.loop { rec .ready none with state:=.busy }):=⟨_,rfl⟩
  rw[<-hW2]
  have hl2:W2.heap[w.heap.size+1]?=some (.loop { rec .ready none with state:=.busy }):=by rw[hW2];exact World.putObj_heap_same hlt
  have hd2:W2.heap[w.heap.size]?=some (.deferred (some [])):=by rw[hW2,World.putObj_heap_other (by omega)];exact hd
  have ht:Turned w.heap.size W W2:=⟨_,_,_,by omega,hl,hW2⟩
  refine wpIn_mono (hbody _ s x N W2 (fA s x N W W2 hpa ht)) ?_
  have ends:∀ (jump:Option Code) (W3:World),KeepsFrom w.heap.size W2 W3->∃ W4,(Instr.endRound (w.heap.size+1) jump).run P W3=.ok (.bool jump.isNone) W4/\Turned w.heap.size W3 W4 /\
    W4.heap[w.heap.size+1]?=some (.loop (rec (if jump.isNone then .ready else .done) jump))/\W4.heap[w.heap.size]?=some (.deferred (some [])):=λjump W3 hk=>by
   have hl3:=hk.same _ _ (by omega) hl2 rfl
   have hd3:=hk.same _ _ (Nat.le_refl _) hd2 rfl
   have hrun:=run_endRound (P:=P) jump hl3
   refine⟨_,hrun,⟨_,_,_,by omega,hl3,rfl⟩,?_,?_⟩
   ·rw[World.putObj_heap_same (Array.getElem?_eq_some_iff.1 hl3).1,hrec]
   ·rw[World.putObj_heap_other (by omega)];exact hd3
  intro e a3 W3 hp3
  cases e with
  | normal =>
    obtain ⟨hk, hi⟩ := hp3
    obtain ⟨W4, hr, ht4, hl4, hd4⟩ := ends none W3 hk
    exact ⟨_, W4, hr, .inl ⟨rfl, ⟨hl4, hd4⟩, fI _ _ _ hi ht4⟩⟩
  | ret =>
    obtain ⟨hk, hi⟩ := hp3
    obtain ⟨W4, hr, ht4, hl4, hd4⟩ := ends (some .ret) W3 hk
    exact ⟨_, W4, hr, .inr ⟨rfl, .ret, _, fX _ _ _ _ hi ht4, hl4, hd4⟩⟩
  | exit id =>
    obtain ⟨hk, hi⟩ := hp3
    obtain ⟨W4, hr, ht4, hl4, hd4⟩ := ends (some (.exit id)) W3 hk
    exact ⟨_, W4, hr, .inr ⟨rfl, .exit id, _, fX _ _ _ _ hi ht4, hl4, hd4⟩⟩
  | goto t =>
    obtain ⟨hk, hi⟩ := hp3
    obtain ⟨W4, hr, ht4, hl4, hd4⟩ := ends (some (.goto t)) W3 hk
    exact ⟨_, W4, hr, .inr ⟨rfl, .goto t, _, fX _ _ _ _ hi ht4, hl4, hd4⟩⟩
  | panic _=>exact hp3.elim
  | outgrown=>exact hp3.elim
 refine hcall.mono ?_
 rintro e W2 ⟨⟨v,rfl⟩,⟨s,hds,⟨hl,hd⟩,hi⟩|⟨c,s,hx,hl,hd⟩⟩
 ·have hr:=run_endLoop (P:=P) hl (by rw[hrec];simp)
  refine⟨_,_,hr,?_⟩
  have hpe:(rec .ready none).pending=none:=by rw[hrec]
  rw[hpe]
  exact hdone w.heap.size s _ (Nat.le_refl _) hds (fI _ _ _ hi ⟨_,_,_,by omega,hl,rfl⟩) (by rw[World.putObj_heap_other (by omega)];exact hd)
 ·have hr:=run_endLoop (P:=P) hl (by rw[hrec];simp)
  refine⟨_,_,hr,?_⟩
  have hpe:(rec .done (some c)).pending=some c:=by rw[hrec]
  rw[hpe]
  exact hstop w.heap.size c s _ (Nat.le_refl _) (fX _ _ _ _ hx ⟨_,_,_,by omega,hl,rfl⟩) (by rw[World.putObj_heap_other (by omega)];exact hd)
open Go.ChangeShapes Go.WideShapes Go.ChangeAt Go.RowKit
def KAll (W:World)(g n:Nat)(key:List UInt8)(s:List Loc):Prop:=W.heap[g]?=some (.cells (rowL n s).toArray 22 (0,0))/\Told W key s
theorem back_one (j:Nat)(key:List UInt8)(hk:key.length=16):backP (backL j key) 1=(backL (j+1) key,0):=by
 unfold backP
 rw[if_pos ⟨backL_len j key hk,by omega,by omega⟩,show (1:Int).toNat=1 from rfl,<-backL_add,Nat.add_comm]
theorem tkeys_ok (w:World)(a:Option Addr)(ca:Nat)(key:List UInt8)(hk:key.length=16)(n:Nat)(hnm:n<=256)(hT:TTab w)(ha:Sees w a ca key)(N:Nat)(hN:N=n+1):
  Calls Tryz.prog 163 #[.slice a 16 ca,.int .i64 (N:Int)] w λe w'=>∃ g,e=.returned (.slice (some ⟨g,0,none⟩) N N)/\Full w' g n key/\w.heap.size<=g/\Below w.heap.size w w':=by
 obtain⟨i22,hi,hz0,hz1,hz2⟩:=info_parts Tryz.info22
 have HN:Hid (N=n+1):=hN
 have hN1:(N:Int)-1=(n:Int):=by omega
 have HT:Hid (TTab w):=hT
 have Hk:Hid (key.length=16):=hk
 clear hN hT hk
 go_enter Tryz.func163,Tryz.ntmps163
 go_wp2_with (at_make;refine wpList_make_full _ rfl _ _ 30 rfl w.heap.size 22 i22 (.slice none 0 0) 1 (by kernel_rfl) hi hz0 hz1 .i64 .i64 _ _ N rfl rfl ?hL ?hC ?b2 ?b3 ?b4 ?_)
 case hL=>rfl
 case hC=>rfl
 case b2=>rw[hz2];have:=HN.out;omega
 case b3=>unfold maxLen;have:=HN.out;omega
 case b4=>exact Nat.le_refl _
 intro w2 hown hgrow
 have hrow:=row_made HN.out hown
 have hbel:Below w.heap.size w w2:=(Below.refl _ _).grown hgrow (Nat.le_refl _) (by intro k h;cases h)
 have hs2:=ha.below hbel
 obtain⟨g,hgg⟩:∃ g,g=w.heap.size:=⟨_,rfl⟩
 rw[<-hgg] at hrow ⊢
 have HG:Hid (w.heap.size<=g):=by show w.heap.size<=g;omega
 clear hown hgrow hi hz0 hz1 hz2 i22 ha hgg
 go_wp2
 go_loopw [0,6] (λk i wr=>∃ (d:Option Addr) (c:Nat) (s:List Loc) (q:Int),q+s.length=n /\ -1<=q/\k=.slice d 16 c/\i=.int .i64 q/\Sees wr d c (backL s.length key)/\KAll wr g n key s/\Below w.heap.size w wr) (λ_ i _=>(intOf i+1).toNat)
 case atStart=>exact⟨a,ca,[],n,by simp,by omega,rfl,rfl,hs2,⟨hrow,Told.nil _ _⟩,hbel⟩
 case round=>
  obtain⟨d,c,s,q,hq,hq1,rfl,rfl,hs,⟨hrw,htold⟩,hb⟩:=hrel
  by_cases hge:0<=q
  ·obtain⟨p,rfl⟩:∃ p:Nat,q=(p:Int):=⟨q.toNat,by omega⟩
   have hps:p+s.length=n:=by omega
   have c2:wr.cell? ⟨g,p,none⟩=some (.slice none 0 0):=by rw[cell_of_row wr _ p _ _ _ hrw,List.getElem?_toArray];exact rowL_at n s p hps
   have f2:wr.frozen? ⟨g,p,none⟩=false:=by simp[World.frozen?,hrw]
   have hpN:p<N:=by have:=HN.out;omega
   have hNm:N<=257:=by have:=HN.out;omega
   have hs':=hs.slot hrw (rowL_val n s) p (.slice d 16 c)
   have ht':=(htold.push (d,c) hs).slot hrw (rowL_val n s) p (.slice d 16 c)
   have hr':(wr.setCell ⟨g,p,none⟩ (.slice d 16 c)).heap[g]?=some (.cells (rowL n (s++[(d,c)])).toArray 22 (0,0)):=by
    rw[heap_setCell_same wr g p _ 22 _ hrw,<-rowL_set n s (d,c) p hps];simp
   have hb':=hb.setCell (p:=⟨g,p,none⟩) HG.out (.slice d 16 c)
   have hT':=HT.out.below hb'
   have hst:=back_any _ d c (backL s.length key) 1 hT'.2.1 hT'.2.2 hs'
   have hbl:=backL_len s.length key Hk.out
   rw[back_one _ _ Hk.out,hbl] at hst
   have HPS:Hid (p+s.length=n):=hps
   have hSL:Hid ((s++[((d,c):Loc)]).length=s.length+1):=by show (s++[((d,c):Loc)]).length=s.length+1;simp
   have HE:Hid (Told (wr.setCell ⟨g,p,none⟩ (.slice d 16 c)) key (s++[(d,c)])/\(wr.setCell ⟨g,p,none⟩ (.slice d 16 c)).heap[g]?=some (.cells (rowL n (s++[(d,c)])).toArray 22 (0,0))/\Below w.heap.size w (wr.setCell ⟨g,p,none⟩ (.slice d 16 c))):=⟨ht',hr',hb'⟩
   clear hs hrw htold hb hs' ht' hr' hb' hT' hbl hps hq hq1 hge hs2 hbel hrow
   go_wp2_with fail
   refine hst.mono ?_
   rintro e w5 ⟨d6,c6,he,hs5,hb5⟩
   have hrl:(backL (s.length+1) key).length=16:=backL_len _ _ Hk.out
   try dsimp only at he hs5
   rw[hrl] at he
   subst he
   rw[<-hSL.out] at hs5
   have hrow5:KAll w5 g n key (s++[(d,c)]):=⟨by rw[hb5.block _ (Array.getElem?_eq_some_iff.1 HE.out.2.1).1];exact HE.out.2.1,HE.out.1.below hb5⟩
   have hbw:=HE.out.2.2.trans (hb5.mono HE.out.2.2.size)
   have HR5:Hid (KAll w5 g n key (s++[(d,c)])):=hrow5
   clear hst hb5 hrl HE c2 f2 hrow5
   go_wp2
   go_roundw
   case rel=>exact⟨d6,c6,s++[(d,c)],(p:Int)-1,by have:=HPS.out;have:=hSL.out;omega,by omega,rfl,by go_num,hs5,HR5.out,hbw⟩
   case measure=>simp[intOf]
  ·have hsl:s.length=n+1:=by omega
   have HFU:Hid (Full wr g n key):=⟨s,hsl,hrw,htold⟩
   have dq:decide (0<=q)=false:=decide_eq_false hge
   clear hs hrw htold hq hq1 hge hs2 hbel hrow hsl
   go_wp2
   go_ret
   exact⟨g,rfl,HFU.out,HG.out,hb⟩
theorem PAll.obj {w:World}{R:Nat}{s:Rv}{n g m:Nat}{v:Value}{ka:Option Addr}{kc:Nat}{ss:List BSl}(h:PAll w R s n g m v ka kc ss){k:Nat}(hk:POwn R g m v k):(∃ cur t,w.heap[k]?=some (.cells cur t (0,0))/\(t=77\/t=122\/t=201))\/∃ es cl,w.heap[k]?=some (.map es cl):=by
 rcases hk with rfl|rfl|rfl|hk
 ·exact .inl ⟨_,_,h.at',.inl rfl⟩
 ·exact .inl ⟨_,_,h.buf.at',.inr (.inl rfl)⟩
 ·exact .inr h.buf.map.isMap
 ·obtain⟨cur,h1,_⟩:=h.buf.row.isRow hk
  exact .inl ⟨_,_,h1,.inr (.inr rfl)⟩
theorem PAll.notin {w:World}{R:Nat}{s:Rv}{n g m:Nat}{v:Value}{ka:Option Addr}{kc:Nat}{ss:List BSl}(h:PAll w R s n g m v ka kc ss){k:Nat}{cur:Array Value}{t:TypeId}{fr:Nat×Nat}(hk:w.heap[k]?=some (.cells cur t fr))(h1:t≠77)(h2:t≠122)(h3:t≠201):¬ POwn R g m v k:=λho=>by
 rcases h.obj ho with ⟨cur',t',e,ht⟩|⟨es,cl,e⟩
 ·rw[e] at hk
  simp only[Option.some.injEq,Obj.cells.injEq] at hk
  obtain⟨_,rfl,_⟩:=hk
  rcases ht with rfl|rfl|rfl
  ·exact h1 rfl
  ·exact h2 rfl
  ·exact h3 rfl
 ·rw[e] at hk;cases hk
theorem Frs.notin {w:World}{R:Nat}{s:Rv}{n g m:Nat}{v:Value}{ka:Option Addr}{kc:Nat}{ss:List BSl}(h:PAll w R s n g m v ka kc ss){u:Value}{L:List Fr}(hf:Frs w u L){k:Nat}(hk:u.ownBlock=some k):¬ POwn R g m v k:=by
 obtain⟨os,h1,_,_⟩:=hf
 obtain⟨cur,h2,_⟩:=h1.isRow hk
 exact h.notin h2 (by decide) (by decide) (by decide)
theorem Frs.notbox {w:World}{u x:Value}{L:List Fr}(hf:Frs w u L){k:Nat}(hk:u.ownBlock=some k){t:TypeId}(ht:t≠41):¬ Boxed w k t x:=λhb=>by
 obtain⟨os,h1,_,_⟩:=hf
 obtain⟨cur,h2,_⟩:=h1.isRow hk
 unfold Boxed at hb
 rw[h2] at hb
 simp only[Option.some.injEq,Obj.cells.injEq] at hb
 exact ht hb.2.1.symm
theorem Turned.apart {B:Nat}{W W':World}(h:Turned B W W'):∃ l r,B<=l/\W.heap[l]?=some (.loop r)/\Apart (λk=>k=l) W W':=by
 obtain⟨l,r,r',hl,hh,rfl⟩:=h
 exact⟨l,r,hl,hh,rfl,rfl,rfl,by simp,λk _ hk=>World.putObj_heap_other hk⟩
theorem plain_loop {W:World}{l:Nat}{r:Loop}(h:W.heap[l]?=some (.loop r)):Plain W l:=λi x hc=>by
 simp[World.cell?,h] at hc
theorem Seen.turned {B:Nat}{W W':World}{F:Fr}{A:At}(h:Seen W F A)(ht:Turned B W W'):Seen W' F A:=⟨ht.sees h.key,ht.sees h.body,ht.sees h.tag⟩
theorem Apart.keepsFrom {F:Nat->Prop}{W W':World}{B:Nat}(h:Apart F W W')(hF:∀ k o,F k->B<=k->W.heap[k]?=some o->o.isCells=true):KeepsFrom B W W':=
 ⟨h.size, fun k o hB hk ho => by
   by_cases hf : F k
   · have := hF k o hf hB hk
     rw [ho] at this; cases this
   · rw [h.block k (Array.getElem?_eq_some_iff.1 hk).1 hf]; exact hk⟩
abbrev TQ:=(Rv×List Fr)×Nat
def TI (w:World)(R g m:Nat)(v0:Value)(o b0 b1 b2:Nat)(i0:Int)(q:TQ)(W:World):Prop:=
 ∃ v ka kc ss vo, PAll W R q.1.1 q.2 g m v ka kc ss ∧ Apart (POwn R g m v0) w W ∧ (∀ j, v.ownBlock = some j → v0.ownBlock = some j ∨ w.heap.size ≤ j) ∧ Frs W vo q.1.2 ∧ (∀ j, vo.ownBlock = some j → w.heap.size ≤ j) ∧
   Boxed W o 55 vo ∧ Boxed W b0 33 (.pointer (some ⟨R, 0, none⟩)) ∧ Boxed W b1 33 (.pointer (some ⟨R, 0, none⟩)) ∧ Boxed W b2 3 (.int .i64 i0) ∧ TTab W ∧ w.heap.size ≤ o ∧ m < w.heap.size
theorem boxed_apart {F:Nat->Prop}{W W':World}{b:Nat}{t:TypeId}{x:Value}(h:Boxed W b t x)(ha:Apart F W W')(hn:¬ F b):Boxed W' b t x:=(ha.block b h.lt hn).trans h
theorem TI.apart {w:World}{R g m:Nat}{v0:Value}{o b0 b1 b2:Nat}{i0:Int}{q:TQ}{W W':World}{G:Nat->Prop}(h:TI w R g m v0 o b0 b1 b2 i0 q W)(ha:Apart G W W')(hG:∀ k,G k->w.heap.size<=k)(hp:∀ k,G k->Plain W k)(hc:∀ k cur t fr,G k->W.heap[k]?=some (.cells cur t fr)->False)(hm:∀ k es cl,G k->W.heap[k]?=some (.map es cl)->False)(h3:∀ k,G k->3<=k):TI w R g m v0 o b0 b1 b2 i0 q W':=by
 obtain⟨v,ka,kc,ss,vo,h1,h2,h3',h4,h5,h6,h7,h8,h9,h10,h11,h12⟩:=h
 have hb:∀ {b t x},Boxed W b t x->¬ G b:=λhb hg=>hc _ _ _ _ hg hb
 refine⟨v,ka,kc,ss,vo,h1.apart ha (λk hk ho=>?_) hp,h2.trans ha (λk hk=>.inr (hG k hk)),h3',h4.apart ha (λk hk hg=>?_) hp,h5,boxed_apart h6 ha (hb h6),boxed_apart h7 ha (hb h7),boxed_apart h8 ha (hb h8),boxed_apart h9 ha (hb h9),h10.apart ha h3,h11,h12⟩
 ·rcases h1.obj ho with ⟨cur,t,e,_⟩|⟨es,cl,e⟩
  ·exact hc _ _ _ _ hk e
  ·exact hm _ _ _ hk e
 ·obtain⟨os,r1,_,_⟩:=h4
  obtain⟨cur,e,_⟩:=r1.isRow hk
  exact hc _ _ _ _ hg e
theorem TI.below {w:World}{R g m:Nat}{v0:Value}{o b0 b1 b2:Nat}{i0:Int}{q:TQ}{W W':World}(h:TI w R g m v0 o b0 b1 b2 i0 q W)(hb:Below W.heap.size W W'):TI w R g m v0 o b0 b1 b2 i0 q W':=
 h.apart (G:=λ_=>False) (Apart.of_below hb) (λ_ h=>h.elim) (λ_ h=>h.elim) (λ_ _ _ _ h=>h.elim) (λ_ _ _ h=>h.elim) (λ_ h=>h.elim)
theorem TI.turned {w:World}{R g m:Nat}{v0:Value}{o b0 b1 b2:Nat}{i0:Int}{q:TQ}{W W':World}{B:Nat}(h:TI w R g m v0 o b0 b1 b2 i0 q W)(hB:w.heap.size<=B)(h3:3<=B)(ht:Turned B W W'):TI w R g m v0 o b0 b1 b2 i0 q W':=by
 obtain⟨l,r,hl,hh,ha⟩:=ht.apart
 exact h.apart ha (λk e=>by omega) (λk e=>e▸plain_loop hh) (λk cur t fr e hk=>by rw[e,hh] at hk;cases hk) (λk es cl e hk=>by rw[e,hh] at hk;cases hk) (λk e=>by omega)
theorem TI.took {w:World}{R g m:Nat}{v0:Value}{o b0 b1 b2:Nat}{i0:Int}{s:Rv}{out:List Fr}{n:Nat}{W W':World}{v:Value}{ka:Option Addr}{kc:Nat}{ss:List BSl}{vo:Value}(h1:PAll W R s n g m v ka kc ss)(h2:Apart (POwn R g m v0) w W)(h3:∀ j,v.ownBlock=some j->v0.ownBlock=some j\/w.heap.size<=j)(h4:Frs W vo out)(h5:∀ j,vo.ownBlock=some j->w.heap.size<=j)(h6:Boxed W o 55 vo)(h7:Boxed W b0 33 (.pointer (some ⟨R,0,none⟩)))(h8:Boxed W b1 33 (.pointer (some ⟨R,0,none⟩)))(h9:Boxed W b2 3 (.int .i64 i0))(h10:TTab W)(h11:w.heap.size<=o)(h12:m<w.heap.size)(h13:∀ k,POwn R g m v k->3<=k){b':Bs}{n':Nat}(hl:PLeft W g m v b' n' W'){B:Nat}(hB:w.heap.size<=B):TI w R g m v0 o b0 b1 b2 i0 (({ s with b:=b' },out),n') W'/\KeepsFrom B W W':=by
 obtain⟨v',kb,kd,ss',g1,g2,g3⟩:=PLeft.go h1 hl
 have hbx:∀ {b t x},Boxed W b t x->t≠77->t≠122->t≠201->¬ POwn R g m v b:=λhb a1 a2 a3=>h1.notin hb a1 a2 a3
 refine⟨⟨v',kb,kd,ss',vo,g1,h2.trans g2 (λk hk=>?_),λj hj=>?_,h4.apart g2 (λk hk=>Frs.notin h1 h4 hk) (λk hk=>h1.plain hk),h5,boxed_apart h6 g2 (hbx h6 (by decide) (by decide) (by decide)),boxed_apart h7 g2 (hbx h7 (by decide) (by decide) (by decide)),boxed_apart h8 g2 (hbx h8 (by decide) (by decide) (by decide)),boxed_apart h9 g2 (hbx h9 (by decide) (by decide) (by decide)),h10.apart g2 h13,h11,h12⟩,g2.keepsFrom λk x hk hBk hx=>?_⟩
 ·rcases hk with rfl|rfl|rfl|hk
  ·exact .inl (.inl rfl)
  ·exact .inl (.inr (.inl rfl))
  ·exact .inl (.inr (.inr (.inl rfl)))
  ·exact(h3 k hk).imp (λh=>.inr (.inr (.inr h))) id
 ·rcases g3 j hj with h|h
  ·exact h3 j h
  ·exact .inr (Nat.le_trans h2.size h)
 ·rcases hk with rfl|rfl|rfl|hk
  ·rw[h1.at'] at hx;cases hx;rfl
  ·have:=h1.buf.at'
   unfold PA at this
   rw[this] at hx;cases hx;rfl
  ·omega
  ·obtain⟨cur,e,_⟩:=h1.buf.row.isRow hk
   rw[e] at hx;cases hx;rfl
theorem wpListIn_load_run {F:Fence}{n:Nat}{P:Program}{ops:Array Oper}{rest:List Oper}{o:Oper}{a:Act}{w:World}{Q:Exit->Act->World->Prop}(hgd:o.guard=none)(ty:TypeId)(x:Operand)(ho:o.op=.load ty x)(v r:Value)(hx:a.eval x=v)(hrun:(Instr.loadAt ty v).run P w=.ok r w)(h:wpListIn F n P ops Q rest (a.put o.dst r) w):wpListIn F n P ops Q (o::rest) a w:=by
 refine wpListIn_plain hgd λK hK=>?_
 unfold Oper.wpIn
 refine⟨?_,?_⟩
 ·simp[Oper.about,ho]
 ·rw[Oper.semAt_plain F _ _ (by rw[ho];intro c hc';cases hc')]
  simp[execOp,ho,hx,hrun,Result.andThen]
  exact hK _ _ h
theorem wpListIn_store_run {F:Fence}{n:Nat}{P:Program}{ops:Array Oper}{rest:List Oper}{o:Oper}{a:Act}{w w':World}{Q:Exit->Act->World->Prop}(hgd:o.guard=none)(ty:TypeId)(x y:Operand)(ho:o.op=.store ty x y)(v u:Value)(hx:a.eval x=v)(hy:a.eval y=u)(hrun:(Instr.storeAt ty v u).run P w=.ok () w')(h:wpListIn F n P ops Q rest (a.put o.dst undef) w'):wpListIn F n P ops Q (o::rest) a w:=by
 refine wpListIn_plain hgd λK hK=>?_
 unfold Oper.wpIn
 refine⟨?_,?_⟩
 ·simp[Oper.about,ho]
 ·rw[Oper.semAt_plain F _ _ (by rw[ho];intro c hc';cases hc')]
  simp[execOp,ho,hx,hy,hrun,Result.andThen]
  exact hK _ _ h
theorem fr_slice (w:World)(F:Fr)(A:At):(Instr.buildSlice 55 1 #[(0,.agg (frC F A))]).run Tryz.prog w=.ok (.slice (some ⟨w.heap.size,0,none⟩) 1 1) (w.alloc (.cells (frC F A) 41)):=by kernel_rfl
theorem wpListIn_slice_run {F:Fence}{n:Nat}{P:Program}{ops:Array Oper}{rest:List Oper}{o:Oper}{a:Act}{w w':World}{Q:Exit->Act->World->Prop}(hgd:o.guard=none)(t:TypeId)(len:Nat)(parts:Array (Nat×Operand))(ho:o.op=.buildSlice t len parts)(vs:List (Nat×Value))(r:Value)(hp:parts.toList.map (λp=>(p.1,a.eval p.2))=vs)(hrun:(Instr.buildSlice t len vs.toArray).run P w=.ok r w')(h:wpListIn F n P ops Q rest (a.put o.dst r) w'):wpListIn F n P ops Q (o::rest) a w:=by
 have hq:parts.map (λp=>(p.1,a.eval p.2))=vs.toArray:=by rw[<-hp,<-Array.toList_map,Array.toArray_toList]
 refine wpListIn_plain hgd λK hK=>?_
 unfold Oper.wpIn
 refine⟨?_,?_⟩
 ·simp[Oper.about,ho]
 ·rw[Oper.semAt_plain F _ _ (by rw[ho];intro c hc';cases hc')]
  simp only[execOp,ho,hq,Sem.run_bind,hrun,Result.andThen_ok,Sem.run_pure]
  exact hK _ _ h
def nxQ (q:TQ)(F:Fr)(key:List UInt8):TQ:=if q.1.1.last<F.r/\holdsB key F=true then (({ q.1.1 with last:=F.r },q.1.2++[F]),q.2) else q
theorem nxQ_cell (s:Rv)(i:Int)(p:Int×List Fr)(n:Nat)(b key:List UInt8):nxQ ((cellP s i p,p.2),n) (getF b) key=((cellP s i (goS key p b),(goS key p b).2),n):=by
 unfold nxQ goS
 have e:(cellP s i p).last=p.1:=rfl
 dsimp only
 rw[e]
 split<;>rfl
def Kp (Z:World->Prop):Prop:=∀ W W' (F:Nat->Prop),Z W->Apart F W W'->(∀ k,F k->Plain W k)->(∀ k cur fr,F k->W.heap[k]?=some (.cells cur 22 fr)->False)->Z W'
theorem Kp.and {Y Z:World->Prop}(h:Kp Y)(h':Kp Z):Kp λW=>Y W/\Z W:=λW W' F ⟨a,b⟩ ha hp hn=>⟨h W W' F a ha hp hn,h' W W' F b ha hp hn⟩
theorem Full.kp (g n:Nat)(key:List UInt8):Kp λW=>Full W g n key:=by
 rintro W W' F ⟨s,h1,h2,h3⟩ ha hp hn
 exact⟨s,h1,(ha.block g (Array.getElem?_eq_some_iff.1 h2).1 λhf=>hn g _ _ hf h2).trans h2,λi p hi=>(h3 i p hi).apart ha hp⟩
theorem BTold.kp (vo:Value)(os:List Bl):Kp λW=>Row E22 W vo os/\SeenB W os:=by
 rintro W W' F ⟨h1,h2⟩ ha hp hn
 refine⟨h1.apart ha λk hk hf=>?_,λx hx=>(h2 x hx).apart ha hp⟩
 obtain⟨cur,h3,_⟩:=h1.isRow hk
 exact hn k _ _ hf h3
theorem Kp.below {Z:World->Prop}(h:Kp Z){W W':World}(hz:Z W)(hb:Below W.heap.size W W'):Z W':=h W W' (λ_=>False) hz (Apart.of_below hb) (λ_ h=>h.elim) (λ_ _ _ h=>h.elim)
theorem Kp.turned {Z:World->Prop}(h:Kp Z){W W':World}{B:Nat}(hz:Z W)(ht:Turned B W W'):Z W':=by
 obtain⟨l,r,_,hl,ha⟩:=ht.apart
 exact h W W' _ hz ha (λk e=>e▸plain_loop hl) (λk cur fr e hk=>by rw[e,hl] at hk;cases hk)
theorem Kp.took {Z:World->Prop}(h:Kp Z){W W':World}{R:Nat}{s:Rv}{n g m:Nat}{v:Value}{ka:Option Addr}{kc:Nat}{ss:List BSl}(hP:PAll W R s n g m v ka kc ss){b':Bs}{n':Nat}(hl:PLeft W g m v b' n' W')(hz:Z W):Z W':=by
 obtain⟨v',kb,kd,ss',g1,g2,g3⟩:=PLeft.go hP hl
 refine h W W' _ hz g2 (λk hk=>hP.plain hk) λk cur fr hk e=>hP.notin e (by decide) (by decide) (by decide) hk
abbrev TS:=TQ×(World->Prop)
def TZ (w:World)(R g m:Nat)(v0:Value)(o b0 b1 b2:Nat)(i0:Int)(s:TS)(W:World):Prop:=TI w R g m v0 o b0 b1 b2 i0 s.1 W/\s.2 W/\Kp s.2
structure Ho where
 F:Fr
 A:At
 key:List UInt8
 ka:Option Addr
 kc:Nat
def hoV (x:Ho):Array Value:=#[.agg (frC x.F x.A),.slice x.ka 16 x.kc]
structure HoAt (W:World)(x:Ho):Prop where
 seen:Seen W x.F x.A
 num:x.F.n<18446744073709551616
 key:Sees W x.ka x.kc x.key
 len:x.key.length=16
theorem HoAt.below {W W':World}{x:Ho}(h:HoAt W x)(hb:Below W.heap.size W W'):HoAt W' x:=⟨h.seen.below hb,h.num,h.key.below hb,h.len⟩
theorem HoAt.turned {W W':World}{x:Ho}{B:Nat}(h:HoAt W x)(ht:Turned B W W'):HoAt W' x:=⟨h.seen.turned ht,h.num,ht.sees h.key,h.len⟩
theorem Full.at {W:World}{g n:Nat}{key:List UInt8}(h:Full W g n key){j:Nat}(hj:j<=n):∃ p:Loc,W.cell? ⟨g,j,none⟩=some (.slice p.1 16 p.2)/\Sees W p.1 p.2 (backL (n-j) key):=by
 obtain⟨s,h1,h2,h3⟩:=h
 obtain⟨p,e1,e2⟩:=rowL_full n s h1 j hj
 exact⟨p,by rw[cell_of_row W _ j _ _ _ h2,List.getElem?_toArray];exact e2,h3 _ p e1⟩
end Go.Proofs.YthogohkieiogiaaGreatDoor
