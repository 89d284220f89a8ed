/-
  Configs, rounds, cells and times over plain numbers. No program here.
  Cells and times over plain numbers: where a slot begins, in which cell a time lies, the next round of a node. No program here.
  Keys, and the rounds in which they are told, over plain numbers. No program here.
  What waits, as a list; how it is taken out; which cell is the fullest. No program here.
  First come, first told, as lists. No program here.
-/
import Derived.Test.YthogohkieiogiaaGreatDoorGround
import Derived.WalkKit
namespace Go.Proofs.YthogohkieiogiaaGreatDoor
set_option maxRecDepth 20000
structure Cf where
 n:Int
 f:Int
 s:Int
 d:Int
 k:Int
 e:Int
 v:Int
 r:Int
 l:Int
 p:Int
def Cf.zero:Cf:=⟨0,0,0,0,0,0,0,0,0,0⟩
def mxN (a c:Int):Int:=if a<c then c else a
def mnN (b d:Int):Int:=if d<b then d else b
def wiN (n l m:Int):Int:=mnN (mxN n l) m
theorem wi_in {n l m:Int}(h:l<=m):l<=wiN n l m/\wiN n l m<=m:=by
 unfold wiN mnN mxN
 split<;>split<;>omega
theorem wi_eq {n l m:Int}(h:l<=m):n=wiN n l m↔l<=n/\n<=m:=by
 unfold wiN mnN mxN
 split<;>split<;>omega
def nodesB (c:Cf):Bool:=decide (1<=c.n/\c.n<=8/\0<=c.f/\3*c.f<c.n)
def slotsB (c:Cf):Bool:=decide (300<=c.s/\c.s<=10000/\1<=c.e/\c.e<=4*c.s/\100<=c.v/\c.v<=4*c.s)
def keysB (c:Cf):Bool:=decide (1<=c.d/\c.d<=4/\c.d+4<=c.k/\c.k<=256/\1<=c.p/\c.p<=64)
def clocksB (c:Cf):Bool:=decide (0<=c.r/\c.r<=5/\0<=c.l/\c.l<=5)
def okB (c:Cf):Bool:=nodesB c&&slotsB c&&keysB c&&clocksB c
def bNodes (c:Cf):Cf:={ c with n:=wiN c.n 1 8,f:=wiN c.f 0 ((wiN c.n 1 8-1).tdiv 3) }
def bSlots (c:Cf):Cf:={ c with s:=wiN c.s 300 10000,e:=wiN c.e 1 (4*wiN c.s 300 10000),v:=wiN c.v 100 (4*wiN c.s 300 10000) }
def bKeys (c:Cf):Cf:={ c with d:=wiN c.d 1 4,k:=wiN c.k (wiN c.d 1 4+4) 256,p:=wiN c.p 1 64 }
def bClocks (c:Cf):Cf:={ c with r:=wiN c.r 0 5,l:=wiN c.l 0 5 }
def ssameB (a b:Cf):Bool:=a.n==b.n&&a.f==b.f&&a.s==b.s&&a.d==b.d&&a.k==b.k&&a.e==b.e&&a.v==b.v&&a.r==b.r&&a.l==b.l&&a.p==b.p
theorem same_nodes (c:Cf):ssameB c (bNodes c)=nodesB c:=by
 rw[Bool.eq_iff_iff]
 simp only[ssameB,bNodes,nodesB,Bool.and_eq_true,beq_iff_eq,decide_eq_true_eq,and_true]
 have h1:=wi_in (n:=c.n) (l:=1) (m:=8) (by omega)
 have h2:=wi_eq (n:=c.n) (l:=1) (m:=8) (by omega)
 generalize wiN c.n 1 8=q at *
 have h3:(q-1).tdiv 3=(q-1)/3:=Int.tdiv_eq_ediv_of_nonneg (by omega)
 have h4:=wi_eq (n:=c.f) (l:=0) (m:=(q-1).tdiv 3) (by rw[h3];omega)
 rw[h3] at *
 generalize wiN c.f 0 ((q-1)/3)=u at *
 constructor
 ·rintro⟨a,b⟩;have:=h2.1 a;have:=h4.1 b;omega
 ·rintro⟨a,b,d,e⟩;have:=h2.2 ⟨a,b⟩;exact⟨this,h4.2 (by omega)⟩
theorem same_slots (c:Cf):ssameB c (bSlots c)=slotsB c:=by
 rw[Bool.eq_iff_iff]
 simp only[ssameB,bSlots,slotsB,Bool.and_eq_true,beq_iff_eq,decide_eq_true_eq,and_true,true_and]
 have h1:=wi_in (n:=c.s) (l:=300) (m:=10000) (by omega)
 have h2:=wi_eq (n:=c.s) (l:=300) (m:=10000) (by omega)
 generalize wiN c.s 300 10000=q at *
 have h3:=wi_eq (n:=c.e) (l:=1) (m:=4*q) (by omega)
 have h4:=wi_eq (n:=c.v) (l:=100) (m:=4*q) (by omega)
 generalize wiN c.e 1 (4*q)=u at *
 generalize wiN c.v 100 (4*q)=t at *
 constructor
 ·rintro⟨⟨a,b⟩,d⟩;have:=h2.1 a;have:=h3.1 b;have:=h4.1 d;omega
 ·rintro⟨a,b,d,e,f,g⟩;have:=h2.2 ⟨a,b⟩;exact⟨⟨this,h3.2 (by omega)⟩,h4.2 (by omega)⟩
theorem same_keys (c:Cf):ssameB c (bKeys c)=keysB c:=by
 rw[Bool.eq_iff_iff]
 simp only[ssameB,bKeys,keysB,Bool.and_eq_true,beq_iff_eq,decide_eq_true_eq,and_true,true_and]
 have h1:=wi_in (n:=c.d) (l:=1) (m:=4) (by omega)
 have h2:=wi_eq (n:=c.d) (l:=1) (m:=4) (by omega)
 generalize wiN c.d 1 4=q at *
 have h3:=wi_eq (n:=c.k) (l:=q+4) (m:=256) (by omega)
 have h4:=wi_eq (n:=c.p) (l:=1) (m:=64) (by omega)
 generalize wiN c.k (q+4) 256=u at *
 generalize wiN c.p 1 64=t at *
 constructor
 ·rintro⟨⟨a,b⟩,d⟩;have:=h2.1 a;have:=h3.1 b;have:=h4.1 d;omega
 ·rintro⟨a,b,d,e,f,g⟩;have:=h2.2 ⟨a,b⟩;exact⟨⟨this,h3.2 (by omega)⟩,h4.2 (by omega)⟩
theorem same_clocks (c:Cf):ssameB c (bClocks c)=clocksB c:=by
 rw[Bool.eq_iff_iff]
 simp only[ssameB,bClocks,clocksB,Bool.and_eq_true,beq_iff_eq,decide_eq_true_eq,and_true,true_and]
 have h2:=wi_eq (n:=c.r) (l:=0) (m:=5) (by omega)
 have h3:=wi_eq (n:=c.l) (l:=0) (m:=5) (by omega)
 generalize wiN c.r 0 5=q at *
 generalize wiN c.l 0 5=u at *
 constructor
 ·rintro⟨a,b⟩;have:=h2.1 a;have:=h3.1 b;omega
 ·rintro⟨a,b,d,e⟩;exact⟨h2.2 ⟨a,b⟩,h3.2 ⟨d,e⟩⟩
structure Right (c:Cf):Prop where
 n0:1<=c.n
 n1:c.n<=8
 f0:0<=c.f
 f1:3*c.f<c.n
 s0:300<=c.s
 s1:c.s<=10000
 e0:1<=c.e
 e1:c.e<=4*c.s
 v0:100<=c.v
 v1:c.v<=4*c.s
 d0:1<=c.d
 d1:c.d<=4
 k0:c.d+4<=c.k
 k1:c.k<=256
 p0:1<=c.p
 p1:c.p<=64
 r0:0<=c.r
 r1:c.r<=5
 l0:0<=c.l
 l1:c.l<=5
theorem right_of {c:Cf}(h:okB c=true):Right c:=by
 simp only[okB,nodesB,slotsB,keysB,clocksB,Bool.and_eq_true,decide_eq_true_eq] at h
 obtain⟨⟨⟨⟨a1,a2,a3,a4⟩,b1,b2,b3,b4,b5,b6⟩,c1,c2,c3,c4,c5,c6⟩,d1,d2,d3,d4⟩:=h
 exact⟨a1,a2,a3,a4,b1,b2,b3,b4,b5,b6,c1,c2,c3,c4,c5,c6,d1,d2,d3,d4⟩
def rndN (c:Cf):Int:=if okB c=true then c.n*c.s else 0
def nodeB (c:Cf)(i:Int):Bool:=okB c&&decide (0<=i/\i<c.n)
def timeB (t:Int):Bool:=decide (0<=t/\t<=1099511627776)
theorem node_ok {c:Cf}{i:Int}(h:nodeB c i=true):okB c=true/\0<=i/\i<c.n:=by
 simp only[nodeB,Bool.and_eq_true,decide_eq_true_eq] at h
 exact h
theorem rnd_right {c:Cf}(h:okB c=true):rndN c=c.n*c.s:=by rw[rndN,if_pos h]
theorem rnd_in {c:Cf}(h:okB c=true):300<=rndN c/\rndN c<=80000/\c.s<=rndN c:=by
 rw[rnd_right h]
 have g:=right_of h
 have h1:=g.n0;have h2:=g.n1;have h3:=g.s0;have h4:=g.s1
 have a1:1*c.s<=c.n*c.s:=Int.mul_le_mul_of_nonneg_right h1 (by omega)
 have a2:c.n*c.s<=8*c.s:=Int.mul_le_mul_of_nonneg_right h2 (by omega)
 omega
def cellB (c:Cf)(r s:Int):Bool:=decide (0<=r/\r<1048576)&&nodeB c s
def atN (c:Cf)(r s:Int):Int:=r*rndN c+s*c.s
theorem cell_ok {c:Cf}{r s:Int}(h:cellB c r s=true):0<=r/\r<1048576/\nodeB c s=true:=by
 simp only[cellB,Bool.and_eq_true,decide_eq_true_eq] at h
 exact⟨h.1.1,h.1.2,h.2⟩
theorem slot_in {c:Cf}{s:Int}(h:nodeB c s=true):0<=s*c.s/\s*c.s+c.s<=rndN c:=by
 obtain⟨ho,i0,i1⟩:=node_ok h
 have g:=right_of ho
 have h3:=g.s0
 rw[rnd_right ho]
 have a1:0<=s*c.s:=Int.mul_nonneg i0 (by omega)
 have a2:(s+1)*c.s<=c.n*c.s:=Int.mul_le_mul_of_nonneg_right (by omega) (by omega)
 rw[Int.add_mul,Int.one_mul] at a2
 exact⟨a1,a2⟩
theorem rounds_in {c:Cf}{r:Int}(ho:okB c=true)(h0:0<=r)(h1:r<1048576):0<=r*rndN c/\r*rndN c<=83886000000:=by
 have hr:=rnd_in ho
 have a1:0<=r*rndN c:=Int.mul_nonneg h0 (by omega)
 have a2:r*rndN c<=r*80000:=Int.mul_le_mul_of_nonneg_left (by omega) h0
 omega
theorem at_in {c:Cf}{r s:Int}(h:cellB c r s=true):0<=r*rndN c/\r*rndN c<=83886000000/\0<=s*c.s/\s*c.s<=80000/\0<=atN c r s/\atN c r s<=83886080000/\300<=c.s/\c.s<=10000:=by
 obtain⟨r0,r1,hn⟩:=cell_ok h
 have ho:=(node_ok hn).1
 have h1:=rounds_in ho r0 r1
 have h2:=slot_in hn
 have h3:=rnd_in ho
 have h4:=(right_of ho).s0
 have h5:=(right_of ho).s1
 unfold atN
 omega
def roundB (n:Int):Bool:=decide (0<=n/\n<1048576)
def keyB (c:Cf)(i:Int):Bool:=decide (1<=i/\i<=c.k)
def sinB (c:Cf)(st r:Int):Bool:=okB c&&roundB st&&roundB r
def whB (c:Cf)(sl st i:Int):Bool:=okB c&&roundB st&&keyB c i&&cellB c (st+i+c.d) sl
def whN (c:Cf)(sl st i:Int):Int:=atN c (st+i+c.d) sl
def secN (c:Cf)(sl st r m:Int):Int:=
 if sinB c st r=true then (if keyB c (r-st)=true then (if timeB m=true then (if whB c sl st (r-st)=true then (if whN c sl st (r-st)<=m then 12 else 0) else 1) else 1) else 6) else 1
def sltB (c:Cf)(sl:Int):Bool:=decide (0<=sl/\sl<c.n)
def rsecN (c:Cf)(sl st r m:Int):Int:=if 0<=sl/\sl<c.n then secN c sl st r m else 1
theorem round_in {n:Int}(h:roundB n=true):0<=n/\n<1048576:=of_decide_eq_true h
theorem key_in {c:Cf}{i:Int}(h:keyB c i=true):1<=i/\i<=c.k:=of_decide_eq_true h
theorem sin_in {c:Cf}{st r:Int}(h:sinB c st r=true):okB c=true/\(0<=st/\st<1048576)/\0<=r/\r<1048576:=by
 simp only[sinB,Bool.and_eq_true] at h
 exact⟨h.1.1,round_in h.1.2,round_in h.2⟩
theorem wh_of {c:Cf}{sl st i:Int}(ho:okB c=true)(h0:0<=st)(h1:st<1048576)(s0:0<=sl)(s1:sl<c.n)(k0:1<=i)(k1:i<=c.k):whB c sl st i=decide (st+i+c.d<1048576):=by
 have g:=right_of ho
 have hd:=g.d0
 have:0<=st+i+c.d:=by omega
 simp[whB,roundB,keyB,cellB,nodeB,ho,h0,h1,s0,s1,k0,k1,this]
structure It where
 e:Int
 i:Int
 b:List UInt8
abbrev Key:=Int×Int
def It.k (x:It):Key:=(x.e,x.i)
def isK (k:Key)(x:It):Bool:=decide (x.k=k)
def lowK (k:Key)(x:It):Bool:=decide (x.e<k.1)||(decide (x.e=k.1)&&decide (x.i<=k.2))
def cnt (L:List It)(k:Key):Nat:=L.countP (isK k)
def split {α:Type}(p:α->Bool)(m:Nat):List α->List α×List α
 | []=>([],[])
 | x::r=>if (split p m r).1.length=m then ((split p m r).1,x::(split p m r).2) else if p x=true then (x::(split p m r).1,(split p m r).2) else ((split p m r).1,x::(split p m r).2)
theorem split_stop {α:Type}(p:α->Bool)(m:Nat)(x:α)(r:List α)(h:(split p m r).1.length=m):split p m (x::r)=((split p m r).1,x::(split p m r).2):=by simp[split,h]
theorem split_yes {α:Type}(p:α->Bool)(m:Nat)(x:α)(r:List α)(h:(split p m r).1.length≠m)(hp:p x=true):split p m (x::r)=(x::(split p m r).1,(split p m r).2):=by simp[split,h,hp]
theorem split_no {α:Type}(p:α->Bool)(m:Nat)(x:α)(r:List α)(hp:p x=false):split p m (x::r)=((split p m r).1,x::(split p m r).2):=by simp[split,hp]
theorem split_full {α:Type}(p:α->Bool)(m:Nat)(r:List α)(h:(split p m r).1.length=m):∀ pre:List α,split p m (pre++r)=((split p m r).1,pre++(split p m r).2)
 | []=>by simp
 | x :: pre => by
   have ih := split_full p m r h pre
   rw [List.cons_append, split_stop _ _ _ _ (by rw [ih]; exact h), ih]; rfl
theorem split_len {α:Type}(p:α->Bool)(m:Nat):∀ L:List α,(split p m L).1.length+(split p m L).2.length=L.length/\(split p m L).1.length<=m
 | []=>by simp[split]
 | x :: r => by
   have ih := split_len p m r
   by_cases h : (split p m r).1.length = m
   · rw [split_stop _ _ _ _ h]; simp; omega
   · cases hp : p x
     · rw [split_no _ _ _ _ hp]; simp; omega
     · rw [split_yes _ _ _ _ h hp]; simp; omega
theorem split_all {α:Type}(p:α->Bool)(m:Nat):∀ L:List α,L.length<=m->split p m L=(L.filter p,L.filter λx => !p x)
 | [],_=>by simp[split]
 | x :: r, hl => by
   rw [List.length_cons] at hl
   have ih := split_all p m r (by omega)
   have hf : (split p m r).1.length ≠ m := by have := split_len p m r; omega
   cases hp : p x
   · rw [split_no _ _ _ _ hp, ih]; simp [hp]
   · rw [split_yes _ _ _ _ hf hp, ih]; simp [hp]
theorem split_map {α β:Type}(f:α->β)(p:β->Bool)(m:Nat):∀ L:List α,split p m (L.map f)=((split (λx=>p (f x)) m L).1.map f,(split (λx=>p (f x)) m L).2.map f)
 | []=>by simp[split]
 | x :: r => by
   have ih := split_map f p m r
   by_cases h : (split (fun x => p (f x)) m r).1.length = m
   · rw [List.map_cons, split_stop p m (f x) _ (by rw [ih]; simpa using h), split_stop _ _ _ _ h, ih]; simp
   · cases hp : p (f x)
     · rw [List.map_cons, split_no p m (f x) _ hp, split_no (fun x => p (f x)) _ _ _ hp, ih]; simp
     · rw [List.map_cons, split_yes p m (f x) _ (by rw [ih]; simpa using h) hp, split_yes (fun x => p (f x)) _ _ _ h hp, ih]; simp
theorem split_mem {α:Type}(p:α->Bool)(m:Nat):∀ (L:List α) (y:α),(y∈(split p m L).1->y∈L/\p y=true)/\(y∈(split p m L).2->y∈L)
 | [],y=>by simp[split]
 | x :: r, y => by
   have ih := split_mem p m r y
   by_cases h : (split p m r).1.length = m
   · rw [split_stop _ _ _ _ h]
     refine ⟨fun hy => ⟨List.mem_cons_of_mem _ (ih.1 hy).1, (ih.1 hy).2⟩, fun hy => ?_⟩
     rcases List.mem_cons.1 hy with rfl | hy
     · exact List.mem_cons_self
     · exact List.mem_cons_of_mem _ (ih.2 hy)
   · cases hp : p x
     · rw [split_no _ _ _ _ hp]
       refine ⟨fun hy => ⟨List.mem_cons_of_mem _ (ih.1 hy).1, (ih.1 hy).2⟩, fun hy => ?_⟩
       rcases List.mem_cons.1 hy with rfl | hy
       · exact List.mem_cons_self
       · exact List.mem_cons_of_mem _ (ih.2 hy)
     · rw [split_yes _ _ _ _ h hp]
       refine ⟨fun hy => ?_, fun hy => List.mem_cons_of_mem _ (ih.2 hy)⟩
       rcases List.mem_cons.1 hy with rfl | hy
       · exact ⟨List.mem_cons_self, hp⟩
       · exact ⟨List.mem_cons_of_mem _ (ih.1 hy).1, (ih.1 hy).2⟩
theorem split_none {α:Type}(p:α->Bool)(m:Nat):∀ L:List α,L.any p=false->split p m L=([],L)
 | [],_=>by simp[split]
 | x :: r, h => by
   rw [List.any_cons, Bool.or_eq_false_iff] at h
   rw [split_no _ _ _ _ h.1, split_none p m r h.2]
def lastI {α:Type}(p:α->Bool):List α->Nat
 | []=>0
 | _::r=>if r.any p=true then lastI p r+1 else 0
theorem split_one {α:Type}(p:α->Bool):∀ L:List α,L.any p=true->(split p 1 L).1.length=1/\(split p 1 L).2=L.eraseIdx (lastI p L)
 | [],h=>by simp at h
 | x :: r, h => by
   by_cases hr : r.any p = true
   · obtain ⟨h1, h2⟩ := split_one p r hr
     rw [split_stop _ _ _ _ h1, lastI, if_pos hr]
     exact ⟨h1, by simp [h2]⟩
   · rw [Bool.not_eq_true] at hr
     have hx : p x = true := by rw [List.any_cons, hr, Bool.or_false] at h; exact h
     have hs := split_none p 1 r hr
     rw [split_yes _ _ _ _ (by rw [hs]; simp) hx, hs, lastI, if_neg (by simp [hr])]
     simp
theorem isK_iff {k:Key}{x:It}:isK k x=true↔x.k=k:=by simp[isK]
theorem cnt_append (L M:List It)(k:Key):cnt (L++M) k=cnt L k+cnt M k:=by simp[cnt]
theorem cnt_one (x:It)(k:Key):cnt [x] k=if x.k=k then 1 else 0:=by simp[cnt,isK,List.countP_cons]
theorem cnt_le (L:List It)(k:Key):cnt L k<=L.length:=List.countP_le_length
theorem cnt_pos {L:List It}{x:It}(h:x∈L):1<=cnt L x.k:=List.countP_pos_iff.2 ⟨x,h,by simp[isK]⟩
theorem cnt_any {L:List It}{k:Key}:L.any (isK k)=true↔1<=cnt L k:=by
 rw[cnt,Nat.succ_le_iff,List.countP_pos_iff,List.any_eq_true]
def fullF (L:List It)(f:Key)(l:List It):Key:=l.foldl (λf x=>if cnt L f<cnt L x.k then x.k else f) f
def full (L:List It):Key:=match L with
 | []=>(0,0)
 | x::_=>fullF L x.k L
theorem fullF_snoc (L:List It)(f:Key)(l:List It)(x:It):fullF L f (l++[x])=if cnt L (fullF L f l)<cnt L x.k then x.k else fullF L f l:=by rw[fullF,List.foldl_append];rfl
theorem fullF_ge (L:List It):∀ (l:List It) (f:Key),cnt L f<=cnt L (fullF L f l)/\(∀ x∈l,cnt L x.k<=cnt L (fullF L f l))/\(fullF L f l=f\/∃ x∈l,fullF L f l=x.k)
 | [],f=>by simp[fullF]
 | y :: l, f => by
   by_cases hlt : cnt L f < cnt L y.k
   · have e : fullF L f (y :: l) = fullF L y.k l := by simp only [fullF, List.foldl_cons, if_pos hlt]
     obtain ⟨h1, h2, h3⟩ := fullF_ge L l y.k
     rw [e]
     refine ⟨by omega, fun x hx => ?_, ?_⟩
     · rcases List.mem_cons.1 hx with rfl | hx
       · exact h1
       · exact h2 x hx
     · rcases h3 with h3 | ⟨x, hx, h3⟩
       · exact .inr ⟨y, List.mem_cons_self, h3⟩
       · exact .inr ⟨x, List.mem_cons_of_mem _ hx, h3⟩
   · have e : fullF L f (y :: l) = fullF L f l := by simp only [fullF, List.foldl_cons, if_neg hlt]
     obtain ⟨h1, h2, h3⟩ := fullF_ge L l f
     rw [e]
     refine ⟨h1, fun x hx => ?_, ?_⟩
     · rcases List.mem_cons.1 hx with rfl | hx
       · omega
       · exact h2 x hx
     · rcases h3 with h3 | ⟨x, hx, h3⟩
       · exact .inl h3
       · exact .inr ⟨x, List.mem_cons_of_mem _ hx, h3⟩
theorem full_max {L:List It}(k:Key)(hne:L≠[]):cnt L k<=cnt L (full L)/\∃ x∈L,full L=x.k:=by
 cases L with
 | nil=>exact absurd rfl hne
 | cons y r =>
   have e : full (y :: r) = fullF (y :: r) y.k (y :: r) := rfl
   obtain ⟨h1, h2, h3⟩ := fullF_ge (y :: r) (y :: r) y.k
   rw [← e] at h1 h2 h3
   constructor
   · by_cases hk : 1 ≤ cnt (y :: r) k
     · obtain ⟨x, hx, hp⟩ := List.any_eq_true.1 (cnt_any.2 hk)
       have := h2 x hx
       rw [isK_iff.1 hp] at this
       exact this
     · omega
   · rcases h3 with h3 | h3
     · exact ⟨y, List.mem_cons_self, h3⟩
     · exact h3
structure Bs where
 most:Nat
 lost:Nat
 L:List It
def argB (e i:Int)(x:List UInt8):Bool:=decide (0<=e)&&decide (e<=65535)&&decide (1<=i)&&decide (i<=256)&&decide (x.length<=96)
theorem argB_iff {e i:Int}{x:List UInt8}:argB e i x=true↔0<=e/\e<=65535/\1<=i/\i<=256/\x.length<=96:=by
 simp[argB,and_assoc]
structure Bs.ok (s:Bs):Prop where
 lo:1<=s.most
 hi:s.most<=64
 len:s.L.length<=s.most
 arg:∀ x∈s.L,argB x.e x.i x.b=true
def heldB (L:List It)(x:List UInt8):Bool:=L.any λy=>y.b==x
def bputE (s:Bs)(e i:Int)(x:List UInt8):Int:=
 if argB e i x=false then 1 else if heldB s.L x=true then 4 else if s.L.length=s.most/\cnt s.L (e,i)=cnt s.L (full s.L) then 9 else 0
def putV (s:Bs)(e i:Int)(x:List UInt8):Bs:=
 if argB e i x=false then s else if heldB s.L x=true then s
 else if s.L.length=s.most then
  if cnt s.L (e,i)=cnt s.L (full s.L) then { s with lost:=s.lost+1 } else { s with lost:=s.lost+1,L:=(split (isK (full s.L)) 1 s.L).2++[⟨e,i,x⟩] }
 else { s with L:=s.L++[⟨e,i,x⟩] }
def takeV (s:Bs)(k:Key):Bs:={ s with L:=s.L.filter λx => !isK k x }
def btakeL (s:Bs)(k:Key):List (List UInt8):=(s.L.filter (isK k)).map It.b
def dropV (s:Bs)(k:Key):Bs:={ s with L:=s.L.filter λx => !lowK k x }
def dropN (s:Bs)(k:Key):Nat:=(s.L.filter (lowK k)).length
theorem Bs.ok.filter {s:Bs}(h:s.ok)(p:It->Bool):Bs.ok { s with L:=s.L.filter p }:=
 ⟨h.lo,h.hi,Nat.le_trans (List.length_filter_le _ _) h.len,λx hx=>h.arg x (List.mem_filter.1 hx).1⟩
theorem takeV_ok {s:Bs}(h:s.ok)(k:Key):(takeV s k).ok:=h.filter _
theorem dropV_ok {s:Bs}(h:s.ok)(k:Key):(dropV s k).ok:=h.filter _
theorem full_any {L:List It}(hne:L≠[]):L.any (isK (full L))=true:=by
 obtain⟨x,hx,e⟩:=(full_max (full L) hne).2
 exact List.any_eq_true.2 ⟨x,hx,isK_iff.2 e.symm⟩
theorem putV_ok {s:Bs}(h:s.ok)(e i:Int)(x:List UInt8):(putV s e i x).ok:=by
 unfold putV
 cases ha:argB e i x
 ·simpa using h
 ·rw[if_neg (by simp)]
  split
  ·exact h
  ·have hone:∀ M:List It,(∀ y∈M,y∈s.L)->M.length<s.most->Bs.ok { s with L:=M++[⟨e,i,x⟩] }:=λM hM hl=>
    ⟨h.lo, h.hi, by simp; omega, fun y hy => by
      rcases List.mem_append.1 hy with hy | hy
      · exact h.arg y (hM y hy)
      · rw [List.mem_singleton] at hy; subst hy; exact ha⟩
   split
   ·rename_i hfull
    split
    ·exact⟨h.lo,h.hi,h.len,h.arg⟩
    ·have hne:s.L≠[]:=by rintro e;rw[e] at hfull;have:=h.lo;simp at hfull;omega
     obtain⟨h1,_⟩:=split_one _ _ (full_any hne)
     have h2:=(split_len (isK (full s.L)) 1 s.L).1
     have h3:=hone (split (isK (full s.L)) 1 s.L).2 (λy hy=>(split_mem _ _ _ y).2 hy) (by omega)
     exact⟨h3.lo,h3.hi,h3.len,h3.arg⟩
   ·rename_i hfull
    exact hone s.L (λ_ hy=>hy) (by have:=h.len;omega)
end Go.Proofs.YthogohkieiogiaaGreatDoor
