/- A helper. -/
import Derived.Test.YtmffplhaclnehaaGreatDoorGround
namespace Go.Proofs.YtmffplhaclnehaaGreatDoor
set_option maxRecDepth 20000
variable {n i r s:Int} {α:Type}
structure Cf where
 n:Int
 f:Int
 s:Int
 d:Int
 k:Int
 e:Int
 v:Int
 r:Int
 l:Int
 p:Int
def Cf.zero:Cf:=⟨0,0,0,0,0,0,0,0,0,0⟩
def UT (a c:Int):Int:=if a<c then c else a
def mnN (b d:Int):Int:=if d<b then d else b
def mQ (n l m:Int):Int:=mnN (UT n l) m
theorem zm {l m:Int}(h:l<=m):l<=mQ n l m/\mQ n l m<=m:=by
 unfold mQ mnN UT
 split<;>split<;>omega
theorem qP {l m:Int}(h:l<=m):n=mQ n l m↔l<=n/\n<=m:=by
 unfold mQ mnN UT
 split<;>split<;>omega
def pO (c:Cf):Bool:=decide (1<=c.n/\c.n<=8/\0<=c.f/\3*c.f<c.n)
def pQ (c:Cf):Bool:=decide (300<=c.s/\c.s<=10000/\1<=c.e/\c.e<=4*c.s/\100<=c.v/\c.v<=4*c.s)
def uY (c:Cf):Bool:=decide (1<=c.d/\c.d<=4/\c.d+4<=c.k/\c.k<=256/\1<=c.p/\c.p<=64)
def lZ (c:Cf):Bool:=decide (0<=c.r/\c.r<=5/\0<=c.l/\c.l<=5)
def okB (c:Cf):Bool:=pO c&&pQ c&&uY c&&lZ c
def nZ (c:Cf):Cf:={ c with n:=mQ c.n 1 8,f:=mQ c.f 0 ((mQ c.n 1 8-1).tdiv 3) }
def og (c:Cf):Cf:={ c with s:=mQ c.s 300 10000,e:=mQ c.e 1 (4*mQ c.s 300 10000),v:=mQ c.v 100 (4*mQ c.s 300 10000) }
def sW (c:Cf):Cf:={ c with d:=mQ c.d 1 4,k:=mQ c.k (mQ c.d 1 4+4) 256,p:=mQ c.p 1 64 }
def kg (c:Cf):Cf:={ c with r:=mQ c.r 0 5,l:=mQ c.l 0 5 }
def lG (a b:Cf):Bool:=a.n==b.n&&a.f==b.f&&a.s==b.s&&a.d==b.d&&a.k==b.k&&a.e==b.e&&a.v==b.v&&a.r==b.r&&a.l==b.l&&a.p==b.p
theorem Fe (c:Cf):lG c (nZ c)=pO c:=by
 rw[Bool.eq_iff_iff]
 simp only[lG,nZ,pO,Bool.and_eq_true,beq_iff_eq,decide_eq_true_eq,and_true]
 have h1:=zm (n:=c.n) (l:=1) (m:=8) (by omega)
 have h2:=qP (n:=c.n) (l:=1) (m:=8) (by omega)
 generalize mQ c.n 1 8=q at *
 have h3:(q-1).tdiv 3=(q-1)/3:=Int.tdiv_eq_ediv_of_nonneg (by omega)
 have h4:=qP (n:=c.f) (l:=0) (m:=(q-1).tdiv 3) (by rw[h3];omega)
 rw[h3] at *
 generalize mQ c.f 0 ((q-1)/3)=u at *
 constructor
 ·rintro⟨a,b⟩;have:=h2.1 a;have:=h4.1 b;omega
 ·rintro⟨a,b,d,e⟩;have:=h2.2 ⟨a,b⟩;exact⟨this,h4.2 (by omega)⟩
theorem Ff (c:Cf):lG c (og c)=pQ c:=by
 rw[Bool.eq_iff_iff]
 simp only[lG,og,pQ,Bool.and_eq_true,beq_iff_eq,decide_eq_true_eq,and_true,true_and]
 have h1:=zm (n:=c.s) (l:=300) (m:=10000) (by omega)
 have h2:=qP (n:=c.s) (l:=300) (m:=10000) (by omega)
 generalize mQ c.s 300 10000=q at *
 have h3:=qP (n:=c.e) (l:=1) (m:=4*q) (by omega)
 have h4:=qP (n:=c.v) (l:=100) (m:=4*q) (by omega)
 generalize mQ c.e 1 (4*q)=u at *
 generalize mQ c.v 100 (4*q)=t at *
 constructor
 ·rintro⟨⟨a,b⟩,d⟩;have:=h2.1 a;have:=h3.1 b;have:=h4.1 d;omega
 ·rintro⟨a,b,d,e,f,g⟩;have:=h2.2 ⟨a,b⟩;exact⟨⟨this,h3.2 (by omega)⟩,h4.2 (by omega)⟩
theorem J3 (c:Cf):lG c (sW c)=uY c:=by
 rw[Bool.eq_iff_iff]
 simp only[lG,sW,uY,Bool.and_eq_true,beq_iff_eq,decide_eq_true_eq,and_true,true_and]
 have h1:=zm (n:=c.d) (l:=1) (m:=4) (by omega)
 have h2:=qP (n:=c.d) (l:=1) (m:=4) (by omega)
 generalize mQ c.d 1 4=q at *
 have h3:=qP (n:=c.k) (l:=q+4) (m:=256) (by omega)
 have h4:=qP (n:=c.p) (l:=1) (m:=64) (by omega)
 generalize mQ c.k (q+4) 256=u at *
 generalize mQ c.p 1 64=t at *
 constructor
 ·rintro⟨⟨a,b⟩,d⟩;have:=h2.1 a;have:=h3.1 b;have:=h4.1 d;omega
 ·rintro⟨a,b,d,e,f,g⟩;have:=h2.2 ⟨a,b⟩;exact⟨⟨this,h3.2 (by omega)⟩,h4.2 (by omega)⟩
theorem Cz (c:Cf):lG c (kg c)=lZ c:=by
 rw[Bool.eq_iff_iff]
 simp only[lG,kg,lZ,Bool.and_eq_true,beq_iff_eq,decide_eq_true_eq,and_true,true_and]
 have h2:=qP (n:=c.r) (l:=0) (m:=5) (by omega)
 have h3:=qP (n:=c.l) (l:=0) (m:=5) (by omega)
 generalize mQ c.r 0 5=q at *
 generalize mQ c.l 0 5=u at *
 constructor
 ·rintro⟨a,b⟩;have:=h2.1 a;have:=h3.1 b;omega
 ·rintro⟨a,b,d,e⟩;exact⟨h2.2 ⟨a,b⟩,h3.2 ⟨d,e⟩⟩
structure Right (c:Cf):Prop where
 n0:1<=c.n
 n1:c.n<=8
 f0:0<=c.f
 f1:3*c.f<c.n
 s0:300<=c.s
 s1:c.s<=10000
 e0:1<=c.e
 e1:c.e<=4*c.s
 v0:100<=c.v
 v1:c.v<=4*c.s
 d0:1<=c.d
 d1:c.d<=4
 k0:c.d+4<=c.k
 k1:c.k<=256
 p0:1<=c.p
 p1:c.p<=64
 r0:0<=c.r
 r1:c.r<=5
 l0:0<=c.l
 l1:c.l<=5
theorem kU {c:Cf}(h:okB c=true):Right c:=by
 simp only[okB,pO,pQ,uY,lZ,Bool.and_eq_true,decide_eq_true_eq] at h
 obtain⟨⟨⟨⟨a1,a2,a3,a4⟩,b1,b2,b3,b4,b5,b6⟩,c1,c2,c3,c4,c5,c6⟩,d1,d2,d3,d4⟩:=h
 exact⟨a1,a2,a3,a4,b1,b2,b3,b4,b5,b6,c1,c2,c3,c4,c5,c6,d1,d2,d3,d4⟩
def iV (c:Cf):Int:=if okB c=true then c.n*c.s else 0
def iT (c:Cf)(i:Int):Bool:=okB c&&decide (0<=i/\i<c.n)
def lW (t:Int):Bool:=decide (0<=t/\t<=1099511627776)
theorem He {c:Cf}(h:iT c i=true):okB c=true/\0<=i/\i<c.n:=by
 simp only[iT,Bool.and_eq_true,decide_eq_true_eq] at h
 exact h
theorem qF {c:Cf}(h:okB c=true):iV c=c.n*c.s:=by rw[iV,if_pos h]
theorem AO {c:Cf}(h:okB c=true):300<=iV c/\iV c<=80000/\c.s<=iV c:=by
 rw[qF h]
 have g:=kU h
 have h1:=g.n0;have h2:=g.n1;have h3:=g.s0;have h4:=g.s1
 have a1:1*c.s<=c.n*c.s:=Int.mul_le_mul_of_nonneg_right h1 (by omega)
 have a2:c.n*c.s<=8*c.s:=Int.mul_le_mul_of_nonneg_right h2 (by omega)
 omega
def gN (c:Cf)(r s:Int):Bool:=decide (0<=r/\r<1048576)&&iT c s
def NY (c:Cf)(r s:Int):Int:=r*iV c+s*c.s
theorem Rj {c:Cf}(h:gN c r s=true):0<=r/\r<1048576/\iT c s=true:=by
 simp only[gN,Bool.and_eq_true,decide_eq_true_eq] at h
 exact⟨h.1.1,h.1.2,h.2⟩
theorem Rk {c:Cf}(h:iT c s=true):0<=s*c.s/\s*c.s+c.s<=iV c:=by
 obtain⟨ho,i0,i1⟩:=He h
 have g:=kU ho
 have h3:=g.s0
 rw[qF ho]
 have a1:0<=s*c.s:=Int.mul_nonneg i0 (by omega)
 have a2:(s+1)*c.s<=c.n*c.s:=Int.mul_le_mul_of_nonneg_right (by omega) (by omega)
 rw[Int.add_mul,Int.one_mul] at a2
 exact⟨a1,a2⟩
theorem J4 {c:Cf}(ho:okB c=true)(h0:0<=r)(h1:r<1048576):0<=r*iV c/\r*iV c<=83886000000:=by
 have hr:=AO ho
 have a1:0<=r*iV c:=Int.mul_nonneg h0 (by omega)
 have a2:r*iV c<=r*80000:=Int.mul_le_mul_of_nonneg_left (by omega) h0
 omega
theorem Tk {c:Cf}(h:gN c r s=true):0<=r*iV c/\r*iV c<=83886000000/\0<=s*c.s/\s*c.s<=80000/\0<=NY c r s/\NY c r s<=83886080000/\300<=c.s/\c.s<=10000:=by
 obtain⟨r0,r1,hn⟩:=Rj h
 have ho:=(He hn).1
 have h1:=J4 ho r0 r1
 have h2:=Rk hn
 have h3:=AO ho
 have h4:=(kU ho).s0
 have h5:=(kU ho).s1
 unfold NY
 omega
def fD (n:Int):Bool:=decide (0<=n/\n<1048576)
def mF (c:Cf)(i:Int):Bool:=decide (1<=i/\i<=c.k)
def nC (c:Cf)(st r:Int):Bool:=okB c&&fD st&&fD r
def BZ (c:Cf)(sl st i:Int):Bool:=okB c&&fD st&&mF c i&&gN c (st+i+c.d) sl
def Vz (c:Cf)(sl st i:Int):Int:=NY c (st+i+c.d) sl
def Qy (c:Cf)(sl st r m:Int):Int:=
 if nC c st r=true then (if mF c (r-st)=true then (if lW m=true then (if BZ c sl st (r-st)=true then (if Vz c sl st (r-st)<=m then 12 else 0) else 1) else 1) else 6) else 1
def Ej (c:Cf)(sl:Int):Bool:=decide (0<=sl/\sl<c.n)
def ic (c:Cf)(sl st r m:Int):Int:=if 0<=sl/\sl<c.n then Qy c sl st r m else 1
theorem sJ (h:fD n=true):0<=n/\n<1048576:=of_decide_eq_true h
theorem MO {c:Cf}(h:mF c i=true):1<=i/\i<=c.k:=of_decide_eq_true h
theorem MN {c:Cf}{st:Int}(h:nC c st r=true):okB c=true/\(0<=st/\st<1048576)/\0<=r/\r<1048576:=by
 simp only[nC,Bool.and_eq_true] at h
 exact⟨h.1.1,sJ h.1.2,sJ h.2⟩
structure It where
 e:Int
 i:Int
 b:List UInt8
abbrev Key:=Int×Int
def It.k (x:It):Key:=(x.e,x.i)
def isK (k:Key)(x:It):Bool:=decide (x.k=k)
def l9 (k:Key)(x:It):Bool:=decide (x.e<k.1)||(decide (x.e=k.1)&&decide (x.i<=k.2))
def cnt (L:List It)(k:Key):Nat:=L.countP (isK k)
def split {α:Type}(p:α->Bool)(m:Nat):List α->List α×List α
 | []=>([],[])
 | x::r=>if (split p m r).1.length=m then ((split p m r).1,x::(split p m r).2) else if p x=true then (x::(split p m r).1,(split p m r).2) else ((split p m r).1,x::(split p m r).2)
theorem jA (p:α->Bool)(m:Nat)(x:α)(r:List α)(h:(split p m r).1.length=m):split p m (x::r)=((split p m r).1,x::(split p m r).2):=by simp[split,h]
theorem jo (p:α->Bool)(m:Nat)(x:α)(r:List α)(h:(split p m r).1.length≠m)(hp:p x=true):split p m (x::r)=(x::(split p m r).1,(split p m r).2):=by simp[split,h,hp]
theorem kS (p:α->Bool)(m:Nat)(x:α)(r:List α)(hp:p x=false):split p m (x::r)=((split p m r).1,x::(split p m r).2):=by simp[split,hp]
theorem wz (p:α->Bool)(m:Nat)(r:List α)(h:(split p m r).1.length=m):∀ pre:List α,split p m (pre++r)=((split p m r).1,pre++(split p m r).2)
 | []=>by simp
 | x :: pre => by
   have ih := wz p m r h pre
   rw [List.cons_append, jA _ _ _ _ (by rw [ih]; exact h), ih]; rfl
theorem gV (p:α->Bool)(m:Nat):∀ L:List α,(split p m L).1.length+(split p m L).2.length=L.length/\(split p m L).1.length<=m
 | []=>by simp[split]
 | x :: r => by
   have ih := gV p m r
   by_cases h : (split p m r).1.length = m
   · rw [jA _ _ _ _ h]; simp; omega
   · cases hp : p x
     · rw [kS _ _ _ _ hp]; simp; omega
     · rw [jo _ _ _ _ h hp]; simp; omega
theorem qh (p:α->Bool)(m:Nat):∀ L:List α,L.length<=m->split p m L=(L.filter p,L.filter λx => !p x)
 | [],_=>by simp[split]
 | x :: r, hl => by
   rw [List.length_cons] at hl
   have ih := qh p m r (by omega)
   have hf : (split p m r).1.length ≠ m := by have := gV p m r; omega
   cases hp : p x
   · rw [kS _ _ _ _ hp, ih]; simp [hp]
   · rw [jo _ _ _ _ hf hp, ih]; simp [hp]
theorem yL {β:Type}(f:α->β)(p:β->Bool)(m:Nat):∀ L:List α,split p m (L.map f)=((split (λx=>p (f x)) m L).1.map f,(split (λx=>p (f x)) m L).2.map f)
 | []=>by simp[split]
 | x :: r => by
   have ih := yL f p m r
   by_cases h : (split (fun x => p (f x)) m r).1.length = m
   · rw [List.map_cons, jA p m (f x) _ (by rw [ih]; simpa using h), jA _ _ _ _ h, ih]; simp
   · cases hp : p (f x)
     · rw [List.map_cons, kS p m (f x) _ hp, kS (fun x => p (f x)) _ _ _ hp, ih]; simp
     · rw [List.map_cons, jo p m (f x) _ (by rw [ih]; simpa using h) hp, jo (fun x => p (f x)) _ _ _ h hp, ih]; simp
theorem ku (p:α->Bool)(m:Nat):∀ (L:List α) (y:α),(y∈(split p m L).1->y∈L/\p y=true)/\(y∈(split p m L).2->y∈L)
 | [],y=>by simp[split]
 | x :: r, y => by
   have ih := ku p m r y
   by_cases h : (split p m r).1.length = m
   · rw [jA         _ _ _ _ h]
     refine ⟨fun hy => ⟨List.mem_cons_of_mem _ (ih.1 hy).1, (ih.1 hy).2⟩, fun hy => ?_⟩
     rcases List.mem_cons.1 hy with rfl | hy
     · exact List.mem_cons_self
     · exact List.mem_cons_of_mem _ (ih.2 hy)
   · cases hp : p x
     · rw [kS       _ _ _ _ hp]
       refine ⟨fun hy => ⟨List.mem_cons_of_mem _ (ih.1 hy).1, (ih.1 hy).2⟩, fun hy => ?_⟩
       rcases List.mem_cons.1 hy with rfl | hy
       · exact List.mem_cons_self
       · exact List.mem_cons_of_mem _ (ih.2 hy)
     · rw [jo        _ _ _ _ h hp]
       refine ⟨fun hy => ?_, fun hy => List.mem_cons_of_mem _ (ih.2 hy)⟩
       rcases List.mem_cons.1 hy with rfl | hy
       · exact ⟨List.mem_cons_self, hp⟩
       · exact ⟨List.mem_cons_of_mem _ (ih.1 hy).1, (ih.1 hy).2⟩
theorem xB (p:α->Bool)(m:Nat):∀ L:List α,L.any p=false->split p m L=([],L)
 | [],_=>by simp[split]
 | x :: r, h => by
   rw [List.any_cons, Bool.or_eq_false_iff] at h
   rw [kS _ _ _ _ h.1, xB p m r h.2]
def gJ {α:Type}(p:α->Bool):List α->Nat
 | []=>0
 | _::r=>if r.any p=true then gJ p r+1 else 0
theorem Bv (p:α->Bool):∀ L:List α,L≠[]->gJ p L<L.length
 | [],h=>absurd rfl h
 | x :: r, _ => by
   rw [gJ]
   split
   · rename_i h
     have := Bv p r (by rintro rfl; simp at h)
     simp; omega
   · simp
theorem vS (p:α->Bool)(x:α):∀ L:List α,gJ p (L++[x])=if p x=true then L.length else gJ p L
 | []=>by simp[gJ]
 | y :: r => by
   have ih := vS p x r
   rw [List.cons_append, gJ, ih]
   cases hp : p x
   · simp [hp, gJ]
   · simp [hp]
theorem tJ (p:α->Bool):∀ L:List α,L.any p=true->(split p 1 L).1.length=1/\(split p 1 L).2=L.eraseIdx (gJ p L)
 | [],h=>by simp at h
 | x :: r, h => by
   by_cases hr : r.any p = true
   · obtain ⟨h1, h2⟩ := tJ        p r hr
     rw [jA _ _ _ _ h1, gJ, if_pos hr]
     exact ⟨h1, by simp [h2]⟩
   · rw [Bool.not_eq_true] at hr
     have hx : p x = true := by rw [List.any_cons, hr, Bool.or_false] at h; exact h
     have hs := xB p 1 r hr
     rw [jo _ _ _ _ (by rw [hs]; simp) hx, hs, gJ, if_neg (by simp [hr])]
     simp
theorem qg {k:Key}{x:It}:isK k x=true↔x.k=k:=by simp[isK]
theorem qR (L M:List It)(k:Key):cnt (L++M) k=cnt L k+cnt M k:=by simp[cnt]
theorem zN (x:It)(k:Key):cnt [x] k=if x.k=k then 1 else 0:=by simp[cnt,isK,List.countP_cons]
theorem DL (L:List It)(k:Key):cnt L k<=L.length:=List.countP_le_length
theorem FT {L:List It}{x:It}(h:x∈L):1<=cnt L x.k:=List.countP_pos_iff.2 ⟨x,h,by simp[isK]⟩
theorem Rl {L:List It}{k:Key}:L.any (isK k)=true↔1<=cnt L k:=by
 rw[cnt,Nat.succ_le_iff,List.countP_pos_iff,List.any_eq_true]
def dU (L:List It)(f:Key)(l:List It):Key:=l.foldl (λf x=>if cnt L f<cnt L x.k then x.k else f) f
def full (L:List It):Key:=match L with
 | []=>(0,0)
 | x::_=>dU L x.k L
theorem IC (L:List It)(f:Key):dU L f []=f:=rfl
theorem qU (L:List It)(f:Key)(l:List It)(x:It):dU L f (l++[x])=if cnt L (dU L f l)<cnt L x.k then x.k else dU L f l:=by rw[dU,List.foldl_append];rfl
theorem xC (L:List It):∀ (l:List It) (f:Key),cnt L f<=cnt L (dU L f l)/\(∀ x∈l,cnt L x.k<=cnt L (dU L f l))/\(dU L f l=f\/∃ x∈l,dU L f l=x.k)
 | [],f=>by simp[dU]
 | y :: l, f => by
   by_cases hlt : cnt L f < cnt L y.k
   · have e : dU    L f (y :: l) = dU    L y.k l := by simp only [dU   , List.foldl_cons, if_pos hlt]
     obtain ⟨h1, h2, h3⟩ := xC L l y.k
     rw [e]
     refine ⟨by omega, fun x hx => ?_, ?_⟩
     · rcases List.mem_cons.1 hx with rfl | hx
       · exact h1
       · exact h2 x hx
     · rcases h3 with h3 | ⟨x, hx, h3⟩
       · exact .inr ⟨y, List.mem_cons_self, h3⟩
       · exact .inr ⟨x, List.mem_cons_of_mem _ hx, h3⟩
   · have e : dU    L f (y :: l) = dU    L f l := by simp only [dU   , List.foldl_cons, if_neg hlt]
     obtain ⟨h1, h2, h3⟩ := xC L l f
     rw [e]
     refine ⟨h1, fun x hx => ?_, ?_⟩
     · rcases List.mem_cons.1 hx with rfl | hx
       · omega
       · exact h2 x hx
     · rcases h3 with h3 | ⟨x, hx, h3⟩
       · exact .inl h3
       · exact .inr ⟨x, List.mem_cons_of_mem _ hx, h3⟩
theorem Bt {L:List It}(k:Key)(hne:L≠[]):cnt L k<=cnt L (full L)/\∃ x∈L,full L=x.k:=by
 cases L with
 | nil=>exact absurd rfl hne
 | cons y r =>
   have e : full (y :: r) = dU (y :: r) y.k (y :: r) := rfl
   obtain ⟨h1, h2, h3⟩ := xC (y :: r) (y :: r) y.k
   rw [← e] at h1 h2 h3
   constructor
   · by_cases hk : 1 ≤ cnt (y :: r) k
     · obtain ⟨x, hx, hp⟩ := List.any_eq_true.1 (Rl.2 hk)
       have := h2 x hx
       rw [qg.1 hp] at this
       exact this
     · omega
   · rcases h3 with h3 | h3
     · exact ⟨y, List.mem_cons_self, h3⟩
     · exact h3
structure Bs where
 most:Nat
 lost:Nat
 L:List It
def qW (e i:Int)(x:List UInt8):Bool:=decide (0<=e)&&decide (e<=65535)&&decide (1<=i)&&decide (i<=256)&&decide (x.length<=96)
theorem kM {e:Int}{x:List UInt8}:qW e i x=true↔0<=e/\e<=65535/\1<=i/\i<=256/\x.length<=96:=by
 simp[qW,and_assoc]
structure Bs.ok (s:Bs):Prop where
 lo:1<=s.most
 hi:s.most<=64
 len:s.L.length<=s.most
 arg:∀ x∈s.L,qW x.e x.i x.b=true
def mV (L:List It)(x:List UInt8):Bool:=L.any λy=>y.b==x
def fT (s:Bs)(e i:Int)(x:List UInt8):Int:=
 if qW e i x=false then 1 else if mV s.L x=true then 4 else if s.L.length=s.most/\cnt s.L (e,i)=cnt s.L (full s.L) then 9 else 0
def gm (s:Bs)(e i:Int)(x:List UInt8):Bs:=
 if qW e i x=false then s else if mV s.L x=true then s
 else if s.L.length=s.most then
  if cnt s.L (e,i)=cnt s.L (full s.L) then { s with lost:=s.lost+1 } else { s with lost:=s.lost+1,L:=(split (isK (full s.L)) 1 s.L).2++[⟨e,i,x⟩] }
 else { s with L:=s.L++[⟨e,i,x⟩] }
def jc (s:Bs)(k:Key):Bs:={ s with L:=s.L.filter λx => !isK k x }
def fG (s:Bs)(k:Key):List (List UInt8):=(s.L.filter (isK k)).map It.b
def mR (s:Bs)(k:Key):Bs:={ s with L:=s.L.filter λx => !l9 k x }
def rY (s:Bs)(k:Key):Nat:=(s.L.filter (l9 k)).length
theorem Bs.ok.filter {s:Bs}(h:s.ok)(p:It->Bool):Bs.ok { s with L:=s.L.filter p }:=
 ⟨h.lo,h.hi,Nat.le_trans (List.length_filter_le _ _) h.len,λx hx=>h.arg x (List.mem_filter.1 hx).1⟩
theorem NZ {s:Bs}(h:s.ok)(k:Key):(jc s k).ok:=h.filter _
theorem N7 {s:Bs}(h:s.ok)(k:Key):(mR s k).ok:=h.filter _
theorem Bu {L:List It}(hne:L≠[]):L.any (isK (full L))=true:=by
 obtain⟨x,hx,e⟩:=(Bt (full L) hne).2
 exact List.any_eq_true.2 ⟨x,hx,qg.2 e.symm⟩
theorem zT {s:Bs}(h:s.ok)(e i:Int)(x:List UInt8):(gm s e i x).ok:=by
 unfold gm
 cases ha:qW e i x
 ·simpa using h
 ·rw[if_neg (by simp)]
  split
  ·exact h
  ·have hone:∀ M:List It,(∀ y∈M,y∈s.L)->M.length<s.most->Bs.ok { s with L:=M++[⟨e,i,x⟩] }:=λM hM hl=>
    ⟨h.lo, h.hi, by simp; omega, fun y hy => by
      rcases List.mem_append.1 hy with hy | hy
      · exact h.arg y (hM y hy)
      · rw [List.mem_singleton] at hy; subst hy; exact ha⟩
   split
   ·rename_i hfull
    split
    ·exact⟨h.lo,h.hi,h.len,h.arg⟩
    ·have hne:s.L≠[]:=by rintro e;rw[e] at hfull;have:=h.lo;simp at hfull;omega
     obtain⟨h1,_⟩:=tJ _ _ (Bu hne)
     have h2:=(gV (isK (full s.L)) 1 s.L).1
     have h3:=hone (split (isK (full s.L)) 1 s.L).2 (λy hy=>(ku _ _ _ y).2 hy) (by omega)
     exact⟨h3.lo,h3.hi,h3.len,h3.arg⟩
   ·rename_i hfull
    exact hone s.L (λ_ hy=>hy) (by have:=h.len;omega)
end Go.Proofs.YtmffplhaclnehaaGreatDoor
