/-
  A receiver in memory, the program's and the document's, each with its buffer.
  What is told of a receiver; is it a key; refusals and their numbers.
  Lists of frames in memory.
-/
import Derived.Test.YthogohkieiogiaaGreatDoorSealA
import Derived.Test.YthogohkieiogiaaGreatDoorChainR
import Derived.Test.YthogohkieiogiaaGreatDoorBufR
import Derived.Test.YthogohkieiogiaaGreatDoorSchedA
import Derived.Test.YthogohkieiogiaaGreatDoorAsErr
import Derived.Deep.MidRow
namespace Go.Proofs.YthogohkieiogiaaGreatDoor
structure Rv where
 c:Cf
 me:Int
 ep:Int
 st:Int
 ix:Int
 key:List UInt8
 b:Bs
 last:Int
def newR (c:Cf)(me:Int):Rv:=⟨c,me,-1,0,-1,[],⟨c.p.toNat,0,[]⟩,-1⟩
def keyArg (s:Rv)(i:Int)(k:List UInt8):Bool:=decide (0<=i)&&decide (i<=s.c.k)&&decide (k.length=16)
def ancArg (s:Rv)(e t i:Int)(k:List UInt8):Bool:=decide (0<=e)&&decide (e<=65535)&&decide (0<=t)&&decide (t<1048576)&&keyArg s i k
def ancE (s:Rv)(e t i:Int)(k:List UInt8):Int:=
 if ancArg s e t i k=false then 1 else if e<s.ep then 10 else if s.ep<e then 0 else if t≠s.st then 11
 else if s.ix<i then (folP s.ix s.key i k:Int) else if folP i k s.ix s.key≠0 then 11 else 0
def ancV (s:Rv)(e t i:Int)(k:List UInt8):Rv:=
 if ancArg s e t i k=false then s else if e<s.ep then s
 else if s.ep<e then { s with ep:=e,st:=t,ix:=i,key:=k,b:=dropV s.b (e,0) }
 else if t≠s.st then s else if s.ix<i/\folP s.ix s.key i k=0 then { s with ix:=i,key:=k } else s
def idxN (c:Cf)(st r:Int):Int:=if sinB c st r=true/\keyB c (r-st)=true then r-st else 0
def offB (s:Rv)(x:List UInt8)(m:Int):Int:=
 if getE x≠0 then (getE x:Int) else if (getF x).k≠1\/(getF x).f≠s.me then 1 else if s.ep<0\/(getF x).e≠s.ep then 6
 else if (getF x).r<=s.last then 10 else rsecN s.c s.me s.st (getF x).r m
def offE (s:Rv)(x:List UInt8)(m:Int):Int:=if offB s x m≠0 then offB s x m else bputE s.b (getF x).e (idxN s.c s.st (getF x).r) x
def offV (s:Rv)(x:List UInt8)(m:Int):Rv:=if offB s x m≠0 then s else { s with b:=putV s.b (getF x).e (idxN s.c s.st (getF x).r) x }
def freeL (L:List (List UInt8))(k:List UInt8)(last:Int):Option Fr:=
 match (L.map getF).find? (λF=>holdsB k F) with
 | none=>none
 | some F=>if F.r<=last then none else some F
def freeR (s:Rv)(i:Int)(k:List UInt8):Rv×List Fr:=
 match freeL (btakeL s.b (s.ep,i)) k s.last with
 | none=>({ s with b:=takeV s.b (s.ep,i) },[])
 | some F=>({ s with b:=takeV s.b (s.ep,i),last:=F.r },[F])
def relN (k:List UInt8)(j i0:Int)(s:Rv):Nat->Rv×List Fr
 | 0=>(s,[])
 | n+1=>((freeR (relN k j i0 s n).1 (i0+n) (backP k (j-(i0+n))).1).1,(relN k j i0 s n).2++(freeR (relN k j i0 s n).1 (i0+n) (backP k (j-(i0+n))).1).2)
def telE (s:Rv)(e i:Int)(k:List UInt8):Int:=
 if s.ep<0\/e≠s.ep then 6 else if keyArg s i k=false then 1 else if i<=s.ix then 10 else (folP s.ix s.key i k:Int)
def telS (s:Rv)(i:Int)(k:List UInt8):Rv:={ s with ix:=i,key:=k }
def telR (s:Rv)(e i:Int)(k:List UInt8):Rv×List Fr:=
 if telE s e i k≠0 then (s,[]) else relN k i (s.ix+1) (telS s i k) (i-s.ix).toNat
structure Rv.ok (s:Rv):Prop where
 cfg:okB s.c=true
 me0:0<=s.me
 me1:s.me<s.c.n
 ep:s.ep = -1\/(0<=s.ep/\s.ep<=65535/\0<=s.st/\s.st<1048576/\0<=s.ix/\s.ix<=s.c.k/\s.key.length=16)
 buf:s.b.ok
 its:∀ x∈s.b.L,x.e=s.ep/\getE x.b=0/\(getF x.b).r=s.st+x.i/\(getF x.b).f=s.me/\x.i<=s.c.k
theorem okB_keys {c:Cf}(h:okB c=true):1<=c.k/\c.k<=256/\1<=c.p/\c.p<=64/\1<=c.n/\c.n<=8:=by
 simp only[okB,nodesB,slotsB,keysB,clocksB,Bool.and_eq_true,decide_eq_true_eq] at h
 omega
theorem keyArg_iff {s:Rv}{i:Int}{k:List UInt8}:keyArg s i k=true↔0<=i/\i<=s.c.k/\k.length=16:=by simp[keyArg,and_assoc]
theorem ancArg_iff {s:Rv}{e t i:Int}{k:List UInt8}:ancArg s e t i k=true↔0<=e/\e<=65535/\0<=t/\t<1048576/\0<=i/\i<=s.c.k/\k.length=16:=by simp[ancArg,keyArg,and_assoc]
theorem new_is_ok {c:Cf}{me:Int}(h:okB c=true)(h0:0<=me)(h1:me<c.n):(newR c me).ok:=
 ⟨h,h0,h1,.inl rfl,⟨by have:=okB_keys h;show 1<=c.p.toNat;omega,by have:=okB_keys h;show c.p.toNat<=64;omega,by simp[newR],λx hx=>by simp[newR] at hx⟩,λx hx=>by simp[newR] at hx⟩
theorem ancV_ok {s:Rv}(h:s.ok)(e t i:Int)(k:List UInt8):(ancV s e t i k).ok:=by
 unfold ancV
 split
 ·exact h
 ·rename_i ha
  rw[Bool.not_eq_false,ancArg_iff] at ha
  split
  ·exact h
  ·split
   ·rename_i hlt
    refine⟨h.cfg,h.me0,h.me1,.inr ⟨ha.1,ha.2.1,ha.2.2.1,ha.2.2.2.1,ha.2.2.2.2.1,ha.2.2.2.2.2.1,ha.2.2.2.2.2.2⟩,dropV_ok h.buf _,λx hx=>?_⟩
    exfalso
    simp only[dropV] at hx
    obtain⟨hx,hl⟩:=List.mem_filter.1 hx
    have:=(h.its x hx).1
    simp[lowK] at hl
    omega
   ·split
    ·exact h
    ·split
     ·rename_i h1 h2
      rcases h.ep with h3|⟨h3,h4,h5,h6,h7,h8,h9⟩
      ·omega
      ·exact⟨h.cfg,h.me0,h.me1,.inr ⟨h3,h4,h5,h6,ha.2.2.2.2.1,ha.2.2.2.2.2.1,ha.2.2.2.2.2.2⟩,h.buf,h.its⟩
     ·exact h
theorem rsec_zero {c:Cf}{sl st r m:Int}(h:rsecN c sl st r m=0):sinB c st r=true/\keyB c (r-st)=true:=by
 unfold rsecN secN at h
 repeat' split at h
 all_goals first|omega|(constructor<;>assumption)
theorem putV_mem {s:Bs}{e i:Int}{x:List UInt8}{y:It}(h:y∈(putV s e i x).L):y∈s.L\/y=⟨e,i,x⟩:=by
 unfold putV at h
 split at h
 ·exact .inl h
 ·split at h
  ·exact .inl h
  ·split at h
   ·split at h
    ·exact .inl h
    ·rcases List.mem_append.1 h with h|h
     ·exact .inl ((split_mem _ _ _ y).2 h)
     ·exact .inr (List.mem_singleton.1 h)
   ·rcases List.mem_append.1 h with h|h
    ·exact .inl h
    ·exact .inr (List.mem_singleton.1 h)
theorem offB_zero {s:Rv}{x:List UInt8}{m:Int}(h:offB s x m=0):getE x=0/\(getF x).k=1/\(getF x).f=s.me/\0<=s.ep/\(getF x).e=s.ep/\s.last<(getF x).r/\rsecN s.c s.me s.st (getF x).r m=0/\idxN s.c s.st (getF x).r=(getF x).r-s.st/\1<=(getF x).r-s.st/\(getF x).r-s.st<=s.c.k:=by
 unfold offB at h
 split at h
 ·omega
 ·split at h
  ·omega
  ·split at h
   ·omega
   ·split at h
    ·omega
    ·rename_i h1 h2 h3 h4
     have h5:=rsec_zero h
     have h6:=key_in h5.2
     refine⟨by omega,by omega,by omega,by omega,by omega,by omega,h,?_,h6.1,h6.2⟩
     unfold idxN
     rw[if_pos h5]
theorem offV_ok {s:Rv}(h:s.ok)(x:List UInt8)(m:Int):(offV s x m).ok:=by
 unfold offV
 split
 ·exact h
 ·rename_i h0
  obtain⟨h1,h2,h3,h4,h5,h6,h7,h8,h9,h10⟩:=offB_zero (Decidable.not_not.1 h0)
  refine⟨h.cfg,h.me0,h.me1,h.ep,putV_ok h.buf _ _ _,λy hy=>?_⟩
  rcases putV_mem hy with hy|rfl
  ·exact h.its y hy
  ·exact⟨h5,h1,by show (getF x).r=s.st+idxN s.c s.st (getF x).r;omega,h3,by show idxN s.c s.st (getF x).r<=_;show _<=s.c.k;omega⟩
theorem Rv.ok.taken {s:Rv}(h:s.ok)(k:Key)(l:Int):Rv.ok { s with b:=takeV s.b k,last:=l }:=
 ⟨h.cfg,h.me0,h.me1,h.ep,takeV_ok h.buf k,λx hx=>h.its x (List.mem_filter.1 hx).1⟩
theorem freeR_eq (s:Rv)(i:Int)(k:List UInt8):(freeR s i k).1={ s with b:=takeV s.b (s.ep,i),last:=(freeR s i k).1.last }/\(freeR s i k).2.length<=1:=by
 unfold freeR
 split<;>exact⟨rfl,by simp⟩
theorem freeR_ok {s:Rv}(h:s.ok)(i:Int)(k:List UInt8):(freeR s i k).1.ok:=by
 rw[(freeR_eq s i k).1];exact h.taken _ _
theorem relN_same (k:List UInt8)(j i0:Int)(s:Rv):∀ n,(relN k j i0 s n).1.c=s.c/\(relN k j i0 s n).1.me=s.me/\(relN k j i0 s n).1.ep=s.ep/\(relN k j i0 s n).1.st=s.st/\(relN k j i0 s n).1.ix=s.ix/\(relN k j i0 s n).1.key=s.key/\(relN k j i0 s n).1.b.lost=s.b.lost/\(relN k j i0 s n).2.length<=n
 | 0=>⟨rfl,rfl,rfl,rfl,rfl,rfl,rfl,by simp[relN]⟩
 | n + 1 => by
   obtain ⟨h1, h2, h3, h4, h5, h6, h7, h8⟩ := relN_same k j i0 s n
   have h := freeR_eq (relN k j i0 s n).1 (i0 + n) (backP k (j - (i0 + n))).1
   simp only [relN]
   rw [h.1]
   refine ⟨h1, h2, h3, h4, h5, h6, h7, ?_⟩
   have := h.2
   rw [List.length_append]
   omega
theorem relN_ok {s:Rv}(h:s.ok)(k:List UInt8)(j i0:Int):∀ n,(relN k j i0 s n).1.ok
 | 0=>h
 | n+1=>freeR_ok (relN_ok h k j i0 n) _ _
theorem telE_zero {s:Rv}{e i:Int}{k:List UInt8}(h:telE s e i k=0):0<=s.ep/\e=s.ep/\0<=i/\i<=s.c.k/\k.length=16/\s.ix<i/\folP s.ix s.key i k=0:=by
 unfold telE at h
 split at h
 ·omega
 ·split at h
  ·omega
  ·rename_i h1 h2
   rw[Bool.not_eq_false,keyArg_iff] at h2
   split at h
   ·omega
   ·exact⟨by omega,by omega,h2.1,h2.2.1,h2.2.2,by omega,by omega⟩
theorem telS_ok {s:Rv}(h:s.ok){e i:Int}{k:List UInt8}(h0:telE s e i k=0):(telS s i k).ok:=by
 obtain⟨h1,h2,h3,h4,h5,h6,h7⟩:=telE_zero h0
 rcases h.ep with g|⟨g1,g2,g3,g4,g5,g6,g7⟩
 ·omega
 ·exact⟨h.cfg,h.me0,h.me1,.inr ⟨g1,g2,g3,g4,h3,h4,h5⟩,h.buf,h.its⟩
theorem telR_ok {s:Rv}(h:s.ok)(e i:Int)(k:List UInt8):(telR s e i k).1.ok:=by
 unfold telR
 split
 ·exact h
 ·rename_i h0
  exact relN_ok (telS_ok h (Decidable.not_not.1 h0)) _ _ _ _
def goS (k:List UInt8)(p:Int×List Fr)(x:List UInt8):Int×List Fr:=if p.1<(getF x).r/\holdsB k (getF x)=true then ((getF x).r,p.2++[getF x]) else p
def goF (k:List UInt8)(p:Int×List Fr)(L:List (List UInt8)):Int×List Fr:=L.foldl (goS k) p
theorem goF_cons (k:List UInt8)(p:Int×List Fr)(x:List UInt8)(L:List (List UInt8)):goF k p (x::L)=goF k (goS k p x) L:=rfl
theorem goF_snoc (k:List UInt8)(p:Int×List Fr)(L:List (List UInt8))(x:List UInt8):goF k p (L++[x])=goS k (goF k p L) x:=by simp[goF,List.foldl_append]
theorem goF_stay (k:List UInt8):∀ (L:List (List UInt8)) (p:Int×List Fr),(∀ x∈L,(getF x).r<=p.1)->goF k p L=p
 | [],p,_=>rfl
 | x :: L, p, h => by
   have e : goS k p x = p := if_neg (by have := h x List.mem_cons_self; omega)
   rw [goF_cons, e]
   exact goF_stay k L p fun y hy => h y (List.mem_cons_of_mem _ hy)
def freeP (L:List (List UInt8))(k:List UInt8)(p:Int×List Fr):Int×List Fr:=match freeL L k p.1 with
 | none=>p
 | some F=>(F.r,p.2++[F])
theorem goF_free (k:List UInt8)(r0:Int):∀ (L:List (List UInt8)) (p:Int×List Fr),(∀ x∈L,(getF x).r=r0)->goF k p L=freeP L k p
 | [],p,_=>rfl
 | x :: L, p, h => by
   have hx := h x List.mem_cons_self
   have hL : ∀ y ∈ L, (getF y).r = r0 := fun y hy => h y (List.mem_cons_of_mem _ hy)
   rw [goF_cons]
   cases hh : holdsB k (getF x)
   · have e : goS k p x = p := if_neg (by simp [hh])
     rw [e, goF_free k r0 L p hL]
     unfold freeP freeL
     rw [List.map_cons, List.find?_cons_of_neg (by simp [hh])]
   · have ef : freeL (x :: L) k p.1 = if (getF x).r ≤ p.1 then none else some (getF x) := by
       unfold freeL
       rw [List.map_cons, List.find?_cons_of_pos (by simp [hh])]
     by_cases hr : (getF x).r ≤ p.1
     · have e : goS k p x = p := if_neg (by omega)
       rw [e, goF_stay k L p fun y hy => by rw [hL y hy]; omega]
       unfold freeP
       rw [ef, if_pos hr]
     · have e : goS k p x = ((getF x).r, p.2 ++ [getF x]) := if_pos ⟨by omega, hh⟩
       rw [e, goF_stay k L _ fun y hy => by rw [hL y hy, hx]; exact Int.le_refl _]
       unfold freeP
       rw [ef, if_neg hr]
theorem Rv.ok.cell {s:Rv}(h:s.ok)(i:Int):∀ x∈btakeL s.b (s.ep,i),getE x=0/\(getF x).r=s.st+i/\(getF x).f=s.me:=by
 intro x hx
 obtain⟨y,hy,rfl⟩:=List.mem_map.1 hx
 obtain⟨hy,hk⟩:=List.mem_filter.1 hy
 have hk:=isK_iff.1 hk
 obtain⟨h1,h2,h3,h4,h5⟩:=h.its y hy
 have:y.i=i:=congrArg Prod.snd hk
 exact⟨h2,by rw[h3,this],h4⟩
def cellP (s:Rv)(i:Int)(p:Int×List Fr):Rv:={ s with b:=takeV s.b (s.ep,i),last:=p.1 }
theorem cell_eq {s:Rv}(h:s.ok)(i:Int)(k:List UInt8)(out:List Fr):((freeR s i k).1,out++(freeR s i k).2)=(cellP s i (goF k (s.last,out) (btakeL s.b (s.ep,i))),(goF k (s.last,out) (btakeL s.b (s.ep,i))).2):=by
 rw[goF_free k (s.st+i) _ _ λx hx=>(h.cell i x hx).2.1]
 unfold freeR freeP cellP
 cases freeL (btakeL s.b (s.ep,i)) k s.last<;>simp
theorem btake_len {s:Bs}(h:s.ok)(k:Key):(btakeL s k).length<=64:=by
 unfold btakeL
 rw[List.length_map]
 exact Nat.le_trans (List.length_filter_le _ _) (Nat.le_trans h.len h.hi)
end Go.Proofs.YthogohkieiogiaaGreatDoor
namespace Go.Proofs.YthogohkieiogiaaGreatDoor
set_option maxRecDepth 20000
open Go.ChangeShapes Go.WideShapes Go.ChangeAt Go.RowKit
def pcL (s:Rv)(ka:Option Addr)(kc g:Nat):List Value:=
 [.int .i64 s.c.n, .int .i64 s.c.f, .int .i64 s.c.s, .int .i64 s.c.d, .int .i64 s.c.k, .int .i64 s.c.e, .int .i64 s.c.v, .int .i64 s.c.r, .int .i64 s.c.l, .int .i64 s.c.p,
   .int .i64 s.me, .int .i64 s.ep, .int .i64 s.st, .int .i64 s.ix, .slice ka s.key.length kc, .int .i64 s.last, .pointer (some ⟨g, 0, none⟩)]
def PAt (w:World)(R:Nat)(s:Rv)(ka:Option Addr)(kc g:Nat):Prop:=w.heap[R]?=some (.cells (pcL s ka kc g).toArray 77 (0,0))
theorem PAt.cell {w:World}{R:Nat}{s:Rv}{ka:Option Addr}{kc g:Nat}(h:PAt w R s ka kc g)(i:Nat){u:Value}(hu:(pcL s ka kc g)[i]?=some u):w.cell? ⟨R,i,none⟩=some u:=by
 rw[cell_of_row w _ i _ _ _ h];simpa using hu
theorem PAt.fz {w:World}{R:Nat}{s:Rv}{ka:Option Addr}{kc g:Nat}(h:PAt w R s ka kc g)(i:Nat):w.frozen? ⟨R,i,none⟩=false:=frozen_of_row _ _ i _ _ h
theorem PAt.lt {w:World}{R:Nat}{s:Rv}{ka:Option Addr}{kc g:Nat}(h:PAt w R s ka kc g):R<w.heap.size:=(Array.getElem?_eq_some_iff.1 h).1
theorem PAt.put {w:World}{R:Nat}{s t:Rv}{ka kb:Option Addr}{kc kd g:Nat}(h:PAt w R s ka kc g)(i:Nat)(u:Value)(hl:(pcL s ka kc g).set i u=pcL t kb kd g):PAt (w.setCell ⟨R,i,none⟩ u) R t kb kd g:=by
 show (w.setCell ⟨R,i,none⟩ u).heap[R]?=_
 rw[heap_setCell_same _ _ _ _ _ _ h]
 congr 2
 rw[List.setIfInBounds_toArray,hl]
theorem pcL_nob (s:Rv)(ka:Option Addr)(kc g:Nat):NoByte (pcL s ka kc g).toArray:=by
 intro u hu k y
 simp only[pcL,List.mem_cons,List.not_mem_nil,or_false] at hu
 rcases hu with rfl|rfl|rfl|rfl|rfl|rfl|rfl|rfl|rfl|rfl|rfl|rfl|rfl|rfl|rfl|rfl|rfl<;>intro e<;>cases e<;>rfl
theorem PAt.plain {w:World}{R:Nat}{s:Rv}{ka:Option Addr}{kc g:Nat}(h:PAt w R s ka kc g):Plain w R:=(pcL_nob s ka kc g).plain h
theorem PAt.loads {w:World}{R:Nat}{s:Rv}{ka:Option Addr}{kc g:Nat}(h:PAt w R s ka kc g):(Instr.loadAt 24 (.pointer (some ⟨R,0,none⟩))).run Tryz.prog w=.ok (.agg (cfC s.c)) w:=
 run_loadAt_mid w R 0 24 (cfL s.c) _ (λj v hv=>by
  rw[Nat.zero_add]
  refine h.cell j ?_
  have hj:j<10:=(List.getElem?_eq_some_iff.1 hv).1
  show (cfL s.c++_)[j]?=some v
  rw[List.getElem?_append_left hj];exact hv) Tryz.underlying24 rfl (by kernel_rfl)
def POwn (R g m:Nat)(v:Value):Nat->Prop:=λk=>k=R\/Own g m v k
structure PAll (w:World)(R:Nat)(s:Rv)(n:Nat)(g m:Nat)(v:Value)(ka:Option Addr)(kc:Nat)(ss:List BSl):Prop where
 at':PAt w R s ka kc g
 key:Sees w ka kc s.key
 buf:Pb w g m v s.b ss n
def PM (w:World)(R:Nat)(q:Rv×Nat)(F:Nat->Prop):Prop:=∃ g m v ka kc ss,PAll w R q.1 q.2 g m v ka kc ss/\q.1.ok/\(∀ k,POwn R g m v k->3<=k)/\F=POwn R g m v
theorem PAll.ne {w:World}{R:Nat}{s:Rv}{n g m:Nat}{v:Value}{ka:Option Addr}{kc:Nat}{ss:List BSl}(h:PAll w R s n g m v ka kc ss):¬ Own g m v R:=by
 have h1:=h.at'
 unfold PAt at h1
 rintro(rfl|rfl|hO)
 ·have h2:=h.buf.at'
  unfold PA at h2
  rw[h2] at h1;simp at h1
 ·obtain⟨es,cl,h2⟩:=h.buf.map.isMap
  rw[h2] at h1;cases h1
 ·obtain⟨cur,h2,_⟩:=h.buf.row.isRow hO
  rw[h2] at h1;simp at h1;exact absurd h1.2 (by decide)
theorem PAll.plain {w:World}{R:Nat}{s:Rv}{n g m:Nat}{v:Value}{ka:Option Addr}{kc:Nat}{ss:List BSl}(h:PAll w R s n g m v ka kc ss){k:Nat}(hk:POwn R g m v k):Plain w k:=by
 rcases hk with rfl|hk
 ·exact h.at'.plain
 ·exact h.buf.plain hk
theorem PM.plain {w:World}{R:Nat}{q:Rv×Nat}{F:Nat->Prop}(h:PM w R q F){k:Nat}(hk:F k):Plain w k:=by
 obtain⟨g,m,v,ka,kc,ss,h,hok,hhi,rfl⟩:=h;exact h.plain hk
theorem PAll.lt {w:World}{R:Nat}{s:Rv}{n g m:Nat}{v:Value}{ka:Option Addr}{kc:Nat}{ss:List BSl}(h:PAll w R s n g m v ka kc ss){k:Nat}(hk:POwn R g m v k):k<w.heap.size:=by
 rcases hk with rfl|hk
 ·exact h.at'.lt
 ·exact h.buf.lt hk
theorem PM.lt {w:World}{R:Nat}{q:Rv×Nat}{F:Nat->Prop}(h:PM w R q F){k:Nat}(hk:F k):k<w.heap.size:=by
 obtain⟨g,m,v,ka,kc,ss,h,hok,hhi,rfl⟩:=h;exact h.lt hk
theorem PAll.apart {w w':World}{G:Nat->Prop}{R:Nat}{s:Rv}{n g m:Nat}{v:Value}{ka:Option Addr}{kc:Nat}{ss:List BSl}(h:PAll w R s n g m v ka kc ss)(ha:Apart G w w')(hn:∀ k,G k->¬ POwn R g m v k)(hp:∀ k,G k->Plain w k):PAll w' R s n g m v ka kc ss:=
 ⟨(ha.block R h.at'.lt λhG=>hn R hG (.inl rfl)).trans h.at',h.key.apart ha hp,h.buf.apart ha (λk hk ho=>hn k hk (.inr ho)) hp⟩
theorem PM.apart {w w':World}{G:Nat->Prop}{R:Nat}{q:Rv×Nat}{F:Nat->Prop}(h:PM w R q F)(ha:Apart G w w')(hn:∀ k,G k->¬ F k)(hp:∀ k,G k->Plain w k):PM w' R q F:=by
 obtain⟨g,m,v,ka,kc,ss,h,hok,hhi,rfl⟩:=h;exact⟨g,m,v,ka,kc,ss,h.apart ha hn hp,hok,hhi,rfl⟩
theorem PAll.below {w w':World}{R:Nat}{s:Rv}{n g m:Nat}{v:Value}{ka:Option Addr}{kc:Nat}{ss:List BSl}(h:PAll w R s n g m v ka kc ss)(hb:Below w.heap.size w w'):PAll w' R s n g m v ka kc ss:=
 h.apart (G:=λ_=>False) (Apart.of_below hb) (λ_ h=>h.elim) (λ_ h=>h.elim)
theorem PM.below {w w':World}{R:Nat}{q:Rv×Nat}{F:Nat->Prop}(h:PM w R q F)(hb:Below w.heap.size w w'):PM w' R q F:=
 h.apart (G:=λ_=>False) (Apart.of_below hb) (λ_ h=>h.elim) (λ_ h=>h.elim)
theorem PM.sees {w w':World}{R:Nat}{q:Rv×Nat}{F:Nat->Prop}(h:PM w R q F)(ha:Apart F w w'){a:Option Addr}{c:Nat}{l:List UInt8}(hs:Sees w a c l):Sees w' a c l:=hs.apart ha λ_ hk=>h.plain hk
theorem PAll.left {w w':World}{R:Nat}{s:Rv}{n g m:Nat}{v:Value}{ka:Option Addr}{kc:Nat}{ss:List BSl}(h:PAll w R s n g m v ka kc ss){b':Bs}{n':Nat}(hl:PLeft w g m v b' n' w')(hok:Rv.ok { s with b:=b' })(hhi:∀ k,POwn R g m v k->3<=k):Left PM w (POwn R g m v) R ({ s with b:=b' },n') w':=by
 obtain⟨v',ss',h1,h2,h3⟩:=hl
 have h4:∀ k,POwn R g m v' k->POwn R g m v k\/w.heap.size<=k:=λk hk=>by
  rcases hk with rfl|rfl|rfl|hk
  ·exact .inl (.inl rfl)
  ·exact .inl (.inr (.inl rfl))
  ·exact .inl (.inr (.inr (.inl rfl)))
  ·exact(h3 k hk).imp (λh=>.inr (.inr (.inr h))) id
 have h5:=h.at'.lt
 have h6:=hhi R (.inl rfl)
 exact⟨_,⟨g,m,v',ka,kc,ss',⟨(h2.block R h.at'.lt h.ne).trans h.at',h.key.apart h2 λk hk=>h.buf.plain hk,h1⟩,hok,λk hk=>(h4 k hk).elim (hhi k) (λh=>by omega),rfl⟩,h2.mono λk hk=>.inr hk,h4⟩
theorem PAll.set {w:World}{R:Nat}{s:Rv}{n g m:Nat}{v:Value}{ka:Option Addr}{kc:Nat}{ss:List BSl}(h:PAll w R s n g m v ka kc ss)(i:Nat)(u:Value){t:Rv}{kb:Option Addr}{kd:Nat}(hl:(pcL s ka kc g).set i u=pcL t kb kd g)(hb:t.b=s.b)(hk:Sees w kb kd t.key):
  PAll (w.setCell ⟨R,i,none⟩ u) R t n g m v kb kd ss/\Apart (POwn R g m v) w (w.setCell ⟨R,i,none⟩ u):=by
 have ha:Apart (λk=>k=R) w (w.setCell ⟨R,i,none⟩ u):=(Apart.refl (λk=>k=R) w).setCell (b:=R) (.inl rfl) i u
 have hp:∀ k,k=R->Plain w k:=λk e=>e▸h.at'.plain
 refine⟨⟨h.at'.put i u hl,hk.apart ha hp,?_⟩,ha.mono λk e=>.inl e⟩
 rw[hb]
 exact h.buf.apart ha (λk e ho=>h.ne (e▸ho)) hp
def TTab (w:World):Prop:=ETab w/\FTab w/\KTab w
theorem TTab.below {w w':World}(h:TTab w)(hb:Below w.heap.size w w'):TTab w':=⟨h.1.below hb,h.2.1.below hb,h.2.2.below hb⟩
theorem TTab.apart {F:Nat->Prop}{w w':World}(h:TTab w)(ha:Apart F w w')(hF:∀ k,F k->3<=k):TTab w':=by
 refine⟨?_,?_,?_⟩
 ·exact ha.cell h.1 λhf=>by have h3:=hF _ hf;dsimp only at h3;omega
 ·intro t ht
  exact ha.cell (h.2.1 t ht) λhf=>by have h3:=hF _ hf;dsimp only at h3;omega
 ·intro t ht
  exact ha.cell (h.2.2 t ht) λhf=>by have h3:=hF _ hf;dsimp only at h3;omega
theorem tmade_ok (w:World)(R g:Nat)(c16:w.cell? ⟨R,16,none⟩=some (.pointer (some ⟨g,0,none⟩))):Calls Tryz.prog 33 #[.pointer (some ⟨R,0,none⟩)] w λe w'=>e=.returned (.bool true)/\w'=w:=by
 go_enter Tryz.func33,Tryz.ntmps33
 go_wp2
 go_ret
 exact⟨rfl,rfl⟩
theorem PAt.c16 {w:World}{R:Nat}{s:Rv}{ka:Option Addr}{kc g:Nat}(h:PAt w R s ka kc g):w.cell? ⟨R,16,none⟩=some (.pointer (some ⟨g,0,none⟩)):=h.cell 16 rfl
theorem tiskey_ok (w:World)(R:Nat)(s:Rv)(ka:Option Addr)(kc g:Nat)(h:PAt w R s ka kc g)(i:Int)(x:Option Addr)(k:List UInt8)(cx:Nat)(_hk:k.length<=9223372036854775807):
  Calls Tryz.prog 62 #[.pointer (some ⟨R,0,none⟩),.int .i64 i,.slice x k.length cx] w λe w'=>e=.returned (.bool (keyArg s i k))/\w'=w:=by
 have c4:w.cell? ⟨R,4,none⟩=some (.int .i64 s.c.k):=h.cell 4 rfl
 clear h
 by_cases h0:0<=i
 ·by_cases h1:i<=s.c.k
  ·by_cases h2:k.length=16
   ·have e:keyArg s i k=true:=keyArg_iff.2 ⟨h0,h1,h2⟩
    rw[e,h2]
    clear e h2 _hk
    go_enter Tryz.func62,Tryz.ntmps62
    go_wp2
    go_ret
    exact⟨rfl,rfl⟩
   ·have e:keyArg s i k=false:=by rw[<-Bool.not_eq_true,keyArg_iff];omega
    have d:((k.length:Int)==16)=false:=by simp;omega
    rw[e]
    clear e h2
    go_enter Tryz.func62,Tryz.ntmps62
    go_wp2
    go_ret
    exact⟨rfl,rfl⟩
  ·have e:keyArg s i k=false:=by rw[<-Bool.not_eq_true,keyArg_iff];omega
   have d:decide (i<=s.c.k)=false:=decide_eq_false h1
   rw[e]
   clear e h1
   go_enter Tryz.func62,Tryz.ntmps62
   go_wp2
   go_ret
   exact⟨rfl,rfl⟩
 ·have e:keyArg s i k=false:=by rw[<-Bool.not_eq_true,keyArg_iff];omega
  have d:decide (0<=i)=false:=decide_eq_false h0
  rw[e]
  clear e h0
  go_enter Tryz.func62,Tryz.ntmps62
  go_wp2
  go_ret
  exact⟨rfl,rfl⟩
def ErrIs (v:Value)(n:Int):Prop:=(n=0/\v=.nilIface)\/((n==0)=false/\∃ s,v=trefV s n)
theorem trefuse_none (s:ByteArray)(w:World):Calls Tryz.prog 63 #[.string s,.int .i64 0] w λe w'=>e=.returned .nilIface/\w'=w:=by
 go_enter Tryz.func63,Tryz.ntmps63
 go_wp2
 go_ret
 exact⟨rfl,rfl⟩
theorem trefuse_some (s:ByteArray)(n:Int)(hn:(n==0)=false)(w:World):Calls Tryz.prog 63 #[.string s,.int .i64 n] w λe w'=>e=.returned (trefV s n)/\w'=w:=by
 unfold trefV
 go_enter Tryz.func63,Tryz.ntmps63
 go_wp2
 go_ret
 exact⟨rfl,rfl⟩
theorem trefuse_any (s:ByteArray)(n:Int)(w:World):Calls Tryz.prog 63 #[.string s,.int .i64 n] w λe w'=>∃ v,e=.returned v/\ErrIs v n/\w'=w:=by
 cases hn:n==0
 ·exact(trefuse_some s n hn w).mono λe w' ⟨h1,h2⟩=>⟨_,h1,.inr ⟨hn,s,rfl⟩,h2⟩
 ·obtain rfl:n=0:=by simpa using hn
  exact(trefuse_none s w).mono λe w' ⟨h1,h2⟩=>⟨_,h1,.inl ⟨rfl,rfl⟩,h2⟩
theorem tnumber_any (v:Value)(n:Int)(h:ErrIs v n)(w:World)(hE:ETab w):Calls Tryz.prog 34 #[v] w λe w'=>e=.returned (.int .i64 n)/\Below w.heap.size w w':=by
 rcases h with ⟨rfl,rfl⟩|⟨_,s,rfl⟩
 ·exact tnumber_none w
 ·exact tnumber_some s n w hE
def PGo (w:World)(R g m:Nat)(v:Value)(s':Rv)(n':Nat)(w':World):Prop:=∃ v' kb kd ss',PAll w' R s' n' g m v' kb kd ss'/\Apart (POwn R g m v) w w'/\∀ j,v'.ownBlock=some j->v.ownBlock=some j\/w.heap.size<=j
theorem PGo.same {w w':World}{R g m:Nat}{v:Value}{s:Rv}{n:Nat}{ka:Option Addr}{kc:Nat}{ss:List BSl}(h:PAll w' R s n g m v ka kc ss)(ha:Apart (POwn R g m v) w w'):PGo w R g m v s n w':=⟨v,ka,kc,ss,h,ha,λ_ h=>.inl h⟩
theorem PGo.below {w w' w2:World}{R g m:Nat}{v:Value}{s:Rv}{n:Nat}(h:PGo w R g m v s n w')(hb:Below w'.heap.size w' w2):PGo w R g m v s n w2:=by
 obtain⟨v',kb,kd,ss',h1,h2,h3⟩:=h
 exact⟨v',kb,kd,ss',h1.below hb,h2.trans (Apart.of_below (F:=λ_=>False) hb) (λ_ h=>h.elim),h3⟩
theorem PGo.behind {w w1 w':World}{R g m:Nat}{v:Value}{s:Rv}{n:Nat}(hb:Below w.heap.size w w1)(h:PGo w1 R g m v s n w'):PGo w R g m v s n w':=by
 obtain⟨v',kb,kd,ss',h1,h2,h3⟩:=h
 exact⟨v',kb,kd,ss',h1,(Apart.of_below hb).trans h2 (λ_ h=>.inl h),λj hj=>(h3 j hj).imp id λh=>Nat.le_trans hb.size h⟩
theorem PGo.after {w w1 w':World}{R g m:Nat}{v:Value}{s:Rv}{n:Nat}(ha:Apart (POwn R g m v) w w1)(h:PGo w1 R g m v s n w'):PGo w R g m v s n w':=by
 obtain⟨v',kb,kd,ss',h1,h2,h3⟩:=h
 exact⟨v',kb,kd,ss',h1,ha.trans h2 (λ_ h=>.inl h),λj hj=>(h3 j hj).imp id λh=>Nat.le_trans ha.size h⟩
theorem PGo.mono {w w':World}{R g m:Nat}{v:Value}{s:Rv}{n n':Nat}(h:PGo w R g m v s n w')(hn:n<=n'):PGo w R g m v s n' w':=by
 obtain⟨v',kb,kd,ss',h1,h2,h3⟩:=h
 exact⟨v',kb,kd,ss',⟨h1.at',h1.key,h1.buf.mono hn⟩,h2,h3⟩
theorem PGo.own {w:World}{R g m:Nat}{v v':Value}(h3:∀ j,v'.ownBlock=some j->v.ownBlock=some j\/w.heap.size<=j):∀ k,POwn R g m v' k->POwn R g m v k\/w.heap.size<=k:=λk hk=>by
 rcases hk with rfl|rfl|rfl|hk
 ·exact .inl (.inl rfl)
 ·exact .inl (.inr (.inl rfl))
 ·exact .inl (.inr (.inr (.inl rfl)))
 ·exact(h3 k hk).imp (λh=>.inr (.inr (.inr h))) id
theorem PGo.left {w w':World}{R g m:Nat}{v:Value}{s:Rv}{n:Nat}(h:PGo w R g m v s n w')(hok:s.ok)(hhi:∀ k,POwn R g m v k->3<=k)(hR:R<w.heap.size):Left PM w (POwn R g m v) R (s,n) w':=by
 obtain⟨v',kb,kd,ss',h1,h2,h3⟩:=h
 have h4:=PGo.own (w:=w) (R:=R) (g:=g) (m:=m) h3
 have h6:=hhi R (.inl rfl)
 exact⟨_,⟨g,m,v',kb,kd,ss',h1,hok,λk hk=>(h4 k hk).elim (hhi k) (λh=>by omega),rfl⟩,h2,h4⟩
theorem PGo.tabs {w w':World}{R g m:Nat}{v:Value}{s:Rv}{n:Nat}(h:PGo w R g m v s n w')(hhi:∀ k,POwn R g m v k->3<=k)(hT:TTab w):TTab w':=by
 obtain⟨v',kb,kd,ss',h1,h2,h3⟩:=h;exact hT.apart h2 hhi
theorem PLeft.go {w w':World}{R:Nat}{s:Rv}{n g m:Nat}{v:Value}{ka:Option Addr}{kc:Nat}{ss:List BSl}(h:PAll w R s n g m v ka kc ss){b':Bs}{n':Nat}(hl:PLeft w g m v b' n' w'):PGo w R g m v { s with b:=b' } n' w':=by
 obtain⟨v',ss',h1,h2,h3⟩:=hl
 exact⟨v',ka,kc,ss',⟨(h2.block R h.at'.lt h.ne).trans h.at',h.key.apart h2 λk hk=>h.buf.plain hk,h1⟩,h2.mono λk hk=>.inr hk,h3⟩
theorem frL_one (p:Fr×At):∀ u∈frL p.1 p.2,u.oneCell'=true:=by
 intro v hv
 simp only[frL,List.mem_cons,List.not_mem_nil,or_false] at hv
 rcases hv with rfl|rfl|rfl|rfl|rfl|rfl|rfl|rfl|rfl|rfl|rfl|rfl|rfl<;>rfl
theorem frL_nob (p:Fr×At):∀ u∈frL p.1 p.2,∀ k y,u=Value.int k y->(k==IntKind.u8)=false:=by
 intro v hv k y
 simp only[frL,List.mem_cons,List.not_mem_nil,or_false] at hv
 rcases hv with rfl|rfl|rfl|rfl|rfl|rfl|rfl|rfl|rfl|rfl|rfl|rfl|rfl<;>intro e<;>cases e<;>rfl
theorem zFr_nob:∀ u∈(Value.agg (frC Fr.zero At.zero)).cells.toList,∀ k y,u=Value.int k y->(k==IntKind.u8)=false:=frL_nob (Fr.zero,At.zero)
def EFr:Enc (Fr×At):=⟨41,55,13,.agg (frC Fr.zero At.zero),152,λp=>frL p.1 p.2,λ_=>rfl,frL_one,frL_nob,by kernel_rfl,by kernel_rfl,rfl,by decide,zFr_nob⟩
theorem Seen.apart {w w':World}{G:Nat->Prop}{F:Fr}{A:At}(h:Seen w F A)(ha:Apart G w w')(hp:∀ k,G k->Plain w k):Seen w' F A:=⟨h.key.apart ha hp,h.body.apart ha hp,h.tag.apart ha hp⟩
def Frs (w:World)(v:Value)(L:List Fr):Prop:=∃ os:List (Fr×At),Row EFr w v os/\(∀ p∈os,Seen w p.1 p.2)/\os.map Prod.fst=L
theorem Frs.below {w w':World}{v:Value}{L:List Fr}(h:Frs w v L)(hb:Below w.heap.size w w'):Frs w' v L:=by
 obtain⟨os,h1,h2,h3⟩:=h
 exact⟨os,h1.below hb,λp hp=>(h2 p hp).below hb,h3⟩
theorem Frs.apart {w w':World}{G:Nat->Prop}{v:Value}{L:List Fr}(h:Frs w v L)(ha:Apart G w w')(hn:∀ k,v.ownBlock=some k->¬ G k)(hp:∀ k,G k->Plain w k):Frs w' v L:=by
 obtain⟨os,h1,h2,h3⟩:=h
 exact⟨os,h1.apart ha hn,λp hq=>(h2 p hq).apart ha hp,h3⟩
theorem Frs.nil (w:World):Frs w (.slice none 0 0) []:=⟨[],Row.nil _ _,λp hp=>by simp at hp,rfl⟩
theorem Frs.shape {w:World}{v:Value}{L:List Fr}(h:Frs w v L):∃ a c,v=.slice a L.length c:=by
 obtain⟨os,h1,_,h3⟩:=h
 obtain⟨a,c,e,_⟩:=h1.shape
 rw[<-h3,List.length_map]
 exact⟨a,c,e⟩
theorem Frs.plain {w:World}{v:Value}{L:List Fr}(h:Frs w v L){k:Nat}(hk:v.ownBlock=some k):Plain w k:=by
 obtain⟨os,h1,_,_⟩:=h;exact h1.plain hk
theorem Frs.push {w:World}{v:Value}{L:List Fr}(h:Frs w v L)(hl:L.length<=900)(F:Fr)(A:At)(hF:Seen w F A)(c off sc:Nat)(hc:∀ j u,(frL F A)[j]?=some u->w.cell? ⟨c,off+j,none⟩=some u):
  ∃ v' w',(Builtin.append_ #[55,55] 55 #[v,.slice (some ⟨c,off,none⟩) 1 sc]).run Tryz.prog w=.ok v' w'/\Frs w' v' (L++[F])/\Apart (λk=>v.ownBlock=some k) w w'/\(∀ k,v'.ownBlock=some k->v.ownBlock=some k\/w.heap.size<=k):=by
 have hp:∀ k,v.ownBlock=some k->Plain w k:=λk hk=>h.plain hk
 obtain⟨os,h1,h2,h3⟩:=h
 have hol:os.length=L.length:=by rw[<-h3,List.length_map]
 obtain⟨v',w',r1,r2,r3,r4⟩:=h1.append [(F,A)] (by simp;omega) (some ⟨c,off,none⟩) sc λ_=>⟨c,off,rfl,λj u hu=>hc j u (by simpa [Enc.cs,EFr] using hu)⟩
 refine⟨v',w',r1,⟨os++[(F,A)],r2,λp hq=>?_,by rw[List.map_append,h3];rfl⟩,r3,r4⟩
 rcases List.mem_append.1 hq with hq|hq
 ·exact(h2 p hq).apart r3 hp
 ·obtain rfl:=List.mem_singleton.1 hq
  exact hF.apart r3 hp
end Go.Proofs.YthogohkieiogiaaGreatDoor
