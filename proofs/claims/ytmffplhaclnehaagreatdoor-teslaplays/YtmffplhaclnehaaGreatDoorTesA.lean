/- A helper. -/
import Derived.Test.YtmffplhaclnehaaGreatDoorTesM
import Derived.Test.YtmffplhaclnehaaGreatDoorBRefD
import Derived.Test.YtmffplhaclnehaaGreatDoorSchedA
import Derived.Test.YtmffplhaclnehaaGreatDoorAsErr
namespace Go.Proofs.YtmffplhaclnehaaGreatDoor
set_option maxRecDepth 20000
open Go.ChangeShapes Go.WideShapes Go.ChangeAt Go.RowKit
variable {w w':World} {R kc g kd n m r n':Nat} {s t:Rv} {ka kb:Option Addr} {u v:Value} {ss:List eU} {q:Rv×Nat} {F G:Nat->Prop} {L:List Fr}
def OP (s:Rv)(ka:Option Addr)(kc g:Nat):List Value:=
 [.int .i64 s.c.n, .int .i64 s.c.f, .int .i64 s.c.s, .int .i64 s.c.d, .int .i64 s.c.k, .int .i64 s.c.e, .int .i64 s.c.v, .int .i64 s.c.r, .int .i64 s.c.l, .int .i64 s.c.p,
   .int .i64 s.me, .int .i64 s.ep, .int .i64 s.st, .int .i64 s.ix, .slice ka s.key.length kc, .int .i64 s.last, .pointer (some ⟨g, 0, none⟩)]
def OQ (s:Rv)(ka:Option Addr)(kc g:Nat):List Value:=
 [.int .i64 s.c.n, .int .i64 s.c.f, .int .i64 s.c.s, .int .i64 s.c.d, .int .i64 s.c.k, .int .i64 s.c.e, .int .i64 s.c.v, .int .i64 s.c.r, .int .i64 s.c.l, .int .i64 s.c.p,
   .int .i64 s.me, .int .i64 s.ep, .int .i64 s.st, .int .i64 s.ix, .slice ka s.key.length kc, .pointer (some ⟨g, 0, none⟩), .int .i64 s.last]
def rW (w:World)(R:Nat)(s:Rv)(ka:Option Addr)(kc g:Nat):Prop:=w.heap[R]?=some (.cells (OP s ka kc g).toArray 76 (0,0))
def AY (w:World)(R:Nat)(s:Rv)(ka:Option Addr)(kc g:Nat):Prop:=w.heap[R]?=some (.cells (OQ s ka kc g).toArray 50 (0,0))
theorem rW.cell (h:rW w R s ka kc g)(i:Nat)(hu:(OP s ka kc g)[i]?=some u):w.cell? ⟨R,i,none⟩=some u:=by
 rw[cell_of_row w _ i _ _ _ h];simpa using hu
theorem AY.cell (h:AY w R s ka kc g)(i:Nat)(hu:(OQ s ka kc g)[i]?=some u):w.cell? ⟨R,i,none⟩=some u:=by
 rw[cell_of_row w _ i _ _ _ h];simpa using hu
theorem rW.fz (h:rW w R s ka kc g)(i:Nat):w.frozen? ⟨R,i,none⟩=false:=frozen_of_row _ _ i _ _ h
theorem AY.fz (h:AY w R s ka kc g)(i:Nat):w.frozen? ⟨R,i,none⟩=false:=frozen_of_row _ _ i _ _ h
theorem rW.lt (h:rW w R s ka kc g):R<w.heap.size:=(Array.getElem?_eq_some_iff.1 h).1
theorem AY.lt (h:AY w R s ka kc g):R<w.heap.size:=(Array.getElem?_eq_some_iff.1 h).1
theorem rW.put (h:rW w R s ka kc g)(i:Nat)(u:Value)(hl:(OP s ka kc g).set i u=OP t kb kd g):rW (w.setCell ⟨R,i,none⟩ u) R t kb kd g:=by
 show (w.setCell ⟨R,i,none⟩ u).heap[R]?=_
 rw[heap_setCell_same _ _ _ _ _ _ h]
 congr 2
 rw[List.setIfInBounds_toArray,hl]
theorem AY.put (h:AY w R s ka kc g)(i:Nat)(u:Value)(hl:(OQ s ka kc g).set i u=OQ t kb kd g):AY (w.setCell ⟨R,i,none⟩ u) R t kb kd g:=by
 show (w.setCell ⟨R,i,none⟩ u).heap[R]?=_
 rw[heap_setCell_same _ _ _ _ _ _ h]
 congr 2
 rw[List.setIfInBounds_toArray,hl]
theorem RH (s:Rv)(ka:Option Addr)(kc g:Nat):kJ (OP s ka kc g).toArray:=by
 intro u hu k y
 simp only[OP,List.mem_cons,List.not_mem_nil,or_false] at hu
 rcases hu with rfl|rfl|rfl|rfl|rfl|rfl|rfl|rfl|rfl|rfl|rfl|rfl|rfl|rfl|rfl|rfl|rfl<;>intro e<;>cases e<;>rfl
theorem RJ (s:Rv)(ka:Option Addr)(kc g:Nat):kJ (OQ s ka kc g).toArray:=by
 intro u hu k y
 simp only[OQ,List.mem_cons,List.not_mem_nil,or_false] at hu
 rcases hu with rfl|rfl|rfl|rfl|rfl|rfl|rfl|rfl|rfl|rfl|rfl|rfl|rfl|rfl|rfl|rfl|rfl<;>intro e<;>cases e<;>rfl
theorem rW.plain (h:rW w R s ka kc g):Plain w R:=(RH s ka kc g).plain h
theorem AY.plain (h:AY w R s ka kc g):Plain w R:=(RJ s ka kc g).plain h
theorem rW.loads (h:rW w R s ka kc g):(Instr.loadAt 23 (.pointer (some ⟨R,0,none⟩))).run Tryz.prog w=.ok (.agg (aF s.c)) w:=
 run_loadAt_mid w R 0 23 (Hw s.c) _ (λj v hv=>by
  rw[Nat.zero_add]
  refine h.cell j ?_
  have hj:j<10:=(List.getElem?_eq_some_iff.1 hv).1
  show (Hw s.c++_)[j]?=some v
  rw[List.getElem?_append_left hj];exact hv) Tryz.underlying23 rfl (by kernel_rfl)
theorem AY.loads (h:AY w R s ka kc g):(Instr.loadAt 23 (.pointer (some ⟨R,0,none⟩))).run Tryz.prog w=.ok (.agg (aF s.c)) w:=
 run_loadAt_mid w R 0 23 (Hw s.c) _ (λj v hv=>by
  rw[Nat.zero_add]
  refine h.cell j ?_
  have hj:j<10:=(List.getElem?_eq_some_iff.1 hv).1
  show (Hw s.c++_)[j]?=some v
  rw[List.getElem?_append_left hj];exact hv) Tryz.underlying23 rfl (by kernel_rfl)
def dG (R g m:Nat)(v:Value):Nat->Prop:=λk=>k=R\/Own g m v k
def lM (R r:Nat)(v:Value):Nat->Prop:=λk=>k=R\/DK r v k
structure bY (w:World)(R:Nat)(s:Rv)(n:Nat)(g m:Nat)(v:Value)(ka:Option Addr)(kc:Nat)(ss:List eU):Prop where
 at':rW w R s ka kc g
 key:ag w ka kc s.key
 buf:Pb w g m v s.b ss n
structure dS (w:World)(R:Nat)(s:Rv)(r:Nat)(v:Value)(ka:Option Addr)(kc:Nat)(ss:List eU):Prop where
 at':AY w R s ka kc r
 key:ag w ka kc s.key
 buf:oF w r v s.b ss
def PM (w:World)(R:Nat)(q:Rv×Nat)(F:Nat->Prop):Prop:=∃ g m v ka kc ss,bY w R q.1 q.2 g m v ka kc ss/\q.1.ok/\(∀ k,dG R g m v k->3<=k)/\F=dG R g m v
def DM (w:World)(R:Nat)(s:Rv)(F:Nat->Prop):Prop:=∃ r v ka kc ss,dS w R s r v ka kc ss/\s.ok/\(∀ k,lM R r v k->3<=k)/\F=lM R r v
theorem bY.ne (h:bY w R s n g m v ka kc ss):¬ Own g m v R:=by
 have h1:=h.at'
 unfold rW at h1
 rintro(rfl|rfl|hO)
 ·have h2:=h.buf.at'
  unfold PA at h2
  rw[h2] at h1;simp at h1
 ·obtain⟨es,cl,h2⟩:=h.buf.map.isMap
  rw[h2] at h1;cases h1
 ·obtain⟨cur,h2,_⟩:=h.buf.row.isRow hO
  rw[h2] at h1;simp at h1;exact absurd h1.2 (by decide)
theorem dS.ne (h:dS w R s r v ka kc ss):¬ DK r v R:=by
 have h1:=h.at'
 unfold AY at h1
 rintro(rfl|hO)
 ·have h2:=h.buf.at'
  unfold RA at h2
  rw[h2] at h1;simp at h1
 ·obtain⟨cur,h2,_⟩:=h.buf.row.isRow hO
  rw[h2] at h1;simp at h1;exact absurd h1.2 (by decide)
theorem bY.plain (h:bY w R s n g m v ka kc ss){k:Nat}(hk:dG R g m v k):Plain w k:=by
 rcases hk with rfl|hk
 ·exact h.at'.plain
 ·exact h.buf.plain hk
theorem dS.plain (h:dS w R s r v ka kc ss){k:Nat}(hk:lM R r v k):Plain w k:=by
 rcases hk with rfl|hk
 ·exact h.at'.plain
 ·exact h.buf.plain hk
theorem PM.plain (h:PM w R q F){k:Nat}(hk:F k):Plain w k:=by
 obtain⟨g,m,v,ka,kc,ss,h,hok,hhi,rfl⟩:=h;exact h.plain hk
theorem DM.plain (h:DM w R s F){k:Nat}(hk:F k):Plain w k:=by
 obtain⟨r,v,ka,kc,ss,h,hok,hhi,rfl⟩:=h;exact h.plain hk
theorem bY.lt (h:bY w R s n g m v ka kc ss){k:Nat}(hk:dG R g m v k):k<w.heap.size:=by
 rcases hk with rfl|hk
 ·exact h.at'.lt
 ·exact h.buf.lt hk
theorem dS.lt (h:dS w R s r v ka kc ss){k:Nat}(hk:lM R r v k):k<w.heap.size:=by
 rcases hk with rfl|hk
 ·exact h.at'.lt
 ·exact h.buf.lt hk
theorem PM.lt (h:PM w R q F){k:Nat}(hk:F k):k<w.heap.size:=by
 obtain⟨g,m,v,ka,kc,ss,h,hok,hhi,rfl⟩:=h;exact h.lt hk
theorem DM.lt (h:DM w R s F){k:Nat}(hk:F k):k<w.heap.size:=by
 obtain⟨r,v,ka,kc,ss,h,hok,hhi,rfl⟩:=h;exact h.lt hk
theorem bY.apart (h:bY w R s n g m v ka kc ss)(ha:Apart G w w')(hn:∀ k,G k->¬ dG R g m v k)(hp:∀ k,G k->Plain w k):bY w' R s n g m v ka kc ss:=
 ⟨(ha.block R h.at'.lt λhG=>hn R hG (.inl rfl)).trans h.at',h.key.apart ha hp,h.buf.apart ha (λk hk ho=>hn k hk (.inr ho)) hp⟩
theorem dS.apart (h:dS w R s r v ka kc ss)(ha:Apart G w w')(hn:∀ k,G k->¬ lM R r v k)(hp:∀ k,G k->Plain w k):dS w' R s r v ka kc ss:=
 ⟨(ha.block R h.at'.lt λhG=>hn R hG (.inl rfl)).trans h.at',h.key.apart ha hp,h.buf.apart ha (λk hk ho=>hn k hk (.inr ho)) hp⟩
theorem PM.apart (h:PM w R q F)(ha:Apart G w w')(hn:∀ k,G k->¬ F k)(hp:∀ k,G k->Plain w k):PM w' R q F:=by
 obtain⟨g,m,v,ka,kc,ss,h,hok,hhi,rfl⟩:=h;exact⟨g,m,v,ka,kc,ss,h.apart ha hn hp,hok,hhi,rfl⟩
theorem DM.apart (h:DM w R s F)(ha:Apart G w w')(hn:∀ k,G k->¬ F k)(hp:∀ k,G k->Plain w k):DM w' R s F:=by
 obtain⟨r,v,ka,kc,ss,h,hok,hhi,rfl⟩:=h;exact⟨r,v,ka,kc,ss,h.apart ha hn hp,hok,hhi,rfl⟩
theorem bY.below (h:bY w R s n g m v ka kc ss)(hb:Below w.heap.size w w'):bY w' R s n g m v ka kc ss:=
 h.apart (G:=λ_=>False) (Apart.of_below hb) (λ_ h=>h.elim) (λ_ h=>h.elim)
theorem dS.below (h:dS w R s r v ka kc ss)(hb:Below w.heap.size w w'):dS w' R s r v ka kc ss:=
 h.apart (G:=λ_=>False) (Apart.of_below hb) (λ_ h=>h.elim) (λ_ h=>h.elim)
theorem PM.below (h:PM w R q F)(hb:Below w.heap.size w w'):PM w' R q F:=
 h.apart (G:=λ_=>False) (Apart.of_below hb) (λ_ h=>h.elim) (λ_ h=>h.elim)
theorem DM.below (h:DM w R s F)(hb:Below w.heap.size w w'):DM w' R s F:=
 h.apart (G:=λ_=>False) (Apart.of_below hb) (λ_ h=>h.elim) (λ_ h=>h.elim)
theorem bY.left (h:bY w R s n g m v ka kc ss){b':Bs}(hl:eZ w g m v b' n' w')(hok:Rv.ok { s with b:=b' })(hhi:∀ k,dG R g m v k->3<=k):Left PM w (dG R g m v) R ({ s with b:=b' },n') w':=by
 obtain⟨v',ss',h1,h2,h3⟩:=hl
 have h4:∀ k,dG R g m v' k->dG R g m v k\/w.heap.size<=k:=λk hk=>by
  rcases hk with rfl|rfl|rfl|hk
  ·exact .inl (.inl rfl)
  ·exact .inl (.inr (.inl rfl))
  ·exact .inl (.inr (.inr (.inl rfl)))
  ·exact(h3 k hk).imp (λh=>.inr (.inr (.inr h))) id
 have h5:=h.at'.lt
 have h6:=hhi R (.inl rfl)
 exact⟨_,⟨g,m,v',ka,kc,ss',⟨(h2.block R h.at'.lt h.ne).trans h.at',h.key.apart h2 λk hk=>h.buf.plain hk,h1⟩,hok,λk hk=>(h4 k hk).elim (hhi k) (λh=>by omega),rfl⟩,h2.mono λk hk=>.inr hk,h4⟩
theorem bY.set (h:bY w R s n g m v ka kc ss)(i:Nat)(u:Value)(hl:(OP s ka kc g).set i u=OP t kb kd g)(hb:t.b=s.b)(hk:ag w kb kd t.key):
  bY (w.setCell ⟨R,i,none⟩ u) R t n g m v kb kd ss/\Apart (dG R g m v) w (w.setCell ⟨R,i,none⟩ u):=by
 have ha:Apart (λk=>k=R) w (w.setCell ⟨R,i,none⟩ u):=(Apart.refl (λk=>k=R) w).setCell (b:=R) (.inl rfl) i u
 have hp:∀ k,k=R->Plain w k:=λk e=>e▸h.at'.plain
 refine⟨⟨h.at'.put i u hl,hk.apart ha hp,?_⟩,ha.mono λk e=>.inl e⟩
 rw[hb]
 exact h.buf.apart ha (λk e ho=>h.ne (e▸ho)) hp
theorem dS.set (h:dS w R s r v ka kc ss)(i:Nat)(u:Value)(hl:(OQ s ka kc r).set i u=OQ t kb kd r)(hb:t.b=s.b)(hk:ag w kb kd t.key):
  dS (w.setCell ⟨R,i,none⟩ u) R t r v kb kd ss/\Apart (lM R r v) w (w.setCell ⟨R,i,none⟩ u):=by
 have ha:Apart (λk=>k=R) w (w.setCell ⟨R,i,none⟩ u):=(Apart.refl (λk=>k=R) w).setCell (b:=R) (.inl rfl) i u
 have hp:∀ k,k=R->Plain w k:=λk e=>e▸h.at'.plain
 refine⟨⟨h.at'.put i u hl,hk.apart ha hp,?_⟩,ha.mono λk e=>.inl e⟩
 rw[hb]
 exact h.buf.apart ha (λk e ho=>h.ne (e▸ho)) hp
def iw (w:World):Prop:=vP w/\fJ w/\bN w
theorem iw.below (h:iw w)(hb:Below w.heap.size w w'):iw w':=⟨h.1.below hb,h.2.1.below hb,h.2.2.below hb⟩
theorem iw.apart (h:iw w)(ha:Apart F w w')(hF:∀ k,F k->3<=k):iw w':=by
 refine⟨?_,?_,?_⟩
 ·exact ha.cell h.1 λhf=>by have h3:=hF _ hf;dsimp only at h3;omega
 ·intro t ht
  exact ha.cell (h.2.1 t ht) λhf=>by have h3:=hF _ hf;dsimp only at h3;omega
 ·intro t ht
  exact ha.cell (h.2.2 t ht) λhf=>by have h3:=hF _ hf;dsimp only at h3;omega
theorem PM.ok (h:PM w R q F):q.1.ok:=by
 obtain⟨g,m,v,ka,kc,ss,h,hok,hhi,rfl⟩:=h;exact hok
theorem DM.ok (h:DM w R s F):s.ok:=by
 obtain⟨r,v,ka,kc,ss,h,hok,hhi,rfl⟩:=h;exact hok
theorem lN (w:World)(R g:Nat)(c16:w.cell? ⟨R,16,none⟩=some (.pointer (some ⟨g,0,none⟩))):Calls Tryz.prog 33 #[.pointer (some ⟨R,0,none⟩)] w λe w'=>e=.returned (.bool true)/\w'=w:=by
 go_enter Tryz.func33,Tryz.ntmps33
 go_wp2
 go_ret
 exact⟨rfl,rfl⟩
theorem rW.c16 (h:rW w R s ka kc g):w.cell? ⟨R,16,none⟩=some (.pointer (some ⟨g,0,none⟩)):=h.cell 16 rfl
theorem zx (w:World)(R:Nat)(s:Rv)(ka:Option Addr)(kc g:Nat)(h:rW w R s ka kc g):Calls Tryz.prog 18 #[.pointer (some ⟨R,0,none⟩)] w λe w'=>e=.returned (.int .i64 s.ep)/\w'=w:=by
 have hs:=lN w R g h.c16
 have c:w.cell? ⟨R,11,none⟩=some (.int .i64 s.ep):=h.cell 11 rfl
 clear h
 go_enter Tryz.func18,Tryz.ntmps18
 go_wp2_with fail
 refine hs.mono ?_
 rintro e w ⟨rfl,rfl⟩
 go_wp2
 go_ret
 exact⟨rfl,rfl⟩
theorem Kw (w:World)(R:Nat)(s:Rv)(ka:Option Addr)(kc g:Nat)(h:rW w R s ka kc g):Calls Tryz.prog 19 #[.pointer (some ⟨R,0,none⟩)] w λe w'=>e=.returned (.int .i64 s.ix)/\w'=w:=by
 have hs:=lN w R g h.c16
 have c:w.cell? ⟨R,13,none⟩=some (.int .i64 s.ix):=h.cell 13 rfl
 clear h
 go_enter Tryz.func19,Tryz.ntmps19
 go_wp2_with fail
 refine hs.mono ?_
 rintro e w ⟨rfl,rfl⟩
 go_wp2
 go_ret
 exact⟨rfl,rfl⟩
theorem OT (w:World)(R:Nat)(s:Rv)(ka:Option Addr)(kc g:Nat)(h:rW w R s ka kc g):Calls Tryz.prog 21 #[.pointer (some ⟨R,0,none⟩)] w λe w'=>e=.returned (.int .i64 s.last)/\w'=w:=by
 have hs:=lN w R g h.c16
 have c:w.cell? ⟨R,15,none⟩=some (.int .i64 s.last):=h.cell 15 rfl
 clear h
 go_enter Tryz.func21,Tryz.ntmps21
 go_wp2_with fail
 refine hs.mono ?_
 rintro e w ⟨rfl,rfl⟩
 go_wp2
 go_ret
 exact⟨rfl,rfl⟩
theorem Dj (w:World)(R:Nat)(s:Rv)(n g m:Nat)(v:Value)(ka:Option Addr)(kc:Nat)(ss:List eU)(h:bY w R s n g m v ka kc ss):Calls Tryz.prog 20 #[.pointer (some ⟨R,0,none⟩)] w λe w'=>e=.returned (.int .i64 (s.b.L.length:Int))/\w'=w:=by
 have hs:=lN w R g h.at'.c16
 have hl:=TV w g m v s.b ss n h.buf
 have c:=h.at'.c16
 clear h
 go_enter Tryz.func20,Tryz.ntmps20
 go_wp2_with fail
 refine hs.mono ?_
 rintro e w ⟨rfl,rfl⟩
 go_wp2_with fail
 refine hl.mono ?_
 rintro e w ⟨rfl,rfl⟩
 go_wp2
 go_ret
 exact⟨rfl,rfl⟩
theorem zy (w:World)(R:Nat)(s:Rv)(ka:Option Addr)(kc g:Nat)(h:rW w R s ka kc g)(i:Int)(x:Option Addr)(k:List UInt8)(cx:Nat)(_hk:k.length<=9223372036854775807):
  Calls Tryz.prog 69 #[.pointer (some ⟨R,0,none⟩),.int .i64 i,.slice x k.length cx] w λe w'=>e=.returned (.bool (gU s i k))/\w'=w:=by
 have c4:w.cell? ⟨R,4,none⟩=some (.int .i64 s.c.k):=h.cell 4 rfl
 clear h
 by_cases h0:0<=i
 ·by_cases h1:i<=s.c.k
  ·by_cases h2:k.length=16
   ·have e:gU s i k=true:=aW.2 ⟨h0,h1,h2⟩
    rw[e,h2]
    clear e h2 _hk
    go_enter Tryz.func69,Tryz.ntmps69
    go_wp2
    go_ret
    exact⟨rfl,rfl⟩
   ·have e:gU s i k=false:=by rw[<-Bool.not_eq_true,aW];omega
    have d:((k.length:Int)==16)=false:=by simp;omega
    rw[e]
    clear e h2
    go_enter Tryz.func69,Tryz.ntmps69
    go_wp2
    go_ret
    exact⟨rfl,rfl⟩
  ·have e:gU s i k=false:=by rw[<-Bool.not_eq_true,aW];omega
   have d:decide (i<=s.c.k)=false:=decide_eq_false h1
   rw[e]
   clear e h1
   go_enter Tryz.func69,Tryz.ntmps69
   go_wp2
   go_ret
   exact⟨rfl,rfl⟩
 ·have e:gU s i k=false:=by rw[<-Bool.not_eq_true,aW];omega
  have d:decide (0<=i)=false:=decide_eq_false h0
  rw[e]
  clear e h0
  go_enter Tryz.func69,Tryz.ntmps69
  go_wp2
  go_ret
  exact⟨rfl,rfl⟩
def uZ (v:Value)(n:Int):Prop:=(n=0/\v=.nilIface)\/((n==0)=false/\∃ s,v=fE s n)
theorem AZ (s:ByteArray)(w:World):Calls Tryz.prog 70 #[.string s,.int .i64 0] w λe w'=>e=.returned .nilIface/\w'=w:=by
 go_enter Tryz.func70,Tryz.ntmps70
 go_wp2
 go_ret
 exact⟨rfl,rfl⟩
theorem aO (s:ByteArray)(n:Int)(hn:(n==0)=false)(w:World):Calls Tryz.prog 70 #[.string s,.int .i64 n] w λe w'=>e=.returned (fE s n)/\w'=w:=by
 unfold fE
 go_enter Tryz.func70,Tryz.ntmps70
 go_wp2
 go_ret
 exact⟨rfl,rfl⟩
theorem Dk (s:ByteArray)(n:Int)(w:World):Calls Tryz.prog 70 #[.string s,.int .i64 n] w λe w'=>∃ v,e=.returned v/\uZ v n/\w'=w:=by
 cases hn:n==0
 ·exact(aO s n hn w).mono λe w' ⟨h1,h2⟩=>⟨_,h1,.inr ⟨hn,s,rfl⟩,h2⟩
 ·obtain rfl:n=0:=by simpa using hn
  exact(AZ s w).mono λe w' ⟨h1,h2⟩=>⟨_,h1,.inl ⟨rfl,rfl⟩,h2⟩
theorem qf (v:Value)(n:Int)(h:uZ v n)(w:World)(hE:vP w):Calls Tryz.prog 34 #[v] w λe w'=>e=.returned (.int .i64 n)/\Below w.heap.size w w':=by
 rcases h with ⟨rfl,rfl⟩|⟨_,s,rfl⟩
 ·exact zK w
 ·exact zL s n w hE
def jb (w:World)(R g m:Nat)(v:Value)(s':Rv)(n':Nat)(w':World):Prop:=∃ v' kb kd ss',bY w' R s' n' g m v' kb kd ss'/\Apart (dG R g m v) w w'/\∀ j,v'.ownBlock=some j->v.ownBlock=some j\/w.heap.size<=j
theorem jb.same (h:bY w' R s n g m v ka kc ss)(ha:Apart (dG R g m v) w w'):jb w R g m v s n w':=⟨v,ka,kc,ss,h,ha,λ_ h=>.inl h⟩
theorem jb.below {w2:World}(h:jb w R g m v s n w')(hb:Below w'.heap.size w' w2):jb w R g m v s n w2:=by
 obtain⟨v',kb,kd,ss',h1,h2,h3⟩:=h
 exact⟨v',kb,kd,ss',h1.below hb,h2.trans (Apart.of_below (F:=λ_=>False) hb) (λ_ h=>h.elim),h3⟩
theorem jb.behind {w1:World}(hb:Below w.heap.size w w1)(h:jb w1 R g m v s n w'):jb w R g m v s n w':=by
 obtain⟨v',kb,kd,ss',h1,h2,h3⟩:=h
 exact⟨v',kb,kd,ss',h1,(Apart.of_below hb).trans h2 (λ_ h=>.inl h),λj hj=>(h3 j hj).imp id λh=>Nat.le_trans hb.size h⟩
theorem jb.after {w1:World}(ha:Apart (dG R g m v) w w1)(h:jb w1 R g m v s n w'):jb w R g m v s n w':=by
 obtain⟨v',kb,kd,ss',h1,h2,h3⟩:=h
 exact⟨v',kb,kd,ss',h1,ha.trans h2 (λ_ h=>.inl h),λj hj=>(h3 j hj).imp id λh=>Nat.le_trans ha.size h⟩
theorem jb.mono (h:jb w R g m v s n w')(hn:n<=n'):jb w R g m v s n' w':=by
 obtain⟨v',kb,kd,ss',h1,h2,h3⟩:=h
 exact⟨v',kb,kd,ss',⟨h1.at',h1.key,h1.buf.mono hn⟩,h2,h3⟩
theorem jb.own {v':Value}(h3:∀ j,v'.ownBlock=some j->v.ownBlock=some j\/w.heap.size<=j):∀ k,dG R g m v' k->dG R g m v k\/w.heap.size<=k:=λk hk=>by
 rcases hk with rfl|rfl|rfl|hk
 ·exact .inl (.inl rfl)
 ·exact .inl (.inr (.inl rfl))
 ·exact .inl (.inr (.inr (.inl rfl)))
 ·exact(h3 k hk).imp (λh=>.inr (.inr (.inr h))) id
theorem jb.left (h:jb w R g m v s n w')(hok:s.ok)(hhi:∀ k,dG R g m v k->3<=k)(hR:R<w.heap.size):Left PM w (dG R g m v) R (s,n) w':=by
 obtain⟨v',kb,kd,ss',h1,h2,h3⟩:=h
 have h4:=jb.own (w:=w) (R:=R) (g:=g) (m:=m) h3
 have h6:=hhi R (.inl rfl)
 exact⟨_,⟨g,m,v',kb,kd,ss',h1,hok,λk hk=>(h4 k hk).elim (hhi k) (λh=>by omega),rfl⟩,h2,h4⟩
theorem jb.tabs (h:jb w R g m v s n w')(hhi:∀ k,dG R g m v k->3<=k)(hT:iw w):iw w':=by
 obtain⟨v',kb,kd,ss',h1,h2,h3⟩:=h;exact hT.apart h2 hhi
theorem eZ.go (h:bY w R s n g m v ka kc ss){b':Bs}(hl:eZ w g m v b' n' w'):jb w R g m v { s with b:=b' } n' w':=by
 obtain⟨v',ss',h1,h2,h3⟩:=hl
 exact⟨v',ka,kc,ss',⟨(h2.block R h.at'.lt h.ne).trans h.at',h.key.apart h2 λk hk=>h.buf.plain hk,h1⟩,h2.mono λk hk=>.inr hk,h3⟩
theorem RL (p:Fr×At):∀ u∈wJ p.1 p.2,u.oneCell'=true:=by
 intro v hv
 simp only[wJ,List.mem_cons,List.not_mem_nil,or_false] at hv
 rcases hv with rfl|rfl|rfl|rfl|rfl|rfl|rfl|rfl|rfl|rfl|rfl|rfl|rfl<;>rfl
theorem A8 (p:Fr×At):∀ u∈wJ p.1 p.2,∀ k y,u=Value.int k y->(k==IntKind.u8)=false:=by
 intro v hv k y
 simp only[wJ,List.mem_cons,List.not_mem_nil,or_false] at hv
 rcases hv with rfl|rfl|rfl|rfl|rfl|rfl|rfl|rfl|rfl|rfl|rfl|rfl|rfl<;>intro e<;>cases e<;>rfl
theorem RO:∀ u∈(Value.agg (au Fr.zero At.zero)).cells.toList,∀ k y,u=Value.int k y->(k==IntKind.u8)=false:=A8 (Fr.zero,At.zero)
def VD:Enc (Fr×At):=⟨61,41,13,.agg (au Fr.zero At.zero),152,λp=>wJ p.1 p.2,λ_=>rfl,RL,A8,by kernel_rfl,by kernel_rfl,rfl,by decide,RO⟩
theorem Seen.apart {F:Fr}{A:At}(h:Seen w F A)(ha:Apart G w w')(hp:∀ k,G k->Plain w k):Seen w' F A:=⟨h.key.apart ha hp,h.body.apart ha hp,h.tag.apart ha hp⟩
def iP (w:World)(v:Value)(L:List Fr):Prop:=∃ os:List (Fr×At),Row VD w v os/\(∀ p∈os,Seen w p.1 p.2)/\os.map Prod.fst=L
theorem iP.below (h:iP w v L)(hb:Below w.heap.size w w'):iP w' v L:=by
 obtain⟨os,h1,h2,h3⟩:=h
 exact⟨os,h1.below hb,λp hp=>(h2 p hp).below hb,h3⟩
theorem iP.apart (h:iP w v L)(ha:Apart G w w')(hn:∀ k,v.ownBlock=some k->¬ G k)(hp:∀ k,G k->Plain w k):iP w' v L:=by
 obtain⟨os,h1,h2,h3⟩:=h
 exact⟨os,h1.apart ha hn,λp hq=>(h2 p hq).apart ha hp,h3⟩
theorem iP.nil (w:World):iP w (.slice none 0 0) []:=⟨[],Row.nil _ _,λp hp=>by simp at hp,rfl⟩
theorem iP.shape (h:iP w v L):∃ a c,v=.slice a L.length c:=by
 obtain⟨os,h1,_,h3⟩:=h
 obtain⟨a,c,e,_⟩:=h1.shape
 rw[<-h3,List.length_map]
 exact⟨a,c,e⟩
theorem iP.plain (h:iP w v L){k:Nat}(hk:v.ownBlock=some k):Plain w k:=by
 obtain⟨os,h1,_,_⟩:=h;exact h1.plain hk
theorem iP.push (h:iP w v L)(hl:L.length<=900)(F:Fr)(A:At)(hF:Seen w F A)(c off sc:Nat)(hc:∀ j u,(wJ F A)[j]?=some u->w.cell? ⟨c,off+j,none⟩=some u):
  ∃ v' w',(Builtin.append_ #[41,41] 41 #[v,.slice (some ⟨c,off,none⟩) 1 sc]).run Tryz.prog w=.ok v' w'/\iP w' v' (L++[F])/\Apart (λk=>v.ownBlock=some k) w w'/\(∀ k,v'.ownBlock=some k->v.ownBlock=some k\/w.heap.size<=k):=by
 have hp:∀ k,v.ownBlock=some k->Plain w k:=λk hk=>h.plain hk
 obtain⟨os,h1,h2,h3⟩:=h
 have hol:os.length=L.length:=by rw[<-h3,List.length_map]
 obtain⟨v',w',r1,r2,r3,r4⟩:=h1.append [(F,A)] (by simp;omega) (some ⟨c,off,none⟩) sc λ_=>⟨c,off,rfl,λj u hu=>hc j u (by simpa [Enc.cs,VD] using hu)⟩
 refine⟨v',w',r1,⟨os++[(F,A)],r2,λp hq=>?_,by rw[List.map_append,h3];rfl⟩,r3,r4⟩
 rcases List.mem_append.1 hq with hq|hq
 ·exact(h2 p hq).apart r3 hp
 ·obtain rfl:=List.mem_singleton.1 hq
  exact hF.apart r3 hp
theorem iP.append {M:List Fr}(h:iP w v L)(hu:iP w u M)(hl:L.length+M.length<=900):
  ∃ v' w',(Builtin.append_ #[41,41] 41 #[v,u]).run Tryz.prog w=.ok v' w'/\iP w' v' (L++M)/\Apart (λk=>v.ownBlock=some k) w w'/\(∀ k,v'.ownBlock=some k->v.ownBlock=some k\/w.heap.size<=k):=by
 have hp:∀ k,v.ownBlock=some k->Plain w k:=λk hk=>h.plain hk
 obtain⟨os,h1,h2,h3⟩:=h
 obtain⟨ps,g1,g2,g3⟩:=hu
 have hol:os.length=L.length:=by rw[<-h3,List.length_map]
 have hpl:ps.length=M.length:=by rw[<-g3,List.length_map]
 obtain⟨ua,uc,rfl,_,_,_,_,hcell⟩:=g1.shape
 obtain⟨v',w',r1,r2,r3,r4⟩:=h1.append ps (by omega) ua uc λhne=>by
  obtain⟨p,r,e⟩:∃ p r,ps=p::r:=by cases ps with
   | nil=>exact absurd rfl hne
   | cons p r=>exact⟨p,r,rfl⟩
  obtain⟨q,hq,_⟩:=hcell 0 (.int .i64 p.1.k) (by rw[e];rfl)
  refine⟨q,0,hq,λj y hy=>?_⟩
  obtain⟨q',hq',hc⟩:=hcell j y hy
  rw[hq] at hq'
  cases hq'
  rw[Nat.zero_add];exact hc
 refine⟨v',w',r1,⟨os++ps,r2,λp hq=>?_,by rw[List.map_append,h3,g3]⟩,r3,r4⟩
 rcases List.mem_append.1 hq with hq|hq
 ·exact(h2 p hq).apart r3 hp
 ·exact(g2 p hq).apart r3 hp
end Go.Proofs.YtmffplhaclnehaaGreatDoor
