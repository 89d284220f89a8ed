/-
  The program's New of a node that asks and answers.
-/
import Derived.Test.YthogohkieiogiaaGreatDoorEchoU
import Derived.Deep.MidRow
import Derived.OwnWalk
import Derived.Test.YthogohkieiogiaaGreatDoorSchedC
namespace Go.Proofs.YthogohkieiogiaaGreatDoor
set_option maxRecDepth 20000
open Go.ChangeShapes Go.WideShapes Go.ChangeAt Go.RowKit
def pwC:Option (Nat×Int)->List Value
 | none=>[.int .u64 0,.int .i64 0]
 | some (n,t)=>[.int .u64 (n:Int),.int .i64 t]
def pwF (ws:List (Option (Nat×Int))):List Value:=ws.flatMap pwC
theorem pwC_len (p:Option (Nat×Int)):(pwC p).length=2:=by rcases p with _|⟨n,t⟩<;>rfl
theorem pwF_get:∀ (ws:List (Option (Nat×Int))) (j:Nat) (p:Option (Nat×Int)) (t:Nat) (u:Value),ws[j]?=some p->(pwC p)[t]?=some u->(pwF ws)[j*2+t]?=some u
 | [],j,p,t,u,h,_=>by simp at h
 | q :: r, 0, p, t, u, h, hu => by
   simp at h
   subst h
   have ht := (List.getElem?_eq_some_iff.1 hu).1
   simp only [pwF, List.flatMap_cons]
   rw [List.getElem?_append_left (by omega)]
   rw [show 0 * 2 + t = t by omega]; exact hu
 | q :: r, j + 1, p, t, u, h, hu => by
   have ih := pwF_get r j p t u (by simpa using h) hu
   simp only [pwF, List.flatMap_cons] at ih ⊢
   rw [List.getElem?_append_right (by rw [pwC_len]; omega), pwC_len, show (j + 1) * 2 + t - 2 = j * 2 + t by omega]
   exact ih
theorem pwC_set (p q:Option (Nat×Int)):∀ u0 u1,pwC q=[u0,u1]->((pwC p).set 0 u0).set 1 u1=pwC q:=by
 intro u0 u1 h
 rw[h]
 rcases p with _|⟨n,t⟩<;>rfl
theorem pwF_set:∀ (ws:List (Option (Nat×Int))) (j:Nat) (q:Option (Nat×Int)) (u0 u1:Value),j<ws.length->pwC q=[u0,u1]->((pwF ws).set (j*2) u0).set (j*2+1) u1=pwF (ws.set j q)
 | [],j,q,_,_,h,_=>by simp at h
 | p :: r, 0, q, u0, u1, _, hq => by
   simp only [pwF, List.flatMap_cons, List.set_cons_zero, Nat.zero_mul, Nat.zero_add]
   rw [List.set_append_left _ _ (by rw [pwC_len]; omega), List.set_append_left _ _ (by rw [List.length_set, pwC_len]; omega), pwC_set p q u0 u1 hq]
 | p :: r, j + 1, q, u0, u1, h, hq => by
   have ih := pwF_set r j q u0 u1 (by simpa using h) hq
   simp only [pwF, List.flatMap_cons, List.set_cons_succ] at ih ⊢
   rw [List.set_append_right _ _ (by rw [pwC_len]; omega), pwC_len, List.set_append_right _ _ (by rw [pwC_len]; omega), pwC_len]
   rw [show (j + 1) * 2 - 2 = j * 2 by omega, show (j + 1) * 2 + 1 - 2 = j * 2 + 1 by omega, ih]
def pad8 (ws:List (Option (Nat×Int))):List (Option (Nat×Int)):=ws++List.replicate (8-ws.length) none
theorem pad8_len {ws:List (Option (Nat×Int))}(h:ws.length<=8):(pad8 ws).length=8:=by
 unfold pad8
 rw[List.length_append,List.length_replicate]
 omega
theorem pad8_set {ws:List (Option (Nat×Int))}{j:Nat}(h:j<ws.length)(q:Option (Nat×Int)):(pad8 ws).set j q=pad8 (ws.set j q):=by
 unfold pad8
 rw[List.set_append_left _ _ h,List.length_set]
theorem pad8_get {ws:List (Option (Nat×Int))}{j:Nat}{p:Option (Nat×Int)}(h:ws[j]?=some p):(pad8 ws)[j]?=some p:=by
 unfold pad8
 rw[List.getElem?_append_left (List.getElem?_eq_some_iff.1 h).1]
 exact h
theorem pad8_none {n:Nat}(h:n<=8):pad8 (List.replicate n none)=List.replicate 8 none:=by
 unfold pad8
 rw[List.length_replicate,List.replicate_append_replicate,show n+(8-n)=8 by omega]
def peH (s:Ec)(ma:Option Addr)(mc:Nat):List Value:=
 [.int .i64 s.c.n, .int .i64 s.c.f, .int .i64 s.c.s, .int .i64 s.c.d, .int .i64 s.c.k, .int .i64 s.c.e, .int .i64 s.c.v, .int .i64 s.c.r, .int .i64 s.c.l, .int .i64 s.c.p,
   .slice ma s.ms.length mc, .int .i64 s.i, .int .i64 s.inc, .int .u32 (s.ct : Int)]
theorem peH_len (s:Ec)(ma:Option Addr)(mc:Nat):(peH s ma mc).length=14:=rfl
def peL (s:Ec)(ma:Option Addr)(mc:Nat):List Value:=peH s ma mc++pwF (pad8 s.ws)
def PEAt (w:World)(R:Nat)(s:Ec)(ma:Option Addr)(mc:Nat):Prop:=w.heap[R]?=some (.cells (peL s ma mc).toArray 67 (0,0))
theorem PEAt.cell {w:World}{R:Nat}{s:Ec}{ma:Option Addr}{mc:Nat}(h:PEAt w R s ma mc)(i:Nat){u:Value}(hu:(peH s ma mc)[i]?=some u):w.cell? ⟨R,i,none⟩=some u:=by
 rw[cell_of_row w _ i _ _ _ h,List.getElem?_toArray]
 unfold peL
 rw[List.getElem?_append_left (List.getElem?_eq_some_iff.1 hu).1]
 exact hu
theorem PEAt.fz {w:World}{R:Nat}{s:Ec}{ma:Option Addr}{mc:Nat}(h:PEAt w R s ma mc)(i:Nat):w.frozen? ⟨R,i,none⟩=false:=frozen_of_row _ _ i _ _ h
theorem PEAt.lt {w:World}{R:Nat}{s:Ec}{ma:Option Addr}{mc:Nat}(h:PEAt w R s ma mc):R<w.heap.size:=(Array.getElem?_eq_some_iff.1 h).1
theorem PEAt.below {w w':World}{R:Nat}{s:Ec}{ma:Option Addr}{mc:Nat}(h:PEAt w R s ma mc)(hb:Below w.heap.size w w'):PEAt w' R s ma mc:=(hb.block R h.lt).trans h
theorem PEAt.put {w:World}{R:Nat}{s t:Ec}{ma:Option Addr}{mc:Nat}(h:PEAt w R s ma mc)(i:Nat)(u:Value)(hl:(peL s ma mc).set i u=peL t ma mc):PEAt (w.setCell ⟨R,i,none⟩ u) R t ma mc:=by
 show (w.setCell ⟨R,i,none⟩ u).heap[R]?=_
 rw[heap_setCell_same _ _ _ _ _ _ h]
 congr 2
 rw[List.setIfInBounds_toArray,hl]
theorem PEAt.at? {w:World}{R:Nat}{s:Ec}{ma:Option Addr}{mc:Nat}(h:PEAt w R s ma mc){j:Nat}{p:Option (Nat×Int)}(hp:s.ws[j]?=some p)(t:Nat){u:Value}(hu:(pwC p)[t]?=some u):w.cell? ⟨R,14+j*2+t,none⟩=some u:=by
 rw[cell_of_row w _ _ _ _ _ h,List.getElem?_toArray]
 unfold peL
 rw[List.getElem?_append_right (by rw[peH_len];omega),peH_len,show 14+j*2+t-14=j*2+t by omega]
 exact pwF_get _ j p t u (pad8_get hp) hu
theorem Tryz.underQu:Tryz.prog.underlying 64=some (.struct (match Tryz.prog.underlying 64 with|some (.struct f)=>f|_=>default)):=by kernel_rfl
theorem PEAt.loads {w:World}{R:Nat}{s:Ec}{ma:Option Addr}{mc:Nat}(h:PEAt w R s ma mc){j:Nat}{p:Option (Nat×Int)}(hp:s.ws[j]?=some p):(Instr.loadAt 64 (.pointer (some ⟨R,14+j*2,none⟩))).run Tryz.prog w=.ok (.agg (pwC p).toArray) w:=by
 refine run_loadAt_mid w R (14+j*2) 64 (pwC p) _ ?_ Tryz.underQu rfl ?_
 ·intro i u hu
  exact h.at? hp i hu
 ·rcases p with _|⟨n,t⟩<;>kernel_rfl
theorem PEAt.config {w:World}{R:Nat}{s:Ec}{ma:Option Addr}{mc:Nat}(h:PEAt w R s ma mc):(Instr.loadAt 24 (.pointer (some ⟨R,0,none⟩))).run Tryz.prog w=.ok (.agg (cfC s.c)) w:=by
 refine run_loadAt_mid w R 0 24 [.int .i64 s.c.n,.int .i64 s.c.f,.int .i64 s.c.s,.int .i64 s.c.d,.int .i64 s.c.k,.int .i64 s.c.e,.int .i64 s.c.v,.int .i64 s.c.r,.int .i64 s.c.l,.int .i64 s.c.p] _ ?_ Tryz.underlying24 rfl (by kernel_rfl)
 intro i u hu
 refine h.cell (0+i) ?_
 have hi:i<10:=(List.getElem?_eq_some_iff.1 hu).1
 rw[Nat.zero_add,<-hu]
 unfold peH
 rw[show ([.int .i64 s.c.n,.int .i64 s.c.f,.int .i64 s.c.s,.int .i64 s.c.d,.int .i64 s.c.k,.int .i64 s.c.e,.int .i64 s.c.v,.int .i64 s.c.r,.int .i64 s.c.l,.int .i64 s.c.p,.slice ma s.ms.length mc,.int .i64 s.i,.int .i64 s.inc,.int .u32 (s.ct:Int)]:List Value)=[.int .i64 s.c.n,.int .i64 s.c.f,.int .i64 s.c.s,.int .i64 s.c.d,.int .i64 s.c.k,.int .i64 s.c.e,.int .i64 s.c.v,.int .i64 s.c.r,.int .i64 s.c.l,.int .i64 s.c.p]++[.slice ma s.ms.length mc,.int .i64 s.i,.int .i64 s.inc,.int .u32 (s.ct:Int)] from rfl,List.getElem?_append_left hi]
theorem PEAt.stores {w:World}{R:Nat}{s:Ec}{ma:Option Addr}{mc:Nat}(h:PEAt w R s ma mc)(h8:s.ws.length<=8)(j:Nat)(hj:j<s.ws.length)(q:Option (Nat×Int))(u0 u1:Value)(hq:pwC q=[u0,u1])(hu:∀ u∈[u0,u1],u.oneCell'=true):
  ∃ w',(Instr.storeAt 64 (.pointer (some ⟨R,14+j*2,none⟩)) (.agg #[u0,u1])).run Tryz.prog w=.ok () w'/\PEAt w' R { s with ws:=s.ws.set j q } ma mc/\Apart (λk=>k=R) w w':=by
 obtain⟨p,hp⟩:∃ p,s.ws[j]?=some p:=⟨s.ws[j],by simp[hj]⟩
 have ht:w.there R (14+j*2) (#[u0,u1]:Array Value).size:=λi hi=>by
  refine⟨?_,frozen_of_row _ _ _ _ _ h⟩
  have hi:i<2:=hi
  have hc:∃ u,(pwC p)[i]?=some u:=⟨(pwC p)[i]'(by rw[pwC_len];exact hi),by simp⟩
  obtain⟨u,hu⟩:=hc
  rw[h.at? hp i hu];rfl
 refine⟨_,run_storeAt_mid w R (14+j*2) 64 #[u0,u1] ht (by kernel_rfl) (all_oneCell_toArray hu),?_,?_⟩
 ·show PEAt ((w.setCell ⟨R,14+j*2,none⟩ u0).setCell ⟨R,14+j*2+1,none⟩ u1) R { s with ws:=s.ws.set j q } ma mc
  have a1:=heap_setCell_same w R (14+j*2) _ 67 u0 h
  have a2:=heap_setCell_same _ R (14+j*2+1) _ 67 u1 a1
  unfold PEAt
  rw[a2]
  have e:((peL s ma mc).set (14+j*2) u0).set (14+j*2+1) u1=peL { s with ws:=s.ws.set j q } ma mc:=by
   show ((peH s ma mc++pwF (pad8 s.ws)).set (14+j*2) u0).set (14+j*2+1) u1=peH s ma mc++pwF (pad8 (s.ws.set j q))
   rw[List.set_append_right _ _ (by rw[peH_len];omega),List.set_append_right _ _ (by rw[peH_len];omega),peH_len,show 14+j*2-14=j*2 by omega,show 14+j*2+1-14=j*2+1 by omega,pwF_set _ j q u0 u1 (by rw[pad8_len h8];omega) hq,pad8_set hj]
  rw[<-e]
  simp
 ·show Apart (λk=>k=R) w ((w.setCell ⟨R,14+j*2,none⟩ u0).setCell ⟨R,14+j*2+1,none⟩ u1)
  exact((Apart.refl (λk=>k=R) w).setCell (b:=R) (.inl rfl) _ _).setCell (b:=R) (.inl rfl) _ _
theorem peL_no (s:Ec)(ma:Option Addr)(mc:Nat)(j:Nat)(y:Int):(peL s ma mc).toArray[j]?≠some (.int .u8 y):=by
 rw[List.getElem?_toArray]
 intro h
 have:=List.mem_of_getElem? h
 unfold peL at this
 rcases List.mem_append.1 this with this|this
 ·simp[peH] at this
 ·obtain⟨p,_,hp⟩:=List.mem_flatMap.1 this
  rcases p with _|⟨n,t⟩<;>simp[pwC] at hp
structure PEAll (w:World)(R:Nat)(s:Ec)(ma:Option Addr)(mc:Nat):Prop where
 at':PEAt w R s ma mc
 ms:Sees w ma mc s.ms
theorem PEAll.below {w w':World}{R:Nat}{s:Ec}{ma:Option Addr}{mc:Nat}(h:PEAll w R s ma mc)(hb:Below w.heap.size w w'):PEAll w' R s ma mc:=⟨h.at'.below hb,h.ms.below hb⟩
theorem PEAt.aside {w w':World}{R:Nat}{s:Ec}{ma:Option Addr}{mc:Nat}(h:PEAt w R s ma mc)(ha:Apart (λk=>k=R) w w'){x:Option Addr}{c:Nat}{l:List UInt8}(hs:Sees w x c l):Sees w' x c l:=by
 refine ha.sees hs ?_
 intro k off e hne
 rintro rfl
 obtain⟨k',off',ha',hc⟩:=hs.at' hne
 rw[e] at ha'
 simp only[Option.some.injEq,Addr.mk.injEq,and_true] at ha'
 obtain⟨rfl,rfl⟩:=ha'
 obtain⟨y,l',hl⟩:=List.exists_cons_of_ne_nil hne
 have h0:=hc 0 y (by rw[hl];rfl)
 rw[cell_of_row _ _ (off+0) _ _ _ h] at h0
 exact peL_no _ _ _ _ _ h0
theorem coreQu (p:Option (Nat×Int))(hp:∀ n t,p=some (n,t)->0<n)(w:World):(Op.equalIn 10000 64 (.agg (pwC p).toArray) (.agg #[.int .u64 0,.int .i64 0])).run Tryz.prog w=.ok p.isNone w:=by
 have u2:=Tryz.underlying2
 have a2:=Tryz.isAgg2
 have z2:=Tryz.sizeOf2
 have u3:=Tryz.underlying39
 have a3:=Tryz.isAgg39
 have z3:=Tryz.sizeOf39
 have hS:Tryz.prog.underlying 64=some (.struct (Tryz.prog.fieldsOf 64)):=by kernel_rfl
 have hq:Tryz.prog.stoodInHeld 64=false:=by kernel_rfl
 rw[show (10000:Nat)=9999+1 from rfl,run_equalIn_agg w 9999 64 _ _ hS hq]
 simp only[Program.fieldsOf,Tryz.underlying64]
 rcases p with _|⟨n,t⟩
 ·unfold pwC
  go_simp
 ·have h0:=hp n t rfl
  have hb:((n:Int)==0)=false:=by simp;omega
  unfold pwC
  go_simp
theorem eqQu (p:Option (Nat×Int))(hp:∀ n t,p=some (n,t)->0<n)(w:World):(binOp .eql 64 (.agg (pwC p).toArray) (.agg #[.int .u64 0,.int .i64 0])).run Tryz.prog w=.ok (.bool p.isNone) w:=by
 rw[run_eql_struct,coreQu p hp w]
 rfl
theorem tabs_apart {w w':World}{F:Nat->Prop}(h:Tabs w)(ha:Apart F w w')(hF:∀ k,F k->3<=k):Tabs w':=by
 exact⟨λt ht=>ha.cell (h.1 t ht) λhk=>absurd (hF 1 hk) (by omega),λt ht=>ha.cell (h.2 t ht) λhk=>absurd (hF 2 hk) (by omega)⟩
end Go.Proofs.YthogohkieiogiaaGreatDoor
namespace Go.Proofs.YthogohkieiogiaaGreatDoor
set_option maxRecDepth 20000
open Go.ChangeShapes Go.WideShapes Go.ChangeAt Go.RowKit
theorem pemade_ok (w:World)(R:Nat)(s:Ec)(ma:Option Addr)(mc:Nat)(h:PEAt w R s ma mc)(hm:s.ms.length=16):Calls Tryz.prog 25 #[.pointer (some ⟨R,0,none⟩)] w λe w'=>e=.returned (.bool true)/\w'=w:=by
 have c10:=h.cell 10 rfl
 rw[hm] at c10
 clear h hm
 go_enter Tryz.func25,Tryz.ntmps25
 go_wp2
 go_ret
 exact⟨by simp,rfl⟩
theorem petime_ok (w:World)(t:Int):Calls Tryz.prog 27 #[.int .i64 t] w λe w'=>e=.returned (.bool (timeB t))/\w'=w:=by
 by_cases h0:0<=t
 ·by_cases h1:t<=1099511627776
  ·have hv:timeB t=true:=timeB_iff.2 ⟨h0,h1⟩
   rw[hv]
   clear hv
   go_enter Tryz.func27,Tryz.ntmps27
   go_wp2
   go_ret
   exact⟨by simp,rfl⟩
  ·have hv:timeB t=false:=by rw[Bool.eq_false_iff];intro hh;exact h1 (timeB_iff.1 hh).2
   rw[hv]
   clear hv
   go_enter Tryz.func27,Tryz.ntmps27
   go_wp2
   go_ret
   exact⟨by simp,rfl⟩
 ·have hv:timeB t=false:=by rw[Bool.eq_false_iff];intro hh;exact h0 (timeB_iff.1 hh).1
  rw[hv]
  clear hv
  go_enter Tryz.func27,Tryz.ntmps27
  go_wp2
  go_ret
  exact⟨by simp,rfl⟩
def Ec.othB (s:Ec)(jj:Int):Bool:=decide (0<=jj/\jj<s.c.n/\jj≠s.i)
theorem Ec.othB_iff {s:Ec}{jj:Int}:s.othB jj=true↔0<=jj/\jj<s.c.n/\jj≠s.i:=by simp[Ec.othB]
theorem Ec.othB_no {s:Ec}{jj:Int}(h:¬ (0<=jj/\jj<s.c.n/\jj≠s.i)):s.othB jj=false:=decide_eq_false h
theorem peother_ok (w:World)(R:Nat)(s:Ec)(ma:Option Addr)(mc:Nat)(h:PEAt w R s ma mc)(jj:Int):Calls Tryz.prog 26 #[.pointer (some ⟨R,0,none⟩),.int .i64 jj] w λe w'=>e=.returned (.bool (s.othB jj))/\w'=w:=by
 have c0:=h.cell 0 rfl
 have c11:=h.cell 11 rfl
 clear h
 by_cases h0:0<=jj
 ·by_cases h1:jj<s.c.n
  ·by_cases h2:jj=s.i
   ·rw[Ec.othB_no (λhh=>hh.2.2 h2)]
    have hq:(jj != s.i)=false:=by simp[h2]
    clear h2
    go_enter Tryz.func26,Tryz.ntmps26
    go_wp2
    go_ret
    exact⟨by simp,rfl⟩
   ·rw[Ec.othB_iff.2 ⟨h0,h1,h2⟩]
    have hq:(jj != s.i)=true:=by simp[h2]
    clear h2
    go_enter Tryz.func26,Tryz.ntmps26
    go_wp2
    go_ret
    exact⟨by simp,rfl⟩
  ·rw[Ec.othB_no (λhh=>h1 hh.2.1)]
   go_enter Tryz.func26,Tryz.ntmps26
   go_wp2
   go_ret
   exact⟨by simp,rfl⟩
 ·rw[Ec.othB_no (λhh=>h0 hh.1)]
  go_enter Tryz.func26,Tryz.ntmps26
  go_wp2
  go_ret
  exact⟨by simp,rfl⟩
end Go.Proofs.YthogohkieiogiaaGreatDoor
namespace Go.Proofs.YthogohkieiogiaaGreatDoor
set_option maxRecDepth 20000
set_option maxHeartbeats 1600000
open Go.ChangeShapes Go.WideShapes Go.ChangeAt Go.RowKit
def U8Row (w:World)(a:Option Addr):Prop:=∀ b off,a=some ⟨b,off,none⟩->∃ cur fr,w.heap[b]?=some (.cells cur 5 fr)
theorem U8Row.below {w w':World}{a:Option Addr}(h:U8Row w a)(hb:Below w.heap.size w w'):U8Row w' a:=λb off e=>by
 obtain⟨cur,fr,hc⟩:=h b off e
 exact⟨cur,fr,(hb.block b (Array.getElem?_eq_some_iff.1 hc).1).trans hc⟩
theorem bclone_row (w:World)(x:Option Addr)(cx:Nat)(cs:List UInt8)(hx:Sees w x cx cs)(hb:cs.length<=140737488355328):
  Calls Tryz.prog 21 #[.slice x cs.length cx] w λe w'=>∃ d cd,e=.returned (.slice d cs.length cd)/\Sees w' d cd cs/\Below w.heap.size w w'/\U8Row w' d:=by
 cases x with
 | none =>
   have h0 := hx.bare rfl
   have h1 := hx.fits
   have : cs = [] := List.eq_nil_of_length_eq_zero (by omega)
   subst this
   subst h0
   have hq := Lib.run_eql_slice_nil (P := Tryz.prog) w 22 5 none 0 0 0 0 Tryz.underlying22
   clear hx
   simp only [List.length_nil]
   go_enter Tryz.func21, Tryz.ntmps21
   go_wp2
   go_ret
   exact ⟨none, 0, rfl, Sees.nil' _, Below.refl _ _, fun b off h => by cases h⟩
 | some ad =>
   have hb0 : Below w.heap.size w (w.alloc (.cells #[] 5)) := (Below.refl _ _).alloc (Nat.le_refl _) _
   obtain ⟨v', w', hrun, ho, hbl⟩ := append_own_any (w.alloc (.cells #[] 5)) w.heap.size _ [] (own_empty w) (some ad) cx cs (hx.below hb0) (by simpa using hb) (by simp)
   have HR : Hid ((Builtin.append_ #[22, 22] 22 #[.slice (some ⟨w.heap.size, 0, none⟩) 0 0, .slice (some ad) cs.length cx]).run Tryz.prog (w.alloc (.cells #[] 5)) = .ok v' w') := hrun
   obtain ⟨d, cd, rfl, hs⟩ := Sees.of_own ho
   have hrw : U8Row w' d := by
     intro b off hd
     rcases ho.2 with ⟨h, _⟩ | ⟨g, cap, cur, hv, _, hg, _⟩
     · simp only [Value.slice.injEq] at h
       rw [hd] at h
       cases h.1
     · simp only [Value.slice.injEq] at hv
       rw [hd] at hv
       have := hv.1
       simp only [Option.some.injEq, Addr.mk.injEq] at this
       rw [this.1]
       exact ⟨_, _, hg⟩
   have HE : Hid (Sees w' d cd cs ∧ Below w.heap.size w w' ∧ U8Row w' d) := ⟨hs, hbl _ _ hb0 (Nat.le_refl _), hrw⟩
   have hq := Lib.run_eql_slice_nil (P := Tryz.prog) w 22 5 (some ad) cs.length cx 0 0 Tryz.underlying22
   clear hrun hx ho hbl hs
   go_enter Tryz.func21, Tryz.ntmps21
   go_wp2_with (at_builtin; refine wpList_append_run rfl _ _ 22 rfl _ _ _ rfl rfl HR.out ?_)
   go_ret
   exact ⟨d, cd, by simp, HE.out⟩
theorem bclone_any (w:World)(x:Option Addr)(cx:Nat)(cs:List UInt8)(hx:Sees w x cx cs)(hb:cs.length<=140737488355328):
  Calls Tryz.prog 21 #[.slice x cs.length cx] w λe w'=>∃ d cd,e=.returned (.slice d cs.length cd)/\Sees w' d cd cs/\Below w.heap.size w w':=(bclone_row w x cx cs hx hb).mono λ_ _ ⟨d,cd,h1,h2,h3,_⟩=>⟨d,cd,h1,h2,h3⟩
theorem pexec_build {P:Program}{o:Oper}{a:Act}{w:World}(t:TypeId)(parts:Array (Nat×Operand))(ho:o.op=.build t parts)(vs:List (Nat×Value))(r:Value)(hp:parts.toList.map (λp=>(p.1,a.eval p.2))=vs)(hrun:(Instr.build t vs.toArray).run P w=.ok r w):(execOp a.eval o).run P w=.ok (.value r) w:=by
 have hq:parts.map (λp=>(p.1,a.eval p.2))=vs.toArray:=by rw[<-hp,<-Array.toList_map,Array.toArray_toList]
 unfold execOp
 simp only[ho,hq,Sem.run_bind,hrun,Result.andThen_ok,Sem.run_pure]
theorem pebuild (w:World)(c:Cf)(a:Option Addr)(ca:Nat)(ms:List UInt8)(i inc:Int)(hn:c.n.toNat<=8):(Instr.build 67 #[(0,.agg (cfC c)),(1,.slice a ms.length ca),(2,.int .i64 i),(3,.int .i64 inc)]).run Tryz.prog w=.ok (.agg (peL (ecNew c ms i inc) a ca).toArray) w:=by
 have e:peL (ecNew c ms i inc) a ca=peH (ecNew c ms i inc) a ca++pwF (List.replicate 8 none):=by
  show peH (ecNew c ms i inc) a ca++pwF (pad8 (List.replicate c.n.toNat none))=_
  rw[pad8_none hn]
 rw[e]
 exact run_build w 67 _ _ (by kernel_rfl)
theorem penew_no (w:World)(c:Cf)(a:Option Addr)(ca:Nat)(ms:List UInt8)(i inc:Int)(h:ecB c ms i inc=false):Calls Tryz.prog 5 #[.agg (cfC c),.slice a ms.length ca,.int .i64 i,.int .i64 inc] w λe w'=>e=.returned (.tuple #[.pointer none,.int .i64 1])/\Below w.heap.size w w':=by
 have HL:Hid ((Instr.loadAt 24 (.pointer (some ⟨w.heap.size,0,none⟩))).run Tryz.prog (w.alloc (.cells (cfC c) 24))=.ok (.agg (cfC c)) (w.alloc (.cells (cfC c) 24))):=(CfAt.new w c).loads
 have K1:=scheck_ok (w.alloc (.cells (cfC c) 24)) c
 have H0:Hid (Below w.heap.size w (w.alloc (.cells (cfC c) 24))):=(Below.refl _ _).alloc (Nat.le_refl _) _
 have c0:(w.alloc (.cells (cfC c) 24)).cell? ⟨w.heap.size,0,none⟩=some (.int .i64 c.n):=(CfAt.new w c).c0
 have C0:Hid (CfAt (w.alloc (.cells (cfC c) 24)) w.heap.size c):=CfAt.new w c
 have h':¬ (okB c=true/\0<=i/\i<c.n/\0<=inc/\inc<=65535/\ms.length=16):=λhh=>by rw[ecB_iff.2 hh] at h;cases h
 obtain⟨n,hn⟩:∃ n,n=ms.length:=⟨_,rfl⟩
 rw[<-hn] at h' ⊢
 clear h hn
 go_enter Tryz.func5,Tryz.ntmps5
 go_upto_region 1 with fail
 generalize hW:w.alloc (Obj.cells (cfC c) 24)=W at *
 go_wp2_with (first|(refine wpList_gload_run rfl 24 _ rfl _ _ rfl HL.out ?_)|fail)
 refine K1.mono ?_
 rintro e w1 ⟨rfl,hb1⟩
 have H1:Hid (Below w.heap.size w w1):=H0.out.trans (hb1.mono H0.out.size)
 have c1:=(C0.out.below hb1).c0
 clear K1 hb1 c0 C0 HL H0
 by_cases h1:okB c=true
 ·rw[if_pos h1]
  by_cases h2:i<0
  ·clear h'
   go_wp2
   go_ret2
   exact⟨rfl,H1.out⟩
  ·by_cases h3:c.n<=i
   ·clear h'
    go_wp2
    go_ret2
    exact⟨rfl,H1.out⟩
   ·by_cases h4:inc<0
    ·clear h'
     go_wp2
     go_ret2
     exact⟨rfl,H1.out⟩
    ·by_cases h5:65535<inc
     ·clear h'
      go_wp2
      go_ret2
      exact⟨rfl,H1.out⟩
     ·have h6:((n:Int) != 16)=true:=by
       have:¬ n=16:=λe=>h' ⟨h1,by omega,by omega,by omega,by omega,e⟩
       simp;omega
      clear h'
      go_wp2
      go_ret2
      exact⟨rfl,H1.out⟩
 ·rw[if_neg h1]
  clear h' h1
  go_wp2
  go_ret2
  exact⟨rfl,H1.out⟩
theorem penew_row (w:World)(c:Cf)(a:Option Addr)(ca:Nat)(ms:List UInt8)(i inc:Int)(ha:Sees w a ca ms)(h:ecB c ms i inc=true):Calls Tryz.prog 5 #[.agg (cfC c),.slice a ms.length ca,.int .i64 i,.int .i64 inc] w λe w'=>∃ R d cd,e=.returned (.tuple #[.pointer (some ⟨R,0,none⟩),.int .i64 0])/\w.heap.size<=R/\PEAll w' R (ecNew c ms i inc) d cd/\Below w.heap.size w w'/\U8Row w' d:=by
 obtain⟨r1,r2,r3,r4,r5,r6⟩:=ecB_iff.1 h
 obtain⟨N,hN⟩:∃ N:Int,N=c.n:=⟨_,rfl⟩
 have hN8:c.n.toNat<=8:=by have:=(right_of r1).n1;omega
 have HL:Hid ((Instr.loadAt 24 (.pointer (some ⟨w.heap.size,0,none⟩))).run Tryz.prog (w.alloc (.cells (cfC c) 24))=.ok (.agg (cfC c)) (w.alloc (.cells (cfC c) 24))):=(CfAt.new w c).loads
 have K1:=scheck_ok (w.alloc (.cells (cfC c) 24)) c
 rw[if_pos r1] at K1
 have H0:Hid (Below w.heap.size w (w.alloc (.cells (cfC c) 24))):=(Below.refl _ _).alloc (Nat.le_refl _) _
 have C0:Hid (CfAt (w.alloc (.cells (cfC c) 24)) w.heap.size c):=CfAt.new w c
 have HB:Hid (∀ V d cd,(Instr.build 67 #[(0,.agg (cfC c)),(1,.slice d 16 cd),(2,.int .i64 i),(3,.int .i64 inc)]).run Tryz.prog V=.ok (.agg (peL (ecNew c ms i inc) d cd).toArray) V):=λV d cd=>by rw[<-r6];exact pebuild V c d cd ms i inc hN8
 have HS:Hid (Sees w a ca ms/\ms.length=16/\N=c.n):=⟨ha,r6,hN⟩
 have g0:¬ (i<0):=by omega
 have g1:¬ (N<=i):=by omega
 have g2:¬ (inc<0):=by omega
 have g3:¬ (65535<inc):=by omega
 rw[r6]
 clear ha h r1 r2 r3 r4 r5 r6 hN hN8
 go_enter Tryz.func5,Tryz.ntmps5
 go_upto_region 1 with fail
 generalize hW:w.alloc (Obj.cells (cfC c) 24)=W at *
 go_wp2_with (first|(refine wpList_gload_run rfl 24 _ rfl _ _ rfl HL.out ?_)|fail)
 refine K1.mono ?_
 rintro e w1 ⟨rfl,hb1⟩
 have H1:Hid (Below w.heap.size w w1):=H0.out.trans (hb1.mono H0.out.size)
 have C1:Hid (CfAt w1 w.heap.size c):=C0.out.below hb1
 have c1:=C1.out.c0
 rw[<-HS.out.2.2] at c1
 clear K1 hb1 C0 HL H0 hW
 have HQ:Hid (∀ V,Below w1.heap.size w1 V->(Instr.loadAt 24 (.pointer (some ⟨w.heap.size,0,none⟩))).run Tryz.prog V=.ok (.agg (cfC c)) V):=λV hV=>(C1.out.below hV).loads
 have hS0:=HQ.out w1.drew (Below.refl _ _).drew
 have KB:Calls Tryz.prog 21 #[.slice a 16 ca] w1.drew λe w'=>∃ d cd,e=.returned (.slice d 16 cd)/\Sees w' d cd ms/\Below w1.drew.heap.size w1.drew w'/\U8Row w' d:=by
  have:=bclone_row w1.drew a ca ms ((HS.out.1.below H1.out).below (Below.refl _ _).drew) (by rw[HS.out.2.1];omega)
  rw[HS.out.2.1] at this
  exact this
 go_upto_region 3 with fail
 refine wp_region_noPanic ?_
 refine wp_region_held (S:=λV=>(Instr.loadAt 24 (.pointer (some ⟨w.heap.size,0,none⟩))).run Tryz.prog V=.ok (.agg (cfC c)) V) (by kernel_rfl) ?_
 have hS:=hS0
 refine tk 0 (v:=Value.agg (cfC c)) (hv:=λW hW=>exec_load 24 (.tmp 4) rfl _ _ rfl hW) hS ?_
 refine tk 1 hS ?_
 refine tk 3 hS ?_
 refine tk 4 hS ?_
 refine any_one 2 rfl (by kernel_rfl) (by rfl) (λK hK=>?_)
 clear hS
 go_simp
 refine KB.mono ?_
 rintro ev wm ⟨d,cd,rfl,hsm,hbm,hrw⟩
 have hbm2:Below w1.heap.size w1 wm:=(Below.refl w1.heap.size w1).drew.trans hbm
 have hQ2:=HQ.out wm hbm2
 clear hbm KB
 refine hK.out _ _ (hQ2) (λhS=>?_)
 clear hK
 (try simp only[Act.put,sT])
 refine tk 5 (v:=Value.agg (peL (ecNew c ms i inc) d cd).toArray) (hv:=λW _=>pexec_build 67 _ rfl [(0,.agg (cfC c)),(1,.slice d 16 cd),(2,.int .i64 i),(3,.int .i64 inc)] _ rfl (HB.out W d cd)) hS ?_
 refine any_one 6 rfl (by kernel_rfl) (by rfl) (λK hK=>?_)
 clear hS
 go_simp
 obtain⟨W3,hW3⟩:∃ W3,W3=wm.alloc (.cells (peL (ecNew c ms i inc) d cd).toArray 67):=⟨_,rfl⟩
 have hb3:Below wm.heap.size wm W3:=by rw[hW3];exact(Below.refl _ _).alloc (Nat.le_refl _) _
 have hb13:Below w1.heap.size w1 W3:=hbm2.trans (hb3.mono hbm2.size)
 have hfin:w.heap.size<=wm.heap.size/\PEAll W3 wm.heap.size (ecNew c ms i inc) d cd/\Below w.heap.size w W3/\U8Row W3 d:=by
  have hz:=H1.out.size
  have hz2:=hbm2.size
  refine⟨by omega,⟨?_,hsm.below hb3⟩,H1.out.trans (hb13.mono hz),hrw.below hb3⟩
  rw[hW3];exact heap_alloc_new _ _
 rw[<-hW3]
 have hQ3:=HQ.out W3 hb13
 clear hW3 hb3 hb13 hsm hbm2 hrw
 refine hK.out _ _ (hQ3) (λhS=>?_)
 clear hK
 (try simp only[Act.put,sT])
 refine tk 7 hS ?_
 refine tk 8 hS ?_
 refine wpAnyH_done (by kernel_rfl) ?_ _
 refine NoPanic.normal ?_
 clear hS hS0 HQ hQ2 hQ3
 have HE:Hid (w.heap.size<=wm.heap.size/\PEAll W3 wm.heap.size (ecNew c ms i inc) d cd/\Below w.heap.size w W3/\U8Row W3 d):=hfin
 clear hfin
 go_wp2
 go_ret2
 exact⟨_,_,_,rfl,HE.out⟩
end Go.Proofs.YthogohkieiogiaaGreatDoor
