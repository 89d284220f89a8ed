/-
  The program's node that asks and answers, in memory.
-/
import Derived.Test.YtahnbljbhfpldaaGreatDoorEchoD
import Derived.Deep.MidRow
import Derived.OwnWalk
namespace Go.Proofs.YtahnbljbhfpldaaGreatDoor
set_option maxRecDepth 20000
open Go.ChangeShapes Go.WideShapes Go.ChangeAt Go.RowKit
def pwC:Option (Nat×Int)->List Value
 | none=>[.int .u64 0,.int .i64 0]
 | some (n,t)=>[.int .u64 (n:Int),.int .i64 t]
def pwF (ws:List (Option (Nat×Int))):List Value:=ws.flatMap pwC
theorem pwC_len (p:Option (Nat×Int)):(pwC p).length=2:=by rcases p with _|⟨n,t⟩<;>rfl
theorem pwF_len:∀ ws:List (Option (Nat×Int)),(pwF ws).length=ws.length*2
 | []=>rfl
 | p :: r => by
   have ih := pwF_len r
   simp only [pwF, List.flatMap_cons, List.length_append, pwC_len, List.length_cons] at ih ⊢
   omega
theorem pwF_get:∀ (ws:List (Option (Nat×Int))) (j:Nat) (p:Option (Nat×Int)) (t:Nat) (u:Value),ws[j]?=some p->(pwC p)[t]?=some u->(pwF ws)[j*2+t]?=some u
 | [],j,p,t,u,h,_=>by simp at h
 | q :: r, 0, p, t, u, h, hu => by
   simp at h
   subst h
   have ht := (List.getElem?_eq_some_iff.1 hu).1
   simp only [pwF, List.flatMap_cons]
   rw [List.getElem?_append_left (by omega)]
   rw [show 0 * 2 + t = t by omega]; exact hu
 | q :: r, j + 1, p, t, u, h, hu => by
   have ih := pwF_get r j p t u (by simpa using h) hu
   simp only [pwF, List.flatMap_cons] at ih ⊢
   rw [List.getElem?_append_right (by rw [pwC_len]; omega), pwC_len, show (j + 1) * 2 + t - 2 = j * 2 + t by omega]
   exact ih
theorem pwC_set (p q:Option (Nat×Int)):∀ u0 u1,pwC q=[u0,u1]->((pwC p).set 0 u0).set 1 u1=pwC q:=by
 intro u0 u1 h
 rw[h]
 rcases p with _|⟨n,t⟩<;>rfl
theorem pwF_set:∀ (ws:List (Option (Nat×Int))) (j:Nat) (q:Option (Nat×Int)) (u0 u1:Value),j<ws.length->pwC q=[u0,u1]->((pwF ws).set (j*2) u0).set (j*2+1) u1=pwF (ws.set j q)
 | [],j,q,_,_,h,_=>by simp at h
 | p :: r, 0, q, u0, u1, _, hq => by
   simp only [pwF, List.flatMap_cons, List.set_cons_zero, Nat.zero_mul, Nat.zero_add]
   rw [List.set_append_left _ _ (by rw [pwC_len]; omega), List.set_append_left _ _ (by rw [List.length_set, pwC_len]; omega), pwC_set p q u0 u1 hq]
 | p :: r, j + 1, q, u0, u1, h, hq => by
   have ih := pwF_set r j q u0 u1 (by simpa using h) hq
   simp only [pwF, List.flatMap_cons, List.set_cons_succ] at ih ⊢
   rw [List.set_append_right _ _ (by rw [pwC_len]; omega), pwC_len, List.set_append_right _ _ (by rw [pwC_len]; omega), pwC_len]
   rw [show (j + 1) * 2 - 2 = j * 2 by omega, show (j + 1) * 2 + 1 - 2 = j * 2 + 1 by omega, ih]
def pad8 (ws:List (Option (Nat×Int))):List (Option (Nat×Int)):=ws++List.replicate (8-ws.length) none
theorem pad8_len {ws:List (Option (Nat×Int))}(h:ws.length<=8):(pad8 ws).length=8:=by
 unfold pad8
 rw[List.length_append,List.length_replicate]
 omega
theorem pad8_set {ws:List (Option (Nat×Int))}{j:Nat}(h:j<ws.length)(q:Option (Nat×Int)):(pad8 ws).set j q=pad8 (ws.set j q):=by
 unfold pad8
 rw[List.set_append_left _ _ h,List.length_set]
theorem pad8_get {ws:List (Option (Nat×Int))}{j:Nat}{p:Option (Nat×Int)}(h:ws[j]?=some p):(pad8 ws)[j]?=some p:=by
 unfold pad8
 rw[List.getElem?_append_left (List.getElem?_eq_some_iff.1 h).1]
 exact h
theorem pad8_none {n:Nat}(h:n<=8):pad8 (List.replicate n none)=List.replicate 8 none:=by
 unfold pad8
 rw[List.length_replicate,List.replicate_append_replicate,show n+(8-n)=8 by omega]
def peH (s:Ec)(ma:Option Addr)(mc:Nat):List Value:=
 [.int .i64 s.c.n, .int .i64 s.c.f, .int .i64 s.c.s, .int .i64 s.c.d, .int .i64 s.c.k, .int .i64 s.c.e, .int .i64 s.c.v, .int .i64 s.c.r, .int .i64 s.c.l, .int .i64 s.c.p,
   .slice ma s.ms.length mc, .int .i64 s.i, .int .i64 s.inc, .int .u32 (s.ct : Int)]
theorem peH_len (s:Ec)(ma:Option Addr)(mc:Nat):(peH s ma mc).length=14:=rfl
def peL (s:Ec)(ma:Option Addr)(mc:Nat):List Value:=peH s ma mc++pwF (pad8 s.ws)
def PEAt (w:World)(R:Nat)(s:Ec)(ma:Option Addr)(mc:Nat):Prop:=w.heap[R]?=some (.cells (peL s ma mc).toArray 82 (0,0))
theorem PEAt.cell {w:World}{R:Nat}{s:Ec}{ma:Option Addr}{mc:Nat}(h:PEAt w R s ma mc)(i:Nat){u:Value}(hu:(peH s ma mc)[i]?=some u):w.cell? ⟨R,i,none⟩=some u:=by
 rw[cell_of_row w _ i _ _ _ h,List.getElem?_toArray]
 unfold peL
 rw[List.getElem?_append_left (List.getElem?_eq_some_iff.1 hu).1]
 exact hu
theorem PEAt.fz {w:World}{R:Nat}{s:Ec}{ma:Option Addr}{mc:Nat}(h:PEAt w R s ma mc)(i:Nat):w.frozen? ⟨R,i,none⟩=false:=frozen_of_row _ _ i _ _ h
theorem PEAt.lt {w:World}{R:Nat}{s:Ec}{ma:Option Addr}{mc:Nat}(h:PEAt w R s ma mc):R<w.heap.size:=(Array.getElem?_eq_some_iff.1 h).1
theorem PEAt.below {w w':World}{R:Nat}{s:Ec}{ma:Option Addr}{mc:Nat}(h:PEAt w R s ma mc)(hb:Below w.heap.size w w'):PEAt w' R s ma mc:=(hb.block R h.lt).trans h
theorem PEAt.put {w:World}{R:Nat}{s t:Ec}{ma:Option Addr}{mc:Nat}(h:PEAt w R s ma mc)(i:Nat)(u:Value)(hl:(peL s ma mc).set i u=peL t ma mc):PEAt (w.setCell ⟨R,i,none⟩ u) R t ma mc:=by
 show (w.setCell ⟨R,i,none⟩ u).heap[R]?=_
 rw[heap_setCell_same _ _ _ _ _ _ h]
 congr 2
 rw[List.setIfInBounds_toArray,hl]
theorem PEAt.at? {w:World}{R:Nat}{s:Ec}{ma:Option Addr}{mc:Nat}(h:PEAt w R s ma mc){j:Nat}{p:Option (Nat×Int)}(hp:s.ws[j]?=some p)(t:Nat){u:Value}(hu:(pwC p)[t]?=some u):w.cell? ⟨R,14+j*2+t,none⟩=some u:=by
 rw[cell_of_row w _ _ _ _ _ h,List.getElem?_toArray]
 unfold peL
 rw[List.getElem?_append_right (by rw[peH_len];omega),peH_len,show 14+j*2+t-14=j*2+t by omega]
 exact pwF_get _ j p t u (pad8_get hp) hu
theorem Tryz.underQu:Tryz.prog.underlying 79=some (.struct (match Tryz.prog.underlying 79 with|some (.struct f)=>f|_=>default)):=by kernel_rfl
theorem PEAt.loads {w:World}{R:Nat}{s:Ec}{ma:Option Addr}{mc:Nat}(h:PEAt w R s ma mc){j:Nat}{p:Option (Nat×Int)}(hp:s.ws[j]?=some p):(Instr.loadAt 79 (.pointer (some ⟨R,14+j*2,none⟩))).run Tryz.prog w=.ok (.agg (pwC p).toArray) w:=by
 refine run_loadAt_mid w R (14+j*2) 79 (pwC p) _ ?_ Tryz.underQu rfl ?_
 ·intro i u hu
  exact h.at? hp i hu
 ·rcases p with _|⟨n,t⟩<;>kernel_rfl
theorem PEAt.config {w:World}{R:Nat}{s:Ec}{ma:Option Addr}{mc:Nat}(h:PEAt w R s ma mc):(Instr.loadAt 23 (.pointer (some ⟨R,0,none⟩))).run Tryz.prog w=.ok (.agg (cfC s.c)) w:=by
 refine run_loadAt_mid w R 0 23 [.int .i64 s.c.n,.int .i64 s.c.f,.int .i64 s.c.s,.int .i64 s.c.d,.int .i64 s.c.k,.int .i64 s.c.e,.int .i64 s.c.v,.int .i64 s.c.r,.int .i64 s.c.l,.int .i64 s.c.p] _ ?_ Tryz.underlying23 rfl (by kernel_rfl)
 intro i u hu
 refine h.cell (0+i) ?_
 have hi:i<10:=(List.getElem?_eq_some_iff.1 hu).1
 rw[Nat.zero_add,<-hu]
 unfold peH
 rw[show ([.int .i64 s.c.n,.int .i64 s.c.f,.int .i64 s.c.s,.int .i64 s.c.d,.int .i64 s.c.k,.int .i64 s.c.e,.int .i64 s.c.v,.int .i64 s.c.r,.int .i64 s.c.l,.int .i64 s.c.p,.slice ma s.ms.length mc,.int .i64 s.i,.int .i64 s.inc,.int .u32 (s.ct:Int)]:List Value)=[.int .i64 s.c.n,.int .i64 s.c.f,.int .i64 s.c.s,.int .i64 s.c.d,.int .i64 s.c.k,.int .i64 s.c.e,.int .i64 s.c.v,.int .i64 s.c.r,.int .i64 s.c.l,.int .i64 s.c.p]++[.slice ma s.ms.length mc,.int .i64 s.i,.int .i64 s.inc,.int .u32 (s.ct:Int)] from rfl,List.getElem?_append_left hi]
theorem PEAt.stores {w:World}{R:Nat}{s:Ec}{ma:Option Addr}{mc:Nat}(h:PEAt w R s ma mc)(h8:s.ws.length<=8)(j:Nat)(hj:j<s.ws.length)(q:Option (Nat×Int))(u0 u1:Value)(hq:pwC q=[u0,u1])(hu:∀ u∈[u0,u1],u.oneCell'=true):
  ∃ w',(Instr.storeAt 79 (.pointer (some ⟨R,14+j*2,none⟩)) (.agg #[u0,u1])).run Tryz.prog w=.ok () w'/\PEAt w' R { s with ws:=s.ws.set j q } ma mc/\Apart (λk=>k=R) w w':=by
 obtain⟨p,hp⟩:∃ p,s.ws[j]?=some p:=⟨s.ws[j],by simp[hj]⟩
 have ht:w.there R (14+j*2) (#[u0,u1]:Array Value).size:=λi hi=>by
  refine⟨?_,frozen_of_row _ _ _ _ _ h⟩
  have hi:i<2:=hi
  have hc:∃ u,(pwC p)[i]?=some u:=⟨(pwC p)[i]'(by rw[pwC_len];exact hi),by simp⟩
  obtain⟨u,hu⟩:=hc
  rw[h.at? hp i hu];rfl
 refine⟨_,run_storeAt_mid w R (14+j*2) 79 #[u0,u1] ht (by kernel_rfl) (all_oneCell_toArray hu),?_,?_⟩
 ·show PEAt ((w.setCell ⟨R,14+j*2,none⟩ u0).setCell ⟨R,14+j*2+1,none⟩ u1) R { s with ws:=s.ws.set j q } ma mc
  have a1:=heap_setCell_same w R (14+j*2) _ 82 u0 h
  have a2:=heap_setCell_same _ R (14+j*2+1) _ 82 u1 a1
  unfold PEAt
  rw[a2]
  have e:((peL s ma mc).set (14+j*2) u0).set (14+j*2+1) u1=peL { s with ws:=s.ws.set j q } ma mc:=by
   show ((peH s ma mc++pwF (pad8 s.ws)).set (14+j*2) u0).set (14+j*2+1) u1=peH s ma mc++pwF (pad8 (s.ws.set j q))
   rw[List.set_append_right _ _ (by rw[peH_len];omega),List.set_append_right _ _ (by rw[peH_len];omega),peH_len,show 14+j*2-14=j*2 by omega,show 14+j*2+1-14=j*2+1 by omega,pwF_set _ j q u0 u1 (by rw[pad8_len h8];omega) hq,pad8_set hj]
  rw[<-e]
  simp
 ·show Apart (λk=>k=R) w ((w.setCell ⟨R,14+j*2,none⟩ u0).setCell ⟨R,14+j*2+1,none⟩ u1)
  exact((Apart.refl (λk=>k=R) w).setCell (b:=R) (.inl rfl) _ _).setCell (b:=R) (.inl rfl) _ _
theorem setCells_row {R:Nat}{ty:TypeId}:∀ (Z L H:List Value) (w:World),Z.length=L.length->w.heap[R]?=some (.cells (H++L).toArray ty (0,0))->(w.setCells R H.length Z).heap[R]?=some (.cells (H++Z).toArray ty (0,0))/\Apart (λk=>k=R) w (w.setCells R H.length Z)
 | [],[],H,w,_,h=>⟨h,Apart.refl _ _⟩
 | z::Z,[],H,w,hl,_=>by simp at hl
 | [],l::L,H,w,hl,_=>by simp at hl
 | z :: Z, l :: L, H, w, hl, h => by
   have a1 := heap_setCell_same w R H.length _ ty z h
   rw [List.setIfInBounds_toArray, show (H ++ l :: L).set H.length z = (H ++ [z]) ++ L by rw [List.set_append_right _ _ (Nat.le_refl _), Nat.sub_self]; simp] at a1
   obtain ⟨i1, i2⟩ := setCells_row Z L (H ++ [z]) _ (by simpa using hl) a1
   rw [List.length_append, List.length_singleton] at i1 i2
   refine ⟨?_, ((Apart.refl (fun k => k = R) w).setCell (b := R) (.inl rfl) H.length z).trans i2 fun k hk => .inl hk⟩
   rw [show H ++ z :: Z = (H ++ [z]) ++ Z by simp]
   exact i1
theorem pwF_one (ws:List (Option (Nat×Int))):∀ v∈pwF ws,v.oneCell'=true:=by
 intro v hv
 obtain⟨p,_,hp⟩:=List.mem_flatMap.1 hv
 rcases p with _|⟨n,t⟩<;>simp only[pwC,List.mem_cons,List.not_mem_nil,or_false] at hp<;>rcases hp with rfl|rfl<;>rfl
theorem PEAt.clears {w:World}{R:Nat}{s:Ec}{ma:Option Addr}{mc:Nat}(h:PEAt w R s ma mc)(h8:s.ws.length=s.c.n.toNat)(hn:s.c.n<=8):
  ∃ w',(Instr.storeAt 80 (.pointer (some ⟨R,14,none⟩)) (.agg (pwF (List.replicate 8 none)).toArray)).run Tryz.prog w=.ok () w'/\PEAt w' R s.forV ma mc/\Apart (λk=>k=R) w w':=by
 have hl:(pwF (pad8 s.ws)).length=16:=by rw[pwF_len,pad8_len (by omega)]
 have ht:w.there R 14 (pwF (List.replicate 8 none)).toArray.size:=λi hi=>by
  have hi:i<16:=hi
  refine⟨?_,frozen_of_row _ _ _ _ _ h⟩
  rw[cell_of_row w _ _ _ _ _ h,List.getElem?_toArray]
  unfold peL
  rw[List.getElem?_append_right (by rw[peH_len];omega),peH_len,List.getElem?_eq_getElem (by omega)]
  rfl
 have hs:=run_storeAt_mid (P:=Tryz.prog) w R 14 80 (pwF (List.replicate 8 none)).toArray ht (by kernel_rfl) (all_oneCell_toArray (pwF_one _))
 obtain⟨a1,a2⟩:=setCells_row (R:=R) (ty:=82) (pwF (List.replicate 8 none)) (pwF (pad8 s.ws)) (peH s ma mc) w (by rw[hl,pwF_len];simp) h
 rw[peH_len] at a1 a2
 refine⟨_,hs,?_,a2⟩
 show (w.setCells R 14 (pwF (List.replicate 8 none))).heap[R]?=_
 rw[a1]
 have e:peL s.forV ma mc=peH s ma mc++pwF (List.replicate 8 none):=by
  show peH s ma mc++pwF (pad8 (List.replicate s.c.n.toNat none))=_
  rw[pad8_none (by omega)]
 rw[<-e]
theorem peL_no (s:Ec)(ma:Option Addr)(mc:Nat)(j:Nat)(y:Int):(peL s ma mc).toArray[j]?≠some (.int .u8 y):=by
 rw[List.getElem?_toArray]
 intro h
 have:=List.mem_of_getElem? h
 unfold peL at this
 rcases List.mem_append.1 this with this|this
 ·simp[peH] at this
 ·obtain⟨p,_,hp⟩:=List.mem_flatMap.1 this
  rcases p with _|⟨n,t⟩<;>simp[pwC] at hp
structure PEAll (w:World)(R:Nat)(s:Ec)(ma:Option Addr)(mc:Nat):Prop where
 at':PEAt w R s ma mc
 ms:Sees w ma mc s.ms
theorem PEAll.below {w w':World}{R:Nat}{s:Ec}{ma:Option Addr}{mc:Nat}(h:PEAll w R s ma mc)(hb:Below w.heap.size w w'):PEAll w' R s ma mc:=⟨h.at'.below hb,h.ms.below hb⟩
theorem PEAt.aside {w w':World}{R:Nat}{s:Ec}{ma:Option Addr}{mc:Nat}(h:PEAt w R s ma mc)(ha:Apart (λk=>k=R) w w'){x:Option Addr}{c:Nat}{l:List UInt8}(hs:Sees w x c l):Sees w' x c l:=by
 refine ha.sees hs ?_
 intro k off e hne
 rintro rfl
 obtain⟨k',off',ha',hc⟩:=hs.at' hne
 rw[e] at ha'
 simp only[Option.some.injEq,Addr.mk.injEq,and_true] at ha'
 obtain⟨rfl,rfl⟩:=ha'
 obtain⟨y,l',hl⟩:=List.exists_cons_of_ne_nil hne
 have h0:=hc 0 y (by rw[hl];rfl)
 rw[cell_of_row _ _ (off+0) _ _ _ h] at h0
 exact peL_no _ _ _ _ _ h0
theorem coreQu (p:Option (Nat×Int))(hp:∀ n t,p=some (n,t)->0<n)(w:World):(Op.equalIn 10000 79 (.agg (pwC p).toArray) (.agg #[.int .u64 0,.int .i64 0])).run Tryz.prog w=.ok p.isNone w:=by
 have u2:=Tryz.underlying2
 have a2:=Tryz.isAgg2
 have z2:=Tryz.sizeOf2
 have u3:=Tryz.underlying38
 have a3:=Tryz.isAgg38
 have z3:=Tryz.sizeOf38
 have hS:Tryz.prog.underlying 79=some (.struct (Tryz.prog.fieldsOf 79)):=by kernel_rfl
 have hq:Tryz.prog.stoodInHeld 79=false:=by kernel_rfl
 rw[show (10000:Nat)=9999+1 from rfl,run_equalIn_agg w 9999 79 _ _ hS hq]
 simp only[Program.fieldsOf,Tryz.underlying79]
 rcases p with _|⟨n,t⟩
 ·unfold pwC
  go_simp
 ·have h0:=hp n t rfl
  have hb:((n:Int)==0)=false:=by simp;omega
  unfold pwC
  go_simp
theorem eqQu (p:Option (Nat×Int))(hp:∀ n t,p=some (n,t)->0<n)(w:World):(binOp .eql 79 (.agg (pwC p).toArray) (.agg #[.int .u64 0,.int .i64 0])).run Tryz.prog w=.ok (.bool p.isNone) w:=by
 rw[run_eql_struct,coreQu p hp w]
 rfl
theorem tabs_apart {w w':World}{F:Nat->Prop}(h:Tabs w)(ha:Apart F w w')(hF:∀ k,F k->2<=k):Tabs w':=by
 exact⟨λt ht=>ha.cell (h.1 t ht) λhk=>absurd (hF 0 hk) (by omega),λt ht=>ha.cell (h.2 t ht) λhk=>absurd (hF 1 hk) (by omega)⟩
end Go.Proofs.YtahnbljbhfpldaaGreatDoor
