/-
  The document's node that asks and answers, in memory.
-/
import Derived.WalkMore
import Derived.Test.YtahnbljbhfpldaaGreatDoorEchoM
import Derived.Test.YtahnbljbhfpldaaGreatDoorSchedR
import Derived.Deep.MidRow
import Derived.OwnWalk
namespace Go.Proofs.YtahnbljbhfpldaaGreatDoor
set_option maxRecDepth 20000
open Go.ChangeShapes Go.WideShapes Go.ChangeAt Go.RowKit
open Go.ChangeShapes Go.WideShapes Go.ChangeAt Go.RowKit Go.Shelf
attribute [local go_sem] Oper.semAt_some
theorem Sees.slot {W:World}{a:Option Addr}{cap:Nat}{bs:List UInt8}(h:Sees W a cap bs){g:Nat}{cur:Array Value}{e:TypeId}{fr:Nat×Nat}(hg:W.heap[g]?=some (.cells cur e fr))(hv:∀ (j:Nat) (y:Int),cur[j]?≠some (.int .u8 y))(q:Nat)(u:Value):Sees (W.setCell ⟨g,q,none⟩ u) a cap bs:=
 ⟨h.fits, h.room, h.bare, fun hne => by
   obtain ⟨b, off, ha, hc⟩ := h.at' hne
   refine ⟨b, off, ha, fun i x hx => ?_⟩
   have h1 := hc i x hx
   have hne2 : b ≠ g := by
     rintro rfl
     rw [cell_of_row W b (off + i) cur e fr hg] at h1
     exact hv _ _ h1
   rw [World.cell?_of_block (w := W) (a := ⟨b, off + i, none⟩) (Below.heap_setCell W ⟨g, q, none⟩ u b (fun e => hne2 (by rw [e]))), h1]⟩
end Go.Proofs.YtahnbljbhfpldaaGreatDoor
namespace Go.Proofs.YtahnbljbhfpldaaGreatDoor
set_option maxRecDepth 20000
open Go.ChangeShapes Go.WideShapes Go.ChangeAt Go.RowKit
def wdC:Option (Nat×Int)->List Value
 | none=>[.bool false,.int .u64 0,.int .i64 0]
 | some (n,t)=>[.bool true,.int .u64 (n:Int),.int .i64 t]
def wdL (ws:List (Option (Nat×Int))):List Value:=ws.flatMap wdC
theorem wdC_len (p:Option (Nat×Int)):(wdC p).length=3:=by rcases p with _|⟨n,t⟩<;>rfl
theorem wdL_len:∀ ws:List (Option (Nat×Int)),(wdL ws).length=ws.length*3
 | []=>rfl
 | p :: r => by
   have ih := wdL_len r
   simp only [wdL, List.flatMap_cons, List.length_append, wdC_len, List.length_cons] at ih ⊢
   omega
theorem wdL_get:∀ (ws:List (Option (Nat×Int))) (j:Nat) (p:Option (Nat×Int)) (t:Nat) (u:Value),ws[j]?=some p->(wdC p)[t]?=some u->(wdL ws)[j*3+t]?=some u
 | [],j,p,t,u,h,_=>by simp at h
 | q :: r, 0, p, t, u, h, hu => by
   simp at h
   subst h
   have ht := (List.getElem?_eq_some_iff.1 hu).1
   simp only [wdL, List.flatMap_cons]
   rw [List.getElem?_append_left (by omega)]
   rw [show 0 * 3 + t = t by omega]; exact hu
 | q :: r, j + 1, p, t, u, h, hu => by
   have ih := wdL_get r j p t u (by simpa using h) hu
   simp only [wdL, List.flatMap_cons] at ih ⊢
   rw [List.getElem?_append_right (by rw [wdC_len]; omega), wdC_len, show (j + 1) * 3 + t - 3 = j * 3 + t by omega]
   exact ih
theorem wdC_set (p q:Option (Nat×Int)):∀ u0 u1 u2,wdC q=[u0,u1,u2]->(((wdC p).set 0 u0).set 1 u1).set 2 u2=wdC q:=by
 intro u0 u1 u2 h
 rw[h]
 rcases p with _|⟨n,t⟩<;>rfl
theorem wdL_set:∀ (ws:List (Option (Nat×Int))) (j:Nat) (q:Option (Nat×Int)) (u0 u1 u2:Value),j<ws.length->wdC q=[u0,u1,u2]->(((wdL ws).set (j*3) u0).set (j*3+1) u1).set (j*3+2) u2=wdL (ws.set j q)
 | [],j,q,_,_,_,h,_=>by simp at h
 | p :: r, 0, q, u0, u1, u2, _, hq => by
   simp only [wdL, List.flatMap_cons, List.set_cons_zero, Nat.zero_mul, Nat.zero_add]
   rw [List.set_append_left _ _ (by rw [wdC_len]; omega), List.set_append_left _ _ (by rw [List.length_set, wdC_len]; omega), List.set_append_left _ _ (by rw [List.length_set, List.length_set, wdC_len]; omega), wdC_set p q u0 u1 u2 hq]
 | p :: r, j + 1, q, u0, u1, u2, h, hq => by
   have ih := wdL_set r j q u0 u1 u2 (by simpa using h) hq
   simp only [wdL, List.flatMap_cons, List.set_cons_succ] at ih ⊢
   rw [List.set_append_right _ _ (by rw [wdC_len]; omega), wdC_len, List.set_append_right _ _ (by rw [wdC_len]; omega), wdC_len, List.set_append_right _ _ (by rw [wdC_len]; omega), wdC_len]
   rw [show (j + 1) * 3 - 3 = j * 3 by omega, show (j + 1) * 3 + 1 - 3 = j * 3 + 1 by omega, show (j + 1) * 3 + 2 - 3 = j * 3 + 2 by omega, ih]
def DWAt (w:World)(g:Nat)(ws:List (Option (Nat×Int))):Prop:=w.heap[g]?=some (.cells (wdL ws).toArray 63 (0,0))
theorem DWAt.cell {w:World}{g:Nat}{ws:List (Option (Nat×Int))}(h:DWAt w g ws){j:Nat}{p:Option (Nat×Int)}(hp:ws[j]?=some p)(t:Nat){u:Value}(hu:(wdC p)[t]?=some u):w.cell? ⟨g,j*3+t,none⟩=some u:=by
 rw[cell_of_row w _ _ _ _ _ h,List.getElem?_toArray];exact wdL_get ws j p t u hp hu
theorem wdL_no (ws:List (Option (Nat×Int)))(j:Nat)(y:Int):(wdL ws).toArray[j]?≠some (.int .u8 y):=by
 rw[List.getElem?_toArray]
 intro h
 obtain⟨p,_,hp⟩:=List.mem_flatMap.1 (List.mem_of_getElem? h)
 rcases p with _|⟨n,t⟩<;>simp[wdC] at hp
def deL (s:Ec)(ma:Option Addr)(mc:Nat)(W:Value):List Value:=
 [.int .i64 s.c.n, .int .i64 s.c.f, .int .i64 s.c.s, .int .i64 s.c.d, .int .i64 s.c.k, .int .i64 s.c.e, .int .i64 s.c.v, .int .i64 s.c.r, .int .i64 s.c.l, .int .i64 s.c.p,
   .slice ma s.ms.length mc, .int .i64 s.i, .int .i64 s.inc, .int .u64 (s.ct : Int), W]
def DEAt (w:World)(R:Nat)(s:Ec)(ma:Option Addr)(mc:Nat)(W:Value):Prop:=w.heap[R]?=some (.cells (deL s ma mc W).toArray 60 (0,0))
theorem DEAt.cell {w:World}{R:Nat}{s:Ec}{ma:Option Addr}{mc:Nat}{W:Value}(h:DEAt w R s ma mc W)(i:Nat){u:Value}(hu:(deL s ma mc W)[i]?=some u):w.cell? ⟨R,i,none⟩=some u:=by
 rw[cell_of_row w _ i _ _ _ h];simpa using hu
theorem DEAt.fz {w:World}{R:Nat}{s:Ec}{ma:Option Addr}{mc:Nat}{W:Value}(h:DEAt w R s ma mc W)(i:Nat):w.frozen? ⟨R,i,none⟩=false:=frozen_of_row _ _ i _ _ h
theorem DEAt.lt {w:World}{R:Nat}{s:Ec}{ma:Option Addr}{mc:Nat}{W:Value}(h:DEAt w R s ma mc W):R<w.heap.size:=(Array.getElem?_eq_some_iff.1 h).1
theorem DEAt.put {w:World}{R:Nat}{s t:Ec}{ma:Option Addr}{mc:Nat}{W V:Value}(h:DEAt w R s ma mc W)(i:Nat)(u:Value)(hl:(deL s ma mc W).set i u=deL t ma mc V):DEAt (w.setCell ⟨R,i,none⟩ u) R t ma mc V:=by
 show (w.setCell ⟨R,i,none⟩ u).heap[R]?=_
 rw[heap_setCell_same _ _ _ _ _ _ h]
 congr 2
 rw[List.setIfInBounds_toArray,hl]
structure DEAll (w:World)(R g:Nat)(s:Ec)(ma:Option Addr)(mc:Nat):Prop where
 at':DEAt w R s ma mc (.slice (some ⟨g,0,none⟩) s.ws.length s.ws.length)
 ws:DWAt w g s.ws
 ms:Sees w ma mc s.ms
theorem deL_no (s:Ec)(ma:Option Addr)(mc:Nat)(a:Option Addr)(n c:Nat)(j:Nat)(y:Int):(deL s ma mc (.slice a n c)).toArray[j]?≠some (.int .u8 y):=by
 rw[List.getElem?_toArray]
 intro h
 have:=List.mem_of_getElem? h
 simp[deL] at this
theorem DEAll.below {w w':World}{R g:Nat}{s:Ec}{ma:Option Addr}{mc:Nat}(h:DEAll w R g s ma mc)(hb:Below w.heap.size w w'):DEAll w' R g s ma mc:=
 ⟨(hb.block R h.at'.lt).trans h.at',(hb.block g (Array.getElem?_eq_some_iff.1 h.ws).1).trans h.ws,h.ms.below hb⟩
theorem made_waits (m:Nat):(madeCells #[Value.bool false,.int .u64 0,.int .i64 0] (m*3)).toList=wdL (List.replicate m none):=by
 apply List.ext_getElem?
 intro i
 by_cases hi:i<m*3
 ·have hj:(List.replicate m (none:Option (Nat×Int)))[i/3]?=some none:=by rw[List.getElem?_replicate,if_pos (by omega)]
  have hr:i%3=0\/i%3=1\/i%3=2:=by omega
  have he:i=i/3*3+i%3:=by omega
  have hl:(madeCells #[Value.bool false,.int .u64 0,.int .i64 0] (m*3)).toList[i]?=(wdC none)[i%3]?:=by
   rcases hr with h|h|h<;>simp[madeCells,wdC,hi,h]
  rw[hl]
  rcases hr with h|h|h
  ·rw[h,show (wdC none)[0]?=some (.bool false) from rfl];conv=>rhs;rw[he,h]
   exact(wdL_get _ _ none 0 _ hj rfl).symm
  ·rw[h,show (wdC none)[1]?=some (.int .u64 0) from rfl];conv=>rhs;rw[he,h]
   exact(wdL_get _ _ none 1 _ hj rfl).symm
  ·rw[h,show (wdC none)[2]?=some (.int .i64 0) from rfl];conv=>rhs;rw[he,h]
   exact(wdL_get _ _ none 2 _ hj rfl).symm
 ·rw[List.getElem?_eq_none (by simp[madeCells];omega),List.getElem?_eq_none (by rw[wdL_len];simp;omega)]
theorem Tryz.info63:(Tryz.prog.info? 63).map (λi=>(i.zero,i.size,i.bytes))=some (some (.agg #[.bool false,.int .u64 0,.int .i64 0]),3,24):=by kernel_rfl
theorem op_makeW {w:World}{o:Oper}{a:Act}{K:Act->World->Prop}{Q:Exit->Act->World->Prop}(x y:Operand)(m:Nat)(hm:m<=8)(ho:o.op=.makeSlice 58 x y)(hx:a.eval x=.int .i64 (m:Int))(hy:a.eval y=.int .i64 (m:Int))(h:∀ w',DWAt w' w.heap.size (List.replicate m none)->Below w.heap.size w w'->K (a.put o.dst (.slice (some ⟨w.heap.size,0,none⟩) m m)) w'):Oper.wp Tryz.prog o a w K Q:=by
 obtain⟨i,hi,hz0,hz1,hz2⟩:=info_parts Tryz.info63
 obtain⟨w',hrun,hown,hgrow⟩:=run_make_full (P:=Tryz.prog) w w.heap.size 58 63 i (.agg #[.bool false,.int .u64 0,.int .i64 0]) 3 (by kernel_rfl) hi hz0 hz1 .i64 .i64 m (by rw[hz2];omega) (by unfold maxLen;omega) (Nat.le_refl _)
 have hd:DWAt w' w.heap.size (List.replicate m none):=by
  rcases hown.2 with ⟨h',_⟩|⟨g',cap',cur,h',_,hg,_,_,hcs,htake⟩
  ·simp at h'
  ·simp only[Value.slice.injEq,Option.some.injEq,Addr.mk.injEq,and_true,true_and] at h'
   obtain⟨rfl,rfl⟩:=h'
   unfold DWAt
   rw[hg]
   have e1:cur.toList=wdL (List.replicate m none):=by
    rw[<-made_waits]
    have:cur.toList.take (m*3)=cur.toList:=List.take_of_length_le (by simp[hcs])
    rw[<-this];exact htake
   rw[<-e1]
 unfold Oper.wp execOp
 simp only[ho,hx,hy,Sem.run_bind,hrun,Result.andThen_ok,Sem.run_pure]
 exact h w' hd ((Below.refl _ _).grown hgrow (Nat.le_refl _) (by intro k h;cases h))
end Go.Proofs.YtahnbljbhfpldaaGreatDoor
