/-
  Two nodes of the program and two of the document's, side by side.
-/
import Derived.Test.YtahnbljbhfpldaaGreatDoorPeS
import Derived.Test.YtahnbljbhfpldaaGreatDoorEchoS
namespace Go.Proofs.YtahnbljbhfpldaaGreatDoor
set_option maxRecDepth 20000
open Go.ChangeShapes Go.WideShapes Go.ChangeAt Go.RowKit
theorem pn_laid {W:World}{x:An}{a:Option Addr}{c:Nat}(hs:Sees W a c x.key):∃ W',(Instr.storeAt 51 (.pointer (some ⟨W.heap.size,0,none⟩)) (.agg (anC x a c))).run Tryz.prog (W.alloc (.cells (anC An.zero none 0) 51))=.ok () W'/\PnAt W' W.heap.size x a c/\Sees W' a c x.key/\Below W.heap.size W W':=by
 have hb:Below W.heap.size W (W.alloc (.cells (anC An.zero none 0) 51)):=Go.Joins.below_alloc1 _ _
 obtain⟨X,hst,hX,hs',aX⟩:=pn_stored (PnAt.new W An.zero none 0) x a c (hs.below hb)
 exact⟨X,hst,hX,hs',aX.below hb (λk hk=>by omega) hb.size⟩
end Go.Proofs.YtahnbljbhfpldaaGreatDoor
namespace Go.Proofs.YtahnbljbhfpldaaGreatDoor
set_option maxRecDepth 20000
theorem eseal_right {key:List UInt8}{F:Fr}(hb:tagB key F=true):rightB (sealF key F)=true:=by
 obtain⟨_,h2⟩:=(tagB_iff key F).1 hb
 unfold rightB
 rw[show coreB (sealF key F)=coreB F from rfl,h2,show (sealF key F).tag=tagL key F from rfl,tagL_length]
 rfl
end Go.Proofs.YtahnbljbhfpldaaGreatDoor
namespace Go.Proofs.YtahnbljbhfpldaaGreatDoor
set_option maxRecDepth 20000
open Go.ChangeShapes Go.WideShapes Go.ChangeAt Go.RowKit
structure FBox (w:World)(k:Nat)(F:Fr)(A:At):Prop where
 at':FrAt w k F A
 seen:Seen w F A
theorem FBox.below {w w':World}{k:Nat}{F:Fr}{A:At}(h:FBox w k F A)(hb:Below w.heap.size w w'):FBox w' k F A:=⟨h.at'.below hb,h.seen.below hb⟩
theorem fbox_laid {W:World}{F:Fr}{A:At}(hs:Seen W F A):∃ W',(Instr.storeAt 40 (.pointer (some ⟨W.heap.size,0,none⟩)) (.agg (frC F A))).run Tryz.prog (W.alloc (.cells (frC Fr.zero At.zero) 40))=.ok () W'/\FBox W' W.heap.size F A/\Below W.heap.size W W':=by
 obtain⟨W',h1,h2,h3,h4⟩:=pfr_laid hs
 exact⟨W',h1,⟨h2,h3⟩,h4⟩
end Go.Proofs.YtahnbljbhfpldaaGreatDoor
namespace Go.Proofs.YtahnbljbhfpldaaGreatDoor
set_option maxRecDepth 20000
open Go.ChangeShapes Go.WideShapes Go.ChangeAt Go.RowKit
theorem deask_any (w:World)(D g:Nat)(s:Ec)(ma:Option Addr)(mc:Nat)(h:DEAll w D g s ma mc)(hok:s.ok)(jj now:Int):
  Calls Tryz.prog 12 #[.pointer (some ⟨D,0,none⟩),.int .i64 jj,.int .i64 now] w λe w'=>∃ d cd,e=.returned (.tuple #[.slice d (s.askR jj now).length cd,.int .i64 (s.askE jj now)])/\Sees w' d cd (s.askR jj now)/\DAsked w w' D g (s.askV jj now) ma mc:=by
 rcases s.askE_cases jj now with hE|hE|hE
 ·rw[hE]
  exact deask_ok w D g s ma mc h hok jj now hE
 ·have e1:s.askR jj now=[]:=by unfold Ec.askR;rw[hE];rfl
  have e2:s.askV jj now=s:=by unfold Ec.askV;rw[hE];rfl
  rw[hE,e1,e2]
  refine(deask_no w D g s ma mc h jj now hE).mono ?_
  rintro e w' ⟨rfl,rfl⟩
  exact⟨none,0,rfl,Sees.nil' _,⟨h,Apart.refl _ _⟩⟩
 ·have e1:s.askR jj now=[]:=by unfold Ec.askR;rw[hE];rfl
  have e2:s.askV jj now=s:=by unfold Ec.askV;rw[hE];rfl
  rw[hE,e1,e2]
  refine(deask_full w D g s ma mc h jj now hE).mono ?_
  rintro e w' ⟨rfl,rfl⟩
  exact⟨none,0,rfl,Sees.nil' _,⟨h,Apart.refl _ _⟩⟩
structure EKept (w w':World):Prop where
 blk:∀ (k:Nat) (cs:Array Value) (ty:TypeId) (fr:Nat×Nat),w.heap[k]?=some (.cells cs ty fr)->ty≠82->ty≠60->ty≠63->w'.heap[k]?=w.heap[k]?
 sees:∀ {x:Option Addr} {c:Nat} {l:List UInt8},Sees w x c l->Sees w' x c l
theorem EKept.of_below {w w':World}(h:Below w.heap.size w w'):EKept w w':=
 ⟨λk _ _ _ hk _ _ _=>h.block k (Array.getElem?_eq_some_iff.1 hk).1,λhs=>hs.below h⟩
theorem EKept.trans {w w' w'':World}(h:EKept w w')(g:EKept w' w''):EKept w w'':=
 ⟨fun k cs ty fr hk h1 h2 h3 => by
   have e := h.blk k cs ty fr hk h1 h2 h3
   exact (g.blk k cs ty fr (e.trans hk) h1 h2 h3).trans e, fun hs => g.sees (h.sees hs)⟩
theorem FBox.kept {w w':World}{k:Nat}{F:Fr}{A:At}(h:FBox w k F A)(g:EKept w w'):FBox w' k F A:=
 ⟨(g.blk k _ _ _ h.at' (by decide) (by decide) (by decide)).trans h.at',⟨g.sees h.seen.key,g.sees h.seen.body,g.sees h.seen.tag⟩⟩
theorem PnAt.kept {w w':World}{k:Nat}{x:An}{a:Option Addr}{c:Nat}(h:PnAt w k x a c)(g:EKept w w'):PnAt w' k x a c:=(g.blk k _ _ _ h (by decide) (by decide) (by decide)).trans h
theorem EKept.node {w w':World}{R:Nat}{s:Ec}{ma:Option Addr}{mc:Nat}(h:PEAt w R s ma mc)(ha:Apart (λk=>k=R) w w'):EKept w w':=
 ⟨fun k cs ty fr hk h1 _ _ => ha.block k (Array.getElem?_eq_some_iff.1 hk).1 (by
   rintro rfl
   unfold PEAt at h
   rw [h] at hk
   simp only [Option.some.injEq, Obj.cells.injEq] at hk
   exact h1 hk.2.1.symm), fun hs => h.aside ha hs⟩
theorem DEAll.aside {w w':World}{D g:Nat}{s:Ec}{ma:Option Addr}{mc:Nat}(h:DEAll w D g s ma mc)(ha:Apart (λk=>k=D\/k=g) w w'){x:Option Addr}{c:Nat}{l:List UInt8}(hs:Sees w x c l):Sees w' x c l:=by
 refine ha.sees hs ?_
 intro k off e hne hk
 obtain⟨k',off',ha',hc⟩:=hs.at' hne
 rw[e] at ha'
 simp only[Option.some.injEq,Addr.mk.injEq,and_true] at ha'
 obtain⟨rfl,rfl⟩:=ha'
 obtain⟨y,l',hl⟩:=List.exists_cons_of_ne_nil hne
 have h0:=hc 0 y (by rw[hl];rfl)
 rcases hk with rfl|rfl
 ·rw[cell_of_row _ _ (off+0) _ _ _ h.at'] at h0
  exact deL_no _ _ _ _ _ _ _ _ h0
 ·rw[cell_of_row _ _ (off+0) _ _ _ h.ws] at h0
  exact wdL_no _ _ _ h0
theorem EKept.doc {w w':World}{D g:Nat}{s:Ec}{ma:Option Addr}{mc:Nat}(h:DEAll w D g s ma mc)(ha:Apart (λk=>k=D\/k=g) w w'):EKept w w':=
 ⟨fun k cs ty fr hk _ h2 h3 => ha.block k (Array.getElem?_eq_some_iff.1 hk).1 (by
   rintro (rfl | rfl)
   · have h4 := h.at'
     unfold DEAt at h4
     rw [h4] at hk
     simp only [Option.some.injEq, Obj.cells.injEq] at hk
     exact h2 hk.2.1.symm
   · have h4 := h.ws
     unfold DWAt at h4
     rw [h4] at hk
     simp only [Option.some.injEq, Obj.cells.injEq] at hk
     exact h3 hk.2.1.symm), fun hs => h.aside ha hs⟩
structure EDuo (w0 w:World)(R Q D E G H:Nat)(s s2 t:Ec)(ma mb mu mv:Option Addr)(na nb nu nv:Nat):Prop where
 a:ESolo w0 w R s ma na
 b:ESolo w0 w Q t mb nb
 u:DEAll w D G s2 mu nu
 v:DEAll w E H t mv nv
 rq:Q≠R
 de:E≠D
 gh:H≠G
 ol:w0.heap.size<=D/\w0.heap.size<=E/\w0.heap.size<=G/\w0.heap.size<=H
theorem pd_ne {w:World}{R D:Nat}{s t:Ec}{ma mb:Option Addr}{mc md:Nat}{V:Value}(h:PEAt w R s ma mc)(g:DEAt w D t mb md V):D≠R:=by
 rintro rfl
 unfold PEAt at h
 unfold DEAt at g
 rw[h] at g
 simp at g
theorem pw_ne {w:World}{R G:Nat}{s:Ec}{ma:Option Addr}{mc:Nat}{ws:List (Option (Nat×Int))}(h:PEAt w R s ma mc)(g:DWAt w G ws):G≠R:=by
 rintro rfl
 unfold PEAt at h
 unfold DWAt at g
 rw[h] at g
 simp at g
theorem dw_ne {w:World}{D G:Nat}{s:Ec}{ma:Option Addr}{mc:Nat}{V:Value}{ws:List (Option (Nat×Int))}(h:DEAt w D s ma mc V)(g:DWAt w G ws):G≠D:=by
 rintro rfl
 unfold DEAt at h
 unfold DWAt at g
 rw[h] at g
 simp at g
theorem EDuo.below {w0 w w':World}{R Q D E G H:Nat}{s s2 t:Ec}{ma mb mu mv:Option Addr}{na nb nu nv:Nat}(h:EDuo w0 w R Q D E G H s s2 t ma mb mu mv na nb nu nv)(hb:Below w.heap.size w w'):EDuo w0 w' R Q D E G H s s2 t ma mb mu mv na nb nu nv:=
 ⟨h.a.below hb,h.b.below hb,h.u.below hb,h.v.below hb,h.rq,h.de,h.gh,h.ol⟩
theorem EDuo.actA {w0 w w':World}{R Q D E G H:Nat}{s s' s2 t:Ec}{ma mb mu mv:Option Addr}{na nb nu nv:Nat}(h:EDuo w0 w R Q D E G H s s2 t ma mb mu mv na nb nu nv)(hA:ESolo w0 w' R s' ma na)(ha:Apart (λk=>k=R) w w'):EDuo w0 w' R Q D E G H s' s2 t ma mb mu mv na nb nu nv:=by
 have hk:=EKept.node h.a.all.at' ha
 have m1:=pd_ne h.a.all.at' h.u.at'
 have m2:=pd_ne h.a.all.at' h.v.at'
 have m3:=pw_ne h.a.all.at' h.u.ws
 have m4:=pw_ne h.a.all.at' h.v.ws
 exact⟨hA,h.a.other h.b ha h.rq,⟨(ha.block D h.u.at'.lt m1).trans h.u.at',(ha.block G (Array.getElem?_eq_some_iff.1 h.u.ws).1 m3).trans h.u.ws,hk.sees h.u.ms⟩,⟨(ha.block E h.v.at'.lt m2).trans h.v.at',(ha.block H (Array.getElem?_eq_some_iff.1 h.v.ws).1 m4).trans h.v.ws,hk.sees h.v.ms⟩,h.rq,h.de,h.gh,h.ol⟩
theorem EDuo.actU {w0 w w':World}{R Q D E G H K:Nat}{s s2 s2' t:Ec}{ma mb mu mv:Option Addr}{na nb nu nv:Nat}(h:EDuo w0 w R Q D E G H s s2 t ma mb mu mv na nb nu nv)(hU:DEAll w' D K s2' mu nu)(hK:K=G\/w.heap.size<=K)(ha:Apart (λk=>k=D\/k=G) w w'):EDuo w0 w' R Q D E K H s s2' t ma mb mu mv na nb nu nv:=by
 have hk:=EKept.doc h.u ha
 have m1:=pd_ne h.a.all.at' h.u.at'
 have m2:=pd_ne h.b.all.at' h.u.at'
 have m3:=pw_ne h.a.all.at' h.u.ws
 have m4:=pw_ne h.b.all.at' h.u.ws
 have m5:=dw_ne h.v.at' h.u.ws
 have m6:=dw_ne h.u.at' h.v.ws
 have old:∀ k,(k=D\/k=G)->w0.heap.size<=k:=λk hk=>by
  have:=h.ol
  rcases hk with rfl|rfl<;>omega
 have hbel:=ha.below h.a.bel old h.a.bel.size
 have htab:=tabs_apart h.a.tab ha (λk hk=>Nat.le_trans h.a.two (old k hk))
 have hH:=(Array.getElem?_eq_some_iff.1 h.v.ws).1
 refine⟨⟨⟨(ha.block R h.a.all.at'.lt (by omega)).trans h.a.all.at',hk.sees h.a.all.ms⟩,h.a.ok,htab,h.a.old,h.a.two,hbel⟩,⟨⟨(ha.block Q h.b.all.at'.lt (by omega)).trans h.b.all.at',hk.sees h.b.all.ms⟩,h.b.ok,htab,h.b.old,h.b.two,hbel⟩,hU,⟨(ha.block E h.v.at'.lt (by have:=h.de;omega)).trans h.v.at',(ha.block H hH (by have:=h.gh;omega)).trans h.v.ws,hk.sees h.v.ms⟩,h.rq,h.de,?_,?_⟩
 ·rcases hK with rfl|hK
  ·exact h.gh
  ·omega
 ·have:=h.ol
  have:=h.a.bel.size
  rcases hK with rfl|hK<;>omega
def Ec.alone (s:Ec):Prop:=s.ws[s.i.toNat]?=some none
theorem Ec.alone_new {c:Cf}{ms:List UInt8}{i inc:Int}(h:ecB c ms i inc=true):(ecNew c ms i inc).alone:=by
 obtain⟨_,h1,h2,_⟩:=ecB_iff.1 h
 show (List.replicate c.n.toNat none)[i.toNat]?=some none
 rw[List.getElem?_replicate,if_pos (by omega)]
theorem Ec.alone_ask {s:Ec}(h:s.alone)(hok:s.ok)(jj now:Int):(s.askV jj now).alone:=by
 unfold Ec.askV
 split
 ·rename_i hE
  obtain⟨⟨a,b,c,_⟩,_⟩:=Ec.askE_zero.1 hE
  have hn:=hok.node
  show (s.ws.set jj.toNat _)[s.i.toNat]?=some none
  rw[List.getElem?_set_ne (by omega)]
  exact h
 ·exact h
theorem Ec.alone_hear {s:Ec}(h:s.alone)(F:Fr)(now:Int):(s.heV F now).alone:=by
 unfold Ec.heV
 split
 ·show (s.ws.set F.f.toNat none)[s.i.toNat]?=some none
  by_cases e:F.f.toNat=s.i.toNat
  ·rw[e,List.getElem?_set_self (List.getElem?_eq_some_iff.1 h).1]
  ·rw[List.getElem?_set_ne e]
   exact h
 ·exact h
theorem Ec.alone_for {s:Ec}(hok:s.ok):s.forV.alone:=by
 have hn:=hok.node
 show (List.replicate s.c.n.toNat none)[s.i.toNat]?=some none
 rw[List.getElem?_replicate,if_pos (by omega)]
theorem Ec.asB_at {s:Ec}(h:s.alone)(hok:s.ok){m:Nat}{p:Option (Nat×Int)}(hp:s.ws[m]?=some p):s.asB (m:Int)=p.isSome:=by
 have hn:=hok.node
 have hm:=(List.getElem?_eq_some_iff.1 hp).1
 rw[hok.num] at hm
 unfold Ec.asB
 rw[Int.toNat_natCast,hp]
 by_cases e:(m:Int)=s.i
 ·have:p=none:=by
   have h2:=h
   unfold Ec.alone at h2
   rw[<-e,Int.toNat_natCast,hp] at h2
   cases h2
   rfl
  subst this
  simp
 ·rw[Ec.othB_iff.2 ⟨by omega,by omega,e⟩]
  simp
end Go.Proofs.YtahnbljbhfpldaaGreatDoor
