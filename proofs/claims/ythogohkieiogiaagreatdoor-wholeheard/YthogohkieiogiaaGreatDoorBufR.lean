/-
  The contract of Put: what it refuses; what it keeps ready; the last steps.
  The contract of Put.
  One buffer, act by act, seen from the world in which it was made; awake.
-/
import Derived.Test.YthogohkieiogiaaGreatDoorBufH
import Derived.Deep.DeepCutAuto
namespace Go.Proofs.YthogohkieiogiaaGreatDoor
set_option maxRecDepth 20000
set_option maxHeartbeats 6400000
open Go.ChangeShapes Go.WideShapes Go.ChangeAt Go.RowKit
theorem op_append_run {P:Program}{w w':World}{o:Oper}{a:Act}{K:Act->World->Prop}{Q:Exit->Act->World->Prop}(s x:Operand)(t:TypeId)(ho:o.op=.call { callee:=.builtin .append,args:=#[s,x],argTypes:=#[t,t] })(v u r:Value)(hs:a.eval s=v)(hx:a.eval x=u)(hrun:(Builtin.append_ #[t,t] o.type #[v,u]).run P w=.ok r w')(h:K (a.put o.dst r) w'):Oper.wp P o a w K Q:=by
 unfold Oper.wp execOp
 simp only[ho,resolve,invoke,builtin,Sem.run_bind,Sem.run_pure,Result.andThen_ok,List.map_toArray,List.map_cons,List.map_nil,hs,hx,hrun]
 exact h
def Ready (w:World)(g m:Nat)(v0:Value)(s1:Bs)(n1 B:Nat)(k:Key)(W:World):Prop:=
 ∃ v' ss',Pb W g m v' s1 ss' n1/\KBox W B k/\Apart (Own g m v0) w W/\(∀ j,v'.ownBlock=some j->v0.ownBlock=some j\/w.heap.size<=j)
def Half (w:World)(g m:Nat)(v0:Value)(s1:Bs)(n1 B:Nat)(k:Key)(x:List UInt8)(W:World):Prop:=
 ∃ v' ss',PA W g s1.most s1.lost v' m/\MapAt W m n1 (cnt s1.L)/\Row E57 W v' ss'/\ss'.map Prod.fst=s1.L++[⟨k.1,k.2,x⟩]/\BSeen W ss'/\KBox W B k/\Apart (Own g m v0) w W/\∀ j,v'.ownBlock=some j->v0.ownBlock=some j\/w.heap.size<=j
theorem PLeft.refl {w W:World}{g m:Nat}{v:Value}{s:Bs}{ss:List BSl}{n:Nat}(h:Pb w g m v s ss n)(hb:Below w.heap.size w W){n':Nat}(hn:n<=n'):PLeft w g m v s n' W:=
 ⟨v,ss,(h.below hb).mono hn,Apart.of_below hb,λ_ hk=>.inl hk⟩
theorem Half.done {w:World}{g m:Nat}{v0:Value}{s1:Bs}{n1 B:Nat}{k:Key}{x:List UInt8}{W W':World}(h:Half w g m v0 s1 n1 B k x W)(hok:Bs.ok { s1 with L:=s1.L++[⟨k.1,k.2,x⟩] })(hm:MapAt W' m (n1+1) (λj=>if j=k then cnt s1.L k+1 else cnt s1.L j))(ha:Apart (λj=>j=m) W W'):PLeft w g m v0 { s1 with L:=s1.L++[⟨k.1,k.2,x⟩] } (n1+1) W':=by
 obtain⟨v',ss',h1,h2,h3,h4,h5,h6,h7,h8⟩:=h
 refine⟨v',ss',⟨h1.keep (ha.block g h1.lt (own_gm h1 h2)),?_,h3.apart ha λj hj e=>own_vm h2 h3 (e▸hj),h4,h5.apart ha λj hj=>hj▸h2.plain,hok⟩,h7.trans ha λi hi=>.inl (.inr (.inl hi)),h8⟩
 refine hm.congr λj=>?_
 show _=cnt (s1.L++[⟨k.1,k.2,x⟩]) j
 rw[cnt_append,cnt_one]
 have e:(It.k ⟨k.1,k.2,x⟩:Key)=k:=rfl
 rw[e]
 by_cases hj:j=k
 ·subst hj;simp
 ·rw[if_neg hj,if_neg (λe=>hj e.symm)];rfl
theorem Ready.put {w:World}{g m:Nat}{v0:Value}{s1:Bs}{n1 B:Nat}{k:Key}{W:World}{a:Option Addr}{l cap:Nat}{ss:List BSl}(hP:Pb W g m (.slice a l cap) s1 ss n1)(hB:KBox W B k)(hA:Apart (Own g m v0) w W)(hv:∀ j,(Value.slice a l cap).ownBlock=some j->v0.ownBlock=some j\/w.heap.size<=j){w7:World}(hb:Below W.heap.size W w7){d:Option Addr}{cd:Nat}{x:List UInt8}(hs:Sees w7 d cd x):
  ∃ a' l' c' W10, (Builtin.append_ #[120, 120] 120 #[.slice a l cap, .slice (some ⟨w7.heap.size, 0, none⟩) 1 1]).run Tryz.prog (w7.alloc (.cells #[.int .i64 k.1, .int .i64 k.2, .slice d x.length cd] 201)) = .ok (.slice a' l' c') W10 ∧
    w7.cell? ⟨g, 2, none⟩ = some (.slice a l cap) ∧ (w7.cell? ⟨B, 0, none⟩ = some (.int .i64 k.1) ∧ w7.cell? ⟨B, 1, none⟩ = some (.int .i64 k.2)) ∧
    (w7.alloc (.cells #[.int .i64 k.1, .int .i64 k.2, .slice d x.length cd] 201)).cell? ⟨g, 2, none⟩ = some (.slice a l cap) ∧ ((w7.alloc (.cells #[.int .i64 k.1, .int .i64 k.2, .slice d x.length cd] 201)).cell? ⟨B, 0, none⟩ = some (.int .i64 k.1) ∧ (w7.alloc (.cells #[.int .i64 k.1, .int .i64 k.2, .slice d x.length cd] 201)).cell? ⟨B, 1, none⟩ = some (.int .i64 k.2)) ∧
    W10.cell? ⟨g, 2, none⟩ = some (.slice a l cap) ∧ W10.frozen? ⟨g, 2, none⟩ = false ∧ (W10.cell? ⟨B, 0, none⟩ = some (.int .i64 k.1) ∧ W10.cell? ⟨B, 1, none⟩ = some (.int .i64 k.2)) ∧
    ((W10.setCell ⟨g, 2, none⟩ (.slice a' l' c')).cell? ⟨B, 0, none⟩ = some (.int .i64 k.1) ∧ (W10.setCell ⟨g, 2, none⟩ (.slice a' l' c')).cell? ⟨B, 1, none⟩ = some (.int .i64 k.2)) ∧
    Half w g m v0 s1 n1 B k x (W10.setCell ⟨g, 2, none⟩ (.slice a' l' c')) := by
 have hP7:=hP.below hb
 have hB7:=hB.below hb
 obtain⟨W9,hW9⟩:∃ W9,W9=w7.alloc (.cells #[.int .i64 k.1,.int .i64 k.2,.slice d x.length cd] 201):=⟨_,rfl⟩
 have hb9:Below w7.heap.size w7 W9:=by rw[hW9];exact(Below.refl _ _).alloc (Nat.le_refl _) _
 have r9:W9.heap[w7.heap.size]?=some (.cells #[.int .i64 k.1,.int .i64 k.2,.slice d x.length cd] 201 (0,0)):=by rw[hW9];exact heap_alloc_new _ _
 rw[<-hW9]
 have hP9:=hP7.below hb9
 have hB9:=hB7.below hb9
 have hs9:=hs.below hb9
 have hlen:ss.length<=64:=by have:=hP.ok.len;have:=hP.ok.hi;have:=congrArg List.length hP.its;simp at this;omega
 obtain⟨v10,W10,hrun,hrow,hap,hnew⟩:=hP9.row.append [((⟨k.1,k.2,x⟩:It),(d,cd))] (by simp;omega) (some ⟨w7.heap.size,0,none⟩) 1 (λ_=>⟨w7.heap.size,0,rfl,λt u hu=>by
  rw[show E57.cs [((⟨k.1,k.2,x⟩:It),(d,cd))]=[.int .i64 k.1,.int .i64 k.2,.slice d x.length cd] from rfl] at hu
  rw[cell_of_row _ _ (0+t) _ _ _ r9,Nat.zero_add,<-Array.getElem?_toList];exact hu⟩)
 obtain⟨a',c',rfl,_⟩:=hrow.shape
 have hgv:(Value.slice a l cap).ownBlock≠some g:=own_vg hP9.at' hP9.row
 have hBv:(Value.slice a l cap).ownBlock≠some B:=by
  intro e
  obtain⟨cur,h1,_⟩:=hP9.row.isRow e
  unfold KBox at hB9
  rw[h1] at hB9;cases hB9
 have hgB:B≠g:=by
  rintro rfl
  have h1:=hP9.at'
  unfold PA at h1
  unfold KBox at hB9
  rw[h1] at hB9
  simp at hB9
 have hPA:PA W10 g s1.most s1.lost (.slice a l cap) m:=hP9.at'.keep (hap.block g hP9.at'.lt hgv)
 have hB10:KBox W10 B k:=(hap.block B hB9.lt hBv).trans hB9
 have hB11:KBox (W10.setCell ⟨g,2,none⟩ (.slice a' (ss++[((⟨k.1,k.2,x⟩:It),(d,cd))]).length c')) B k:=by
  unfold KBox
  rw[heap_setCell_other _ _ _ _ hgB];exact hB10
 have hM10:MapAt W10 m n1 (cnt s1.L):=hP9.map.keep (hap.block m hP9.map.lt (own_vm hP9.map hP9.row))
 have hg10:(Value.slice a' (ss++[((⟨k.1,k.2,x⟩:It),(d,cd))]).length c').ownBlock≠some g:=λe=>by
  rcases hnew g e with h1|h1
  ·exact hgv h1
  ·have:=hP9.at'.lt;omega
 have hag:Apart (λj=>j=g) W10 (W10.setCell ⟨g,2,none⟩ (.slice a' (ss++[((⟨k.1,k.2,x⟩:It),(d,cd))]).length c')):=(Apart.refl (λj=>j=g) W10).setCell (b:=g) (.inl rfl) 2 _
 have hseen:BSeen W10 (ss++[((⟨k.1,k.2,x⟩:It),(d,cd))]):=by
  have h1:BSeen W9 (ss++[((⟨k.1,k.2,x⟩:It),(d,cd))]):=λy hy=>by
   rcases List.mem_append.1 hy with hy|hy
   ·exact hP9.seen y hy
   ·rw[List.mem_singleton] at hy;subst hy;exact hs9
  exact h1.apart hap λj hj=>hP9.row.plain hj
 have hsz:w.heap.size<=W9.heap.size:=Nat.le_trans hA.size (Nat.le_trans hb.size hb9.size)
 refine⟨a',_,c',W10,hrun,hP7.at'.c2,⟨hB7.c0,hB7.c1⟩,hP9.at'.c2,⟨hB9.c0,hB9.c1⟩,hPA.c2,hPA.fz 2,⟨hB10.c0,hB10.c1⟩,⟨hB11.c0,hB11.c1⟩,?_⟩
 refine⟨_,ss++[((⟨k.1,k.2,x⟩:It),(d,cd))],hPA.put2 _,hM10.keep (hag.block m hM10.lt λe=>own_gm hPA hM10 e.symm),hrow.apart hag λj hj e=>hg10 (e▸hj),by rw[List.map_append,hP.its];rfl,hseen.apart hag λj hj=>hj▸hPA.plain (λk y e=>by cases e),hB11,?_,λj hj=>?_⟩
 ·have h1:Apart (Own g m v0) w W9:=(hA.trans (Apart.of_below (F:=λ_=>False) hb) (λ_ h=>h.elim)).trans (Apart.of_below (F:=λ_=>False) hb9) (λ_ h=>h.elim)
  have h2:Apart (Own g m v0) w W10:=h1.trans hap λi hi=>by
   rcases hv i hi with h|h
   ·exact .inl (.inr (.inr h))
   ·exact .inr h
  exact h2.trans hag λi hi=>.inl (.inl hi)
 ·rcases hnew j hj with h|h
  ·exact hv j h
  ·exact .inr (by omega)
theorem put_refused (w:World)(g m:Nat)(c3:w.cell? ⟨g,3,none⟩=some (.map (some m)))(k1 k2:Int)(xa:Option Addr)(xc:Nat)(x:List UInt8)(ha:argB k1 k2 x=false):
  Calls Tryz.prog 86 #[.pointer (some ⟨g,0,none⟩),.int .i64 k1,.int .i64 k2,.slice xa x.length xc] w λe w'=>e=.returned (.int .i64 1)/\w'=w:=by
 have hs:=made_ok w g m c3
 have hno:¬ (0<=k1/\k1<=65535/\1<=k2/\k2<=256/\x.length<=96):=λh=>by rw[argB_iff.2 h] at ha;cases ha
 clear ha c3
 go_enter Tryz.func86,Tryz.ntmps86
 go_wp2_with fail
 refine hs.mono ?_
 rintro e w ⟨rfl,rfl⟩
 by_cases h1:k1<0
 ·clear hno
  go_wp2
  go_ret
  exact⟨rfl,rfl⟩
 ·by_cases h2:65535<k1
  ·clear hno
   go_wp2
   go_ret
   exact⟨rfl,rfl⟩
  ·by_cases h3:k2<1
   ·clear hno
    go_wp2
    go_ret
    exact⟨rfl,rfl⟩
   ·by_cases h4:256<k2
    ·clear hno
     go_wp2
     go_ret
     exact⟨rfl,rfl⟩
    ·have h5:96<(x.length:Int):=by omega
     clear hno
     go_wp2
     go_ret
     exact⟨rfl,rfl⟩
theorem put_held (w:World)(g m:Nat)(v:Value)(s:Bs)(ss:List BSl)(n:Nat)(h:Pb w g m v s ss n)(k1 k2:Int)(xa:Option Addr)(xc:Nat)(x:List UInt8)(hx:Sees w xa xc x)(ha:argB k1 k2 x=true)(hh:heldB s.L x=true):
  Calls Tryz.prog 86 #[.pointer (some ⟨g,0,none⟩),.int .i64 k1,.int .i64 k2,.slice xa x.length xc] w λe w'=>e=.returned (.int .i64 4)/\Below w.heap.size w w':=by
 have hs:=made_ok w g m h.at'.c3
 have K:=holds_ok w g m v s ss n h xa xc x hx
 rw[hh] at K
 obtain⟨a1,a2,a3,a4,a5⟩:=argB_iff.1 ha
 have b1:¬ (k1<0):=by omega
 have b2:¬ (65535<k1):=by omega
 have b3:¬ (k2<1):=by omega
 have b4:¬ (256<k2):=by omega
 have b5:¬ (96<(x.length:Int)):=by omega
 clear h hx ha hh a1 a2 a3 a4 a5
 go_enter Tryz.func86,Tryz.ntmps86
 go_wp2_with fail
 refine hs.mono ?_
 rintro e w ⟨rfl,rfl⟩
 go_wp2_with fail
 refine K.mono ?_
 rintro e w' ⟨rfl,hb⟩
 go_wp2
 go_ret
 exact⟨rfl,hb⟩
theorem put_goes (w:World)(g m:Nat)(v:Value)(s:Bs)(ss:List BSl)(n:Nat)(h:Pb w g m v s ss n)(hn:n<=80000000)(hlost:s.lost<=1000000)(k1 k2:Int)(xa:Option Addr)(xc:Nat)(x:List UInt8)(hx:Sees w xa xc x)(ha:argB k1 k2 x=true)(hh:heldB s.L x=false):
  Calls Tryz.prog 86 #[.pointer (some ⟨g,0,none⟩),.int .i64 k1,.int .i64 k2,.slice xa x.length xc] w λe w'=>e=.returned (.int .i64 (bputE s k1 k2 x))/\PLeft w g m v (putV s k1 k2 x) (n+65) w':=by
 have hs:=made_ok w g m h.at'.c3
 have K:=holds_ok w g m v s ss n h xa xc x hx
 rw[hh] at K
 obtain⟨a1,a2,a3,a4,a5⟩:=argB_iff.1 ha
 have b1:¬ (k1<0):=by omega
 have b2:¬ (65535<k1):=by omega
 have b3:¬ (k2<1):=by omega
 have b4:¬ (256<k2):=by omega
 have b5:¬ (96<(x.length:Int)):=by omega
 have HWF:Hid (wfK (k1,k2)):=⟨inI_wf (x:=k1) (by omega) (by omega),inI_wf (x:=k2) (by omega) (by omega)⟩
 have HP:Hid (Pb w g m v s ss n):=h
 have HX:Hid (Sees w xa xc x/\x.length<=96):=⟨hx,a5⟩
 have HOK:Hid ((putV s k1 k2 x).ok):=putV_ok h.ok k1 k2 x
 have HPE:Hid (bputE s k1 k2 x=if s.L.length=s.most/\cnt s.L (k1,k2)=cnt s.L (full s.L) then 9 else 0):=by show bputE s k1 k2 x=_;rw[bputE,if_neg (by rw[ha];simp),if_neg (by rw[hh];simp)]
 have HPV:Hid (putV s k1 k2 x=if s.L.length=s.most then (if cnt s.L (k1,k2)=cnt s.L (full s.L) then { s with lost:=s.lost+1 } else { s with lost:=s.lost+1,L:=(split (isK (full s.L)) 1 s.L).2++[⟨k1,k2,x⟩] }) else { s with L:=s.L++[⟨k1,k2,x⟩] }):=by show putV s k1 k2 x=_;rw[putV,if_neg (by rw[ha];simp),if_neg (by rw[hh];simp)]
 obtain⟨s1,hs1⟩:∃ s1:Bs,s1=if s.L.length=s.most then { s with lost:=s.lost+1,L:=(split (isK (full s.L)) 1 s.L).2 } else s:=⟨_,rfl⟩
 have HS1:Hid (s1=if s.L.length=s.most then { s with lost:=s.lost+1,L:=(split (isK (full s.L)) 1 s.L).2 } else s):=hs1
 obtain⟨xl,hxl⟩:∃ xl,xl=x.length:=⟨_,rfl⟩
 have HXL:Hid (xl=x.length):=hxl
 rw[<-hxl] at K b5 ⊢
 clear h hx ha hh a1 a2 a3 a4 a5 hs1 hxl
 go_enter Tryz.func86,Tryz.ntmps86
 go_wp2_with fail
 refine hs.mono ?_
 rintro e w ⟨rfl,rfl⟩
 go_wp2_with fail
 refine K.mono ?_
 rintro e w1 ⟨rfl,hb1⟩
 have HP1:Hid (Pb w1 g m v s ss n):=HP.out.below hb1
 have HB1:Hid (Below w.heap.size w w1):=hb1
 clear hb1 K hs b1 b2 b3 b4 b5
 go_upto_region 8 with fail
 obtain⟨W,hW⟩:∃ W,W=w1.alloc (.cells #[.int .i64 k1,.int .i64 k2] 196):=⟨_,rfl⟩
 rw[<-hW]
 have hbW:Below w1.heap.size w1 W:=by rw[hW];exact(Below.refl _ _).alloc (Nat.le_refl _) _
 have hBox:KBox W w1.heap.size (k1,k2):=by rw[hW];exact heap_alloc_new _ _
 obtain⟨B,hB⟩:∃ B,B=w1.heap.size:=⟨_,rfl⟩
 rw[<-hB] at hBox ⊢
 have hBb:Below w.heap.size w W:=HB1.out.trans (hbW.mono HB1.out.size)
 have hPW:Pb W g m v s ss n:=HP1.out.below hbW
 have HBox:Hid (KBox W B (k1,k2)):=hBox
 have HPW:Hid (Pb W g m v s ss n):=hPW
 have HBb:Hid (Below w.heap.size w W):=hBb
 clear hW hbW hBox hB hBb hPW HP1 HB1
 try simp only[List.append_eq,List.cons_append,List.nil_append]
 have c2:=HPW.out.at'.c2
 have c0:=HPW.out.at'.c0
 obtain⟨va,vcap,rfl,-⟩:=HPW.out.row.shape
 have hl:ss.length=s.L.length:=by have:=congrArg List.length HPW.out.its;simpa using this
 obtain⟨N,hN⟩:∃ N,N=ss.length:=⟨_,rfl⟩
 rw[<-hN] at c2
 have HL:Hid (ss.length=s.L.length/\N=ss.length):=⟨hl,hN⟩
 clear hl hN
 obtain⟨mo,hmo⟩:∃ mo,mo=s.most:=⟨_,rfl⟩
 rw[<-hmo] at c0
 have HMO:Hid (mo=s.most):=hmo
 clear hmo
 go_region
 go_upto_if 48 with fail
 go_cut [] (λwx=>Ready w g m (.slice va ss.length vcap) s1 (n+64) B (k1,k2) wx/\¬ (s.L.length=s.most/\cnt s.L (k1,k2)=cnt s.L (full s.L)))
 case first=>
  have hl:=HL.out.1
  have hN:=HL.out.2
  have hmo:=HMO.out
  by_cases hfull:s.L.length=s.most
  ·have g1:(N:Int)=(mo:Int):=by omega
   have c1:=HPW.out.at'.c1
   have f1:=HPW.out.at'.fz 1
   obtain⟨LO,hLO⟩:∃ LO,LO=s.lost+1:=⟨_,rfl⟩
   have e1:IntKind.i64.wrap ((s.lost:Int)+1)=(LO:Int):=by rw[IntKind.wrap_i64];omega
   have hne:s.L≠[]:=by intro e;rw[e] at hfull;have:=HPW.out.ok.lo;simp at hfull;omega
   obtain⟨W1,hW1⟩:∃ W1,W1=W.drew.setCell ⟨g,1,none⟩ (.int .i64 (LO:Int)):=⟨_,rfl⟩
   have hap1:Apart (λj=>j=g) W W1:=by rw[hW1];exact((Apart.refl (λj=>j=g) W).drew).setCell (b:=g) (.inl rfl) 1 _
   have hPd:=HPW.out.drew
   have hgm:=own_gm hPd.at' hPd.map
   have hP1:Pb W1 g m (.slice va ss.length vcap) { s with lost:=LO } ss n:=by
    refine⟨by rw[hW1];exact hPd.at'.put1 LO,HPW.out.map.keep (hap1.block m HPW.out.map.lt λe=>hgm e.symm),HPW.out.row.apart hap1 λj hj e=>own_vg hPd.at' hPd.row (e▸hj),hPd.its,HPW.out.seen.apart hap1 λj hj=>HPW.out.plain (.inl hj),⟨HPW.out.ok.lo,HPW.out.ok.hi,HPW.out.ok.len,HPW.out.ok.arg⟩⟩
   have hBg:B≠g:=by
    rintro rfl
    have h1:=HPW.out.at'
    unfold PA at h1
    have h2:=HBox.out
    unfold KBox at h2
    rw[h1] at h2
    simp at h2
   have hB1:KBox W1 B (k1,k2):=(hap1.block B HBox.out.lt hBg).trans HBox.out
   obtain⟨F,hF⟩:∃ F,F=full s.L:=⟨_,rfl⟩
   have KF:Hid (Calls Tryz.prog 129 #[.pointer (some ⟨g,0,none⟩)] W1 λe w'=>e=.returned (.agg #[.int .i64 F.1,.int .i64 F.2])/\wfK F/\Below W1.heap.size W1 w'):=by
    rw[hF]
    exact fullest_ok W1 g m _ { s with lost:=LO } ss n hP1 hne
   have HW1:Hid (W1=(W.setCell ⟨g,1,none⟩ (.int .i64 (LO:Int))).drew):=hW1
   have HP1:Hid (Pb W1 g m (.slice va ss.length vcap) { s with lost:=LO } ss n/\KBox W1 B (k1,k2)/\Apart (Own g m (.slice va ss.length vcap)) w W1):=⟨hP1,hB1,(Apart.of_below (F:=Own g m (.slice va ss.length vcap)) HBb.out).trans hap1 λi hi=>.inl (.inl hi)⟩
   have HF:Hid (F=full s.L/\s.L.length=s.most/\LO=s.lost+1/\ss.length=s.L.length):=⟨hF,hfull,hLO,hl⟩
   clear hl hN hmo hfull hLO hne hW1 hap1 hPd hgm hP1 hBg hB1 hF
   obtain⟨lo,hlo⟩:∃ lo,lo=s.lost:=⟨_,rfl⟩
   rw[<-hlo] at e1 c1 hlost
   clear hlo
   go_wp2_with fail
   rw[<-HW1.out]
   refine KF.out.mono ?_
   rintro e w2 ⟨rfl,hwf,hb2⟩
   obtain⟨W2,hW2⟩:∃ W2,W2=w2.alloc (.cells #[.int .i64 F.1,.int .i64 F.2] 196):=⟨_,rfl⟩
   have hb3:Below W1.heap.size W1 W2:=by rw[hW2];exact hb2.alloc hb2.size _
   have hP2:=HP1.out.1.below hb3
   have hB2:=HP1.out.2.1.below hb3
   have hF2:KBox W2 w2.heap.size F:=by rw[hW2];exact heap_alloc_new _ _
   have hA2:Apart (Own g m (.slice va ss.length vcap)) w W2:=HP1.out.2.2.trans (Apart.of_below (F:=λ_=>False) hb3) (λ_ h=>h.elim)
   have d3:=hP2.at'.c3
   have o0:=hB2.c0
   have o1:=hB2.c1
   have p0:=hF2.c0
   have p1:=hF2.c1
   have l1:=hP2.drew.map.look HWF.out
   have l2:=hP2.drew.map.look hwf
   obtain⟨C,hC⟩:∃ C,C=w2.heap.size:=⟨_,rfl⟩
   rw[<-hC] at p0 p1
   have HC:Hid (C=w2.heap.size):=hC
   have HW2:Hid (W2=w2.alloc (.cells #[.int .i64 F.1,.int .i64 F.2] 196)):=hW2
   have HP2:Hid (Pb W2 g m (.slice va ss.length vcap) { s with lost:=LO } ss n/\KBox W2 B (k1,k2)/\Apart (Own g m (.slice va ss.length vcap)) w W2/\wfK F):=⟨hP2,hB2,hA2,hwf⟩
   obtain⟨co,hco⟩:∃ co,co=cnt s.L (k1,k2):=⟨_,rfl⟩
   obtain⟨cf,hcf⟩:∃ cf,cf=cnt s.L F:=⟨_,rfl⟩
   rw[show cnt ({ s with lost:=LO }:Bs).L (k1,k2)=co from hco.symm] at l1
   rw[show cnt ({ s with lost:=LO }:Bs).L F=cf from hcf.symm] at l2
   have HCC:Hid (co=cnt s.L (k1,k2)/\cf=cnt s.L F):=⟨hco,hcf⟩
   simp only[keyV] at l1 l2
   have hmf:∀ (fn:Fn) (first cap:Array Value) (w:World),(Instr.makeFunc fn first cap).run Tryz.prog w=.ok (.func fn first cap) w:=λ_ _ _ _=>rfl
   clear KF hb2 hb3 hP2 hB2 hF2 hA2 hwf hC hW2 hco hcf c0 c1 c2 f1 e1 g1
   obtain⟨fa,fb⟩:=F
   dsimp only at *
   by_cases hcc:co=cf
   ·have g2:((co:Int)=(cf:Int)):=by omega
    have HE:Hid ((9:Int)=bputE s k1 k2 x/\PLeft w g m (.slice va ss.length vcap) (putV s k1 k2 x) (n+65) W2.drew):=by
     have e0:cnt s.L (k1,k2)=cnt s.L (full s.L):=by rw[<-HF.out.1,<-HCC.out.1,<-HCC.out.2];exact hcc
     refine⟨by rw[HPE.out,if_pos ⟨HF.out.2.1,e0⟩],?_⟩
     rw[HPV.out,if_pos HF.out.2.1,if_pos e0,<-HF.out.2.2.1]
     exact⟨_,ss,HP2.out.1.drew.mono (by omega),HP2.out.2.2.1.drew,λj hj=>.inl hj⟩
    clear hcc
    go_wp2_with fail
    rw[<-HW2.out,<-HC.out]
    go_region
    go_wp2
    go_ret
    exact⟨by rw[<-HE.out.1];rfl,HE.out.2⟩
   ·have g2:¬ ((co:Int)=(cf:Int)):=by omega
    have KT:Hid (Calls Tryz.prog 130 #[.pointer (some ⟨g,0,none⟩),.int .i64 1,.func (.func 131) #[.agg #[.int .i64 fa,.int .i64 fb]] #[]] W2.drew λe w'=>∃ vo,e=.returned vo/\Ready w g m (.slice va ss.length vcap) s1 (n+64) B (k1,k2) w'):=by
     refine(takeOut_ok W2.drew g m _ { s with lost:=LO } ss n HP2.out.1.drew (by omega) 1 (by omega) (isK (fa,fb)) (λj=>decide (j=(fa,fb))) (λ_=>rfl) 131 (keyV (fa,fb)) call25 (λW j hj=>is_ok W (fa,fb) j HP2.out.2.2.2 hj)).mono ?_
     rintro e w' ⟨vo,rfl,v',ss',os,h1,h2,h3,h4,h5,h6,h7⟩
     refine⟨vo,rfl,v',ss',?_,?_,HP2.out.2.2.1.drew.trans h6 (λi hi=>.inl hi),λj hj=>.inl (by rw[<-h2];exact hj)⟩
     ·rw[HS1.out,if_pos HF.out.2.1,<-HF.out.1,<-HF.out.2.2.1];exact h1
     ·refine(h6.block B HP2.out.2.1.lt λhO=>?_).trans HP2.out.2.1
      have hp:=HP2.out.2.1
      unfold KBox at hp
      rcases hO with rfl|rfl|hO
      ·have h8:=HP2.out.1.at'
       unfold PA at h8
       rw[h8] at hp;simp at hp
      ·obtain⟨es,cl,h8⟩:=HP2.out.1.map.isMap
       rw[h8] at hp;cases hp
      ·obtain⟨cur,h8,_⟩:=HP2.out.1.row.isRow hO
       rw[h8] at hp;cases hp
    have HNF:Hid (¬ (s.L.length=s.most/\cnt s.L (k1,k2)=cnt s.L (full s.L))):=λh=>hcc (by rw[HCC.out.1,HCC.out.2,HF.out.1];exact h.2)
    clear hcc
    go_wp2_with fail
    rw[<-HW2.out,<-HC.out]
    go_region
    go_wp2_with fail
    refine KT.out.mono ?_
    rintro e w3 ⟨vo,rfl,hR⟩
    have HR:Hid (Ready w g m (.slice va ss.length vcap) s1 (n+64) B (k1,k2) w3):=hR
    clear hR KT l1 l2
    go_wp2_with fail
    go_meet
    case rel=>exact⟨HR.out,HNF.out⟩
  ·have g1:¬ ((N:Int)=(mo:Int)):=by omega
   have HNF:Hid (¬ (s.L.length=s.most/\cnt s.L (k1,k2)=cnt s.L (full s.L))):=λh=>hfull h.1
   have HR:Hid (Ready w g m (.slice va ss.length vcap) s1 (n+64) B (k1,k2) W.drew):=by
    rw[show s1=s from by rw[HS1.out,if_neg hfull]]
    exact⟨_,ss,HPW.out.drew.mono (by omega),HBox.out,Apart.of_below HBb.out.drew,λj hj=>.inl hj⟩
   clear hl hN hfull hmo
   go_wp2_with fail
   go_meet
   case rel=>exact⟨HR.out,HNF.out⟩
 case rest=>
 clear c2 c0
 obtain⟨⟨v',ss',hP,hBx,hAp,hvn⟩,hne⟩:=hcut
 have HNE:Hid (¬ (s.L.length=s.most/\cnt s.L (k1,k2)=cnt s.L (full s.L))):=hne
 clear hne
 obtain⟨a,cap,rfl,_⟩:=hP.row.shape
 obtain⟨l,hl⟩:∃ l,l=ss'.length:=⟨_,rfl⟩
 rw[<-hl] at hP hvn
 have HSD:Hid (wc.drew.cell? ⟨B,0,none⟩=some (.int .i64 k1)/\wc.drew.cell? ⟨B,1,none⟩=some (.int .i64 k2)):=⟨hBx.c0,hBx.c1⟩
 have c2:=hP.at'.c2
 have hxs:Sees wc xa xc x:=HX.out.1.apart hAp λj hj=>HP.out.plain hj
 have KC:Hid (Calls Tryz.prog 21 #[.slice xa xl xc] wc.drew λe w7=>∃ d cd a' l' c' W10,e=.returned (.slice d xl cd)/\(Builtin.append_ #[120,120] 120 #[.slice a l cap,.slice (some ⟨w7.heap.size,0,none⟩) 1 1]).run Tryz.prog (w7.alloc (.cells #[.int .i64 k1,.int .i64 k2,.slice d xl cd] 201))=.ok (.slice a' l' c') W10 /\
   w7.cell? ⟨g,2,none⟩=some (.slice a l cap)/\(w7.cell? ⟨B,0,none⟩=some (.int .i64 k1)/\w7.cell? ⟨B,1,none⟩=some (.int .i64 k2)) /\
   (w7.alloc (.cells #[.int .i64 k1,.int .i64 k2,.slice d xl cd] 201)).cell? ⟨g,2,none⟩=some (.slice a l cap)/\((w7.alloc (.cells #[.int .i64 k1,.int .i64 k2,.slice d xl cd] 201)).cell? ⟨B,0,none⟩=some (.int .i64 k1)/\(w7.alloc (.cells #[.int .i64 k1,.int .i64 k2,.slice d xl cd] 201)).cell? ⟨B,1,none⟩=some (.int .i64 k2)) /\
   W10.cell? ⟨g,2,none⟩=some (.slice a l cap)/\W10.frozen? ⟨g,2,none⟩=false/\(W10.cell? ⟨B,0,none⟩=some (.int .i64 k1)/\W10.cell? ⟨B,1,none⟩=some (.int .i64 k2)) /\
   ((W10.setCell ⟨g,2,none⟩ (.slice a' l' c')).cell? ⟨B,0,none⟩=some (.int .i64 k1)/\(W10.setCell ⟨g,2,none⟩ (.slice a' l' c')).cell? ⟨B,1,none⟩=some (.int .i64 k2)) /\
   Half w g m (.slice va ss.length vcap) s1 (n+64) B (k1,k2) x (W10.setCell ⟨g,2,none⟩ (.slice a' l' c'))):=by
  have h0:=clone_ok wc.drew xa xc x (hxs.drewN 1) (by have:=HX.out.2;omega)
  rw[<-HXL.out] at h0
  refine Calls.mono h0 ?_
  rintro e w7 ⟨d,cd,rfl,h1,h2⟩
  obtain⟨a',l',c',W10,h3⟩:=Ready.put hP.drew hBx hAp.drew hvn h2 h1
  rw[<-HXL.out] at h3
  exact⟨d,cd,a',l',c',W10,rfl,h3⟩
 clear hP hBx hAp hvn hxs hl
 go_upto_region 14 with fail
 go_cut [] (λwx=>Half w g m (.slice va ss.length vcap) s1 (n+64) B (k1,k2) x wx)
 case first=>
  refine wp_region_noPanic ?_
  refine wp_region_held (S:=λV=>V.cell? ⟨B,0,none⟩=some (.int .i64 k1)/\V.cell? ⟨B,1,none⟩=some (.int .i64 k2)) (by kernel_rfl) ?_
  have hS:=HSD.out
  refine tk 0 hS ?_
  refine tk 1 hS ?_
  refine tk 2 hS ?_
  refine tk 3 hS ?_
  refine tk 5 hS ?_
  refine tk 6 hS ?_
  refine any_two 4 7 rfl rfl (by kernel_rfl) (by rfl) (by rfl) (λK hK=>?_) (λK hK=>?_)
  ·clear hS
   go_simp
   refine hK.out _ _ (by first|exact HSD.out|exact y2|exact y4) (λhS=>?_)
   clear hK
   (try simp only[Act.put,sT])
   refine any_one 7 rfl (by kernel_rfl) (by rfl) (λK hK=>?_)
   clear hS
   go_simp
   refine KC.out.mono ?_
   rintro e w7 ⟨d,cd,a',l',c',W10,rfl,hrun,y1,y2,y3,y4,y5,y6,y7,y8,hH⟩
   have HRN:Hid ((Builtin.append_ #[120,120] 120 #[.slice a l cap,.slice (some ⟨w7.heap.size,0,none⟩) 1 1]).run Tryz.prog (w7.alloc (.cells #[.int .i64 k1,.int .i64 k2,.slice d xl cd] 201))=.ok (.slice a' l' c') W10):=hrun
   clear hrun
   refine hK.out _ _ (y2) (λhS=>?_)
   clear hK
   (try simp only[Act.put,sT])
   refine tk 8 hS ?_
   refine any_one 9 rfl (by kernel_rfl) (by rfl) (λK hK=>?_)
   clear hS
   go_simp
   refine hK.out _ _ (y4) (λhS=>?_)
   clear hK
   (try simp only[Act.put,sT])
   refine any_one 10 rfl (by kernel_rfl) (by rfl) (λK hK=>?_)
   clear hS
   refine op_append_run (.tmp 79) (.tmp 84) 120 (by kernel_rfl) (.slice a l cap) (.slice (some ⟨w7.heap.size,0,none⟩) 1 1) _ (by kernel_rfl) (by kernel_rfl) HRN.out ?_
   refine hK.out _ _ (y7) (λhS=>?_)
   clear hK
   (try simp only[Act.put,sT])
   refine tk 11 hS ?_
   refine tk 12 hS ?_
   refine any_one 13 rfl (by kernel_rfl) (by rfl) (λK hK=>?_)
   clear hS
   go_simp
   refine hK.out _ _ (y8) (λhS=>?_)
   clear hK
   (try simp only[Act.put,sT])
   refine wpAnyH_done (by kernel_rfl) ?_ _
   refine NoPanic.normal ?_
   go_wp2_with fail
   go_meet
   case rel=>exact hH
  ·clear hS
   go_simp
   refine KC.out.mono ?_
   rintro e w7 ⟨d,cd,a',l',c',W10,rfl,hrun,y1,y2,y3,y4,y5,y6,y7,y8,hH⟩
   have HRN:Hid ((Builtin.append_ #[120,120] 120 #[.slice a l cap,.slice (some ⟨w7.heap.size,0,none⟩) 1 1]).run Tryz.prog (w7.alloc (.cells #[.int .i64 k1,.int .i64 k2,.slice d xl cd] 201))=.ok (.slice a' l' c') W10):=hrun
   clear hrun
   refine hK.out _ _ (y2) (λhS=>?_)
   clear hK
   (try simp only[Act.put,sT])
   refine tk 8 hS ?_
   refine any_two 4 9 rfl rfl (by kernel_rfl) (by rfl) (by rfl) (λK hK=>?_) (λK hK=>?_)
   ·clear hS
    go_simp
    refine hK.out _ _ (by first|exact HSD.out|exact y2|exact y4) (λhS=>?_)
    clear hK
    (try simp only[Act.put,sT])
    refine any_one 9 rfl (by kernel_rfl) (by rfl) (λK hK=>?_)
    clear hS
    go_simp
    refine hK.out _ _ (y4) (λhS=>?_)
    clear hK
    (try simp only[Act.put,sT])
    refine any_one 10 rfl (by kernel_rfl) (by rfl) (λK hK=>?_)
    clear hS
    refine op_append_run (.tmp 79) (.tmp 84) 120 (by kernel_rfl) (.slice a l cap) (.slice (some ⟨w7.heap.size,0,none⟩) 1 1) _ (by kernel_rfl) (by kernel_rfl) HRN.out ?_
    refine hK.out _ _ (y7) (λhS=>?_)
    clear hK
    (try simp only[Act.put,sT])
    refine tk 11 hS ?_
    refine tk 12 hS ?_
    refine any_one 13 rfl (by kernel_rfl) (by rfl) (λK hK=>?_)
    clear hS
    go_simp
    refine hK.out _ _ (y8) (λhS=>?_)
    clear hK
    (try simp only[Act.put,sT])
    refine wpAnyH_done (by kernel_rfl) ?_ _
    refine NoPanic.normal ?_
    go_wp2_with fail
    go_meet
    case rel=>exact hH
   ·clear hS
    go_simp
    refine hK.out _ _ (y4) (λhS=>?_)
    clear hK
    (try simp only[Act.put,sT])
    refine any_one 4 rfl (by kernel_rfl) (by rfl) (λK hK=>?_)
    clear hS
    go_simp
    refine hK.out _ _ (by first|exact HSD.out|exact y2|exact y4) (λhS=>?_)
    clear hK
    (try simp only[Act.put,sT])
    refine any_one 10 rfl (by kernel_rfl) (by rfl) (λK hK=>?_)
    clear hS
    refine op_append_run (.tmp 79) (.tmp 84) 120 (by kernel_rfl) (.slice a l cap) (.slice (some ⟨w7.heap.size,0,none⟩) 1 1) _ (by kernel_rfl) (by kernel_rfl) HRN.out ?_
    refine hK.out _ _ (y7) (λhS=>?_)
    clear hK
    (try simp only[Act.put,sT])
    refine tk 11 hS ?_
    refine tk 12 hS ?_
    refine any_one 13 rfl (by kernel_rfl) (by rfl) (λK hK=>?_)
    clear hS
    go_simp
    refine hK.out _ _ (y8) (λhS=>?_)
    clear hK
    (try simp only[Act.put,sT])
    refine wpAnyH_done (by kernel_rfl) ?_ _
    refine NoPanic.normal ?_
    go_wp2_with fail
    go_meet
    case rel=>exact hH
 case rest=>
 clear KC HSD c2
 rename World=>wd
 have hH:=hcut
 obtain⟨v',ss',hPA,hM,hR,hits,hseen,hBx,hAp,hvn⟩:=hcut
 have hMd:MapAt wd.drew m (n+64) (cnt s1.L):=hM.keep rfl
 have hmax:(90000000:Nat)<maxLen:=by decide
 obtain⟨v0,st,W1,he,hM1,ha1,hs1,hst⟩:=hMd.entry (by omega) HWF.out
 have hcl:cnt s1.L (k1,k2)<=64:=by
  have h1:=cnt_le s1.L (k1,k2)
  have h2:s1.L.length<=s.L.length:=by
   rw[HS1.out]
   split
   ·have:=(split_len (isK (full s.L)) 1 s.L).1;simp only[];omega
   ·exact Nat.le_refl _
  have h3:=HP.out.ok.len
  have h4:=HP.out.ok.hi
  omega
 obtain⟨co,hco⟩:∃ co,co=cnt s1.L (k1,k2):=⟨_,rfl⟩
 obtain⟨c,hc⟩:∃ c,c=cnt s1.L (k1,k2)+1:=⟨_,rfl⟩
 obtain⟨W3,hs3,hM3,ha3,hsz3⟩:=hst W1 c (inI_wf (by omega) (by omega)) rfl
 have hl0:=hMd.look HWF.out
 have hl1:=hM1.look HWF.out
 rw[<-hco] at hl0 hl1
 have hgm:=own_gm hPA hM
 have hBm:B≠m:=by
  rintro rfl
  obtain⟨es,cl,h8⟩:=hM.isMap
  unfold KBox at hBx
  rw[h8] at hBx;cases hBx
 have c3:wd.drew.cell? ⟨g,3,none⟩=some (.map (some m)):=hPA.c3
 have o0:wd.drew.cell? ⟨B,0,none⟩=some (.int .i64 k1):=hBx.c0
 have o1:wd.drew.cell? ⟨B,1,none⟩=some (.int .i64 k2):=hBx.c1
 have c31:=ha1.cell c3 hgm
 have o01:=ha1.cell o0 hBm
 have o11:=ha1.cell o1 hBm
 have c33:=ha3.cell c31 hgm
 have o03:=ha3.cell o01 hBm
 have o13:=ha3.cell o11 hBm
 have hB1:B<wd.drew.heap.size:=hBx.lt
 have e1:IntKind.i64.wrap ((co:Int)+1)=(c:Int):=by rw[IntKind.wrap_i64];omega
 have HE:Hid ((0:Int)=bputE s k1 k2 x/\PLeft w g m (.slice va ss.length vcap) (putV s k1 k2 x) (n+65) W3):=by
  have hne:¬ (s.L.length=s.most/\cnt s.L (k1,k2)=cnt s.L (full s.L)):=HNE.out
  refine⟨by rw[HPE.out,if_neg hne],?_⟩
  have e2:putV s k1 k2 x={ s1 with L:=s1.L++[⟨k1,k2,x⟩] }:=by
   rw[HPV.out,HS1.out]
   by_cases hf:s.L.length=s.most
   ·rw[if_pos hf,if_pos hf,if_neg λe=>hne ⟨hf,e⟩]
   ·rw[if_neg hf,if_neg hf]
  have hok:=HOK.out
  rw[e2] at hok ⊢
  rw[hc] at hM3
  exact Half.done hH hok hM3 (((Apart.refl (λj=>j=m) wd).drew.trans ha1 λi hi=>.inl hi).trans ha3 λi hi=>.inl hi)
 have HCC:Hid (co=cnt s1.L (k1,k2)/\c=cnt s1.L (k1,k2)+1):=⟨hco,hc⟩
 simp only[keyV] at he hl0 hl1
 clear hH hPA hM hR hits hseen hBx hAp hvn hMd hM1 hM3 hst ha1 ha3 hs1 hsz3 hgm hBm hB1 hcl hco hc hmax
 go_upto_region 15 with fail
 go_region
 go_wp2
 go_ret
 exact⟨by rw[<-HE.out.1];rfl,HE.out.2⟩
theorem bput_any (w:World)(g m:Nat)(v:Value)(s:Bs)(ss:List BSl)(n:Nat)(h:Pb w g m v s ss n)(hn:n<=80000000)(hlost:s.lost<=1000000)(k1 k2:Int)(xa:Option Addr)(xc:Nat)(x:List UInt8)(hx:Sees w xa xc x):
  Calls Tryz.prog 86 #[.pointer (some ⟨g,0,none⟩),.int .i64 k1,.int .i64 k2,.slice xa x.length xc] w λe w'=>e=.returned (.int .i64 (bputE s k1 k2 x))/\PLeft w g m v (putV s k1 k2 x) (n+65) w':=by
 cases ha:argB k1 k2 x
 ·refine(put_refused w g m h.at'.c3 k1 k2 xa xc x ha).mono ?_
  rintro e w' ⟨rfl,rfl⟩
  rw[bputE,putV,if_pos ha,if_pos ha]
  exact⟨rfl,PLeft.refl h (Below.refl _ _) (by omega)⟩
 ·cases hh:heldB s.L x
  ·exact put_goes w g m v s ss n h hn hlost k1 k2 xa xc x hx ha hh
  ·refine(put_held w g m v s ss n h k1 k2 xa xc x hx ha hh).mono ?_
   rintro e w' ⟨rfl,hb⟩
   have e1:bputE s k1 k2 x=4:=by simp[bputE,ha,hh]
   have e2:putV s k1 k2 x=s:=by simp[putV,ha,hh]
   rw[e1,e2]
   exact⟨rfl,PLeft.refl h hb (by omega)⟩
end Go.Proofs.YthogohkieiogiaaGreatDoor
