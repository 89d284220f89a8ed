/- A helper. -/
import Derived.Test.YtmffplhaclnehaaGreatDoorBufH
import Derived.Deep.DeepCutAuto
namespace Go.Proofs.YtmffplhaclnehaaGreatDoor
set_option maxRecDepth 20000
set_option maxHeartbeats 6400000
open Go.ChangeShapes Go.WideShapes Go.ChangeAt Go.RowKit
variable {w W:World} {g m:Nat}
theorem mh {P:Program}{w':World}{o:Oper}{a:Act}{K:Act->World->Prop}{Q:Exit->Act->World->Prop}(s x:Operand)(t:TypeId)(ho:o.op=.call { callee:=.builtin .append,args:=#[s,x],argTypes:=#[t,t] })(v u r:Value)(hs:a.eval s=v)(hx:a.eval x=u)(hrun:(Builtin.append_ #[t,t] o.type #[v,u]).run P w=.ok r w')(h:K (a.put o.dst r) w'):Oper.wp P o a w K Q:=by
 unfold Oper.wp execOp
 simp only[ho,resolve,invoke,builtin,Sem.run_bind,Sem.run_pure,Result.andThen_ok,List.map_toArray,List.map_cons,List.map_nil,hs,hx,hrun]
 exact h
def Ready (w:World)(g m:Nat)(v0:Value)(s1:Bs)(n1 B:Nat)(k:Key)(W:World):Prop:=
 ∃ v' ss',Pb W g m v' s1 ss' n1/\dQ W B k/\Apart (Own g m v0) w W/\(∀ j,v'.ownBlock=some j->v0.ownBlock=some j\/w.heap.size<=j)
def Half (w:World)(g m:Nat)(v0:Value)(s1:Bs)(n1 B:Nat)(k:Key)(x:List UInt8)(W:World):Prop:=
 ∃ v' ss',PA W g s1.most s1.lost v' m/\MapAt W m n1 (cnt s1.L)/\Row oo W v' ss'/\ss'.map Prod.fst=s1.L++[⟨k.1,k.2,x⟩]/\kK W ss'/\dQ W B k/\Apart (Own g m v0) w W/\∀ j,v'.ownBlock=some j->v0.ownBlock=some j\/w.heap.size<=j
theorem eZ.refl {v:Value}{s:Bs}{ss:List eU}{n:Nat}(h:Pb w g m v s ss n)(hb:Below w.heap.size w W){n':Nat}(hn:n<=n'):eZ w g m v s n' W:=
 ⟨v,ss,(h.below hb).mono hn,Apart.of_below hb,λ_ hk=>.inl hk⟩
theorem Half.done {v0:Value}{s1:Bs}{n1 B:Nat}{k:Key}{x:List UInt8}{W':World}(h:Half w g m v0 s1 n1 B k x W)(hok:Bs.ok { s1 with L:=s1.L++[⟨k.1,k.2,x⟩] })(hm:MapAt W' m (n1+1) (λj=>if j=k then cnt s1.L k+1 else cnt s1.L j))(ha:Apart (λj=>j=m) W W'):eZ w g m v0 { s1 with L:=s1.L++[⟨k.1,k.2,x⟩] } (n1+1) W':=by
 obtain⟨v',ss',h1,h2,h3,h4,h5,h6,h7,h8⟩:=h
 refine⟨v',ss',⟨h1.keep (ha.block g h1.lt (tY h1 h2)),?_,h3.apart ha λj hj e=>zZ h2 h3 (e▸hj),h4,h5.apart ha λj hj=>hj▸h2.plain,hok⟩,h7.trans ha λi hi=>.inl (.inr (.inl hi)),h8⟩
 refine hm.congr λj=>?_
 show _=cnt (s1.L++[⟨k.1,k.2,x⟩]) j
 rw[qR,zN]
 have e:(It.k ⟨k.1,k.2,x⟩:Key)=k:=rfl
 rw[e]
 by_cases hj:j=k
 ·subst hj;simp
 ·rw[if_neg hj,if_neg (λe=>hj e.symm)];rfl
theorem Ready.put {v0:Value}{s1:Bs}{n1 B:Nat}{k:Key}{a:Option Addr}{l cap:Nat}{ss:List eU}(hP:Pb W g m (.slice a l cap) s1 ss n1)(hB:dQ W B k)(hA:Apart (Own g m v0) w W)(hv:∀ j,(Value.slice a l cap).ownBlock=some j->v0.ownBlock=some j\/w.heap.size<=j){w7:World}(hb:Below W.heap.size W w7){d:Option Addr}{cd:Nat}{x:List UInt8}(hs:ag w7 d cd x):
  ∃ a' l' c' qy , (Builtin.append_ #[128, 128] 128 #[.slice a l cap, .slice (some ⟨w7.heap.size, 0, none⟩) 1 1]).run Tryz.prog (w7.alloc (.cells #[.int .i64 k.1, .int .i64 k.2, .slice d x.length cd] 199)) = .ok (.slice a' l' c') qy  ∧
    w7.cell? ⟨g, 2, none⟩ = some (.slice a l cap) ∧ (w7.cell? ⟨B, 0, none⟩ = some (.int .i64 k.1) ∧ w7.cell? ⟨B, 1, none⟩ = some (.int .i64 k.2)) ∧
    (w7.alloc (.cells #[.int .i64 k.1, .int .i64 k.2, .slice d x.length cd] 199)).cell? ⟨g, 2, none⟩ = some (.slice a l cap) ∧ ((w7.alloc (.cells #[.int .i64 k.1, .int .i64 k.2, .slice d x.length cd] 199)).cell? ⟨B, 0, none⟩ = some (.int .i64 k.1) ∧ (w7.alloc (.cells #[.int .i64 k.1, .int .i64 k.2, .slice d x.length cd] 199)).cell? ⟨B, 1, none⟩ = some (.int .i64 k.2)) ∧
    qy.cell? ⟨g, 2, none⟩ = some (.slice a l cap) ∧ qy.frozen? ⟨g, 2, none⟩ = false ∧ (qy.cell? ⟨B, 0, none⟩ = some (.int .i64 k.1) ∧ qy.cell? ⟨B, 1, none⟩ = some (.int .i64 k.2)) ∧
    ((qy.setCell ⟨g, 2, none⟩ (.slice a' l' c')).cell? ⟨B, 0, none⟩ = some (.int .i64 k.1) ∧ (qy.setCell ⟨g, 2, none⟩ (.slice a' l' c')).cell? ⟨B, 1, none⟩ = some (.int .i64 k.2)) ∧
    Half w g m v0 s1 n1 B k x (qy.setCell ⟨g, 2, none⟩ (.slice a' l' c')) := by
 have hP7:=hP.below hb
 have hB7:=hB.below hb
 obtain⟨W9,hW9⟩:=ai (w7.alloc (.cells #[.int .i64 k.1,.int .i64 k.2,.slice d x.length cd] 199))
 have yI:Below w7.heap.size w7 W9:=by rw[hW9];exact(Below.refl _ _).alloc (Nat.le_refl _) _
 have r9:W9.heap[w7.heap.size]?=some (.cells #[.int .i64 k.1,.int .i64 k.2,.slice d x.length cd] 199 (0,0)):=by rw[hW9];exact heap_alloc_new _ _
 rw[<-hW9]
 have Ed:=hP7.below yI
 have BL:=hB7.below yI
 have Wi:=hs.below yI
 have hlen:ss.length<=64:=by have:=hP.ok.len;have:=hP.ok.hi;have:=congrArg List.length hP.its;simp at this;omega
 obtain⟨v10,qy,hrun,hrow,hap,hnew⟩:=Ed.row.append [((⟨k.1,k.2,x⟩:It),(d,cd))] (by simp;omega) (some ⟨w7.heap.size,0,none⟩) 1 (λ_=>⟨w7.heap.size,0,rfl,λt u hu=>by
  rw[show oo.cs [((⟨k.1,k.2,x⟩:It),(d,cd))]=[.int .i64 k.1,.int .i64 k.2,.slice d x.length cd] from rfl] at hu
  rw[cell_of_row _ _ (0+t) _ _ _ r9,Nat.zero_add,<-Array.getElem?_toList];exact hu⟩)
 obtain⟨a',c',rfl,_⟩:=hrow.shape
 have hgv:(Value.slice a l cap).ownBlock≠some g:=zY Ed.at' Ed.row
 have hBv:(Value.slice a l cap).ownBlock≠some B:=by
  intro e
  obtain⟨cur,h1,_⟩:=Ed.row.isRow e
  unfold dQ at BL
  rw[h1] at BL;cases BL
 have hgB:B≠g:=by
  rintro rfl
  have h1:=Ed.at'
  unfold PA at h1
  unfold dQ at BL
  rw[h1] at BL
  simp at BL
 have Qn:PA qy g s1.most s1.lost (.slice a l cap) m:=Ed.at'.keep (hap.block g Ed.at'.lt hgv)
 have TW:dQ qy B k:=(hap.block B BL.lt hBv).trans BL
 have TY:dQ (qy.setCell ⟨g,2,none⟩ (.slice a' (ss++[((⟨k.1,k.2,x⟩:It),(d,cd))]).length c')) B k:=by
  unfold dQ
  rw[heap_setCell_other _ _ _ _ hgB];exact TW
 have T9:MapAt qy m n1 (cnt s1.L):=Ed.map.keep (hap.block m Ed.map.lt (zZ Ed.map Ed.row))
 have YI:(Value.slice a' (ss++[((⟨k.1,k.2,x⟩:It),(d,cd))]).length c').ownBlock≠some g:=λe=>by
  rcases hnew g e with h1|h1
  ·exact hgv h1
  ·have:=Ed.at'.lt;omega
 have hag:Apart (λj=>j=g) qy (qy.setCell ⟨g,2,none⟩ (.slice a' (ss++[((⟨k.1,k.2,x⟩:It),(d,cd))]).length c')):=(Apart.refl (λj=>j=g) qy).setCell (b:=g) (.inl rfl) 2 _
 have Mj:kK qy (ss++[((⟨k.1,k.2,x⟩:It),(d,cd))]):=by
  have h1:kK W9 (ss++[((⟨k.1,k.2,x⟩:It),(d,cd))]):=λy hy=>by
   rcases List.mem_append.1 hy with hy|hy
   ·exact Ed.seen y hy
   ·rw[List.mem_singleton] at hy;subst hy;exact Wi
  exact h1.apart hap λj hj=>Ed.row.plain hj
 have hsz:w.heap.size<=W9.heap.size:=Nat.le_trans hA.size (Nat.le_trans hb.size yI.size)
 refine⟨a',_,c',qy,hrun,hP7.at'.c2,⟨hB7.c0,hB7.c1⟩,Ed.at'.c2,⟨BL.c0,BL.c1⟩,Qn.c2,Qn.fz 2,⟨TW.c0,TW.c1⟩,⟨TY.c0,TY.c1⟩,?_⟩
 refine⟨_,ss++[((⟨k.1,k.2,x⟩:It),(d,cd))],Qn.PU _,T9.keep (hag.block m T9.lt λe=>tY Qn T9 e.symm),hrow.apart hag λj hj e=>YI (e▸hj),by rw[List.map_append,hP.its];rfl,Mj.apart hag λj hj=>hj▸Qn.plain (λk y e=>by cases e),TY,?_,λj hj=>?_⟩
 ·have h1:Apart (Own g m v0) w W9:=(hA.trans (Apart.of_below (F:=λ_=>False) hb) (λ_ h=>h.elim)).trans (Apart.of_below (F:=λ_=>False) yI) (λ_ h=>h.elim)
  have h2:Apart (Own g m v0) w qy:=h1.trans hap λi hi=>by
   rcases hv i hi with h|h
   ·exact .inl (.inr (.inr h))
   ·exact .inr h
  exact h2.trans hag λi hi=>.inl (.inl hi)
 ·rcases hnew j hj with h|h
  ·exact hv j h
  ·exact .inr (by omega)
theorem BM (w:World)(g m:Nat)(c3:w.cell? ⟨g,3,none⟩=some (.map (some m)))(k1 k2:Int)(xa:Option Addr)(xc:Nat)(x:List UInt8)(ha:qW k1 k2 x=false):
  Calls Tryz.prog 76 #[.pointer (some ⟨g,0,none⟩),.int .i64 k1,.int .i64 k2,.slice xa x.length xc] w λe w'=>e=.returned (.int .i64 1)/\w'=w:=by
 have hs:=qp w g m c3
 have hno:¬ (0<=k1/\k1<=65535/\1<=k2/\k2<=256/\x.length<=96):=λh=>by rw[kM.2 h] at ha;cases ha
 clear ha c3
 go_enter Tryz.func76,Tryz.ntmps76
 go_wp2_with fail
 refine hs.mono ?_
 rintro e w ⟨rfl,rfl⟩
 by_cases h1:k1<0
 ·clear hno
  go_wp2
  go_ret
  exact⟨rfl,rfl⟩
 ·by_cases h2:65535<k1
  ·clear hno
   go_wp2
   go_ret
   exact⟨rfl,rfl⟩
  ·by_cases h3:k2<1
   ·clear hno
    go_wp2
    go_ret
    exact⟨rfl,rfl⟩
   ·by_cases h4:256<k2
    ·clear hno
     go_wp2
     go_ret
     exact⟨rfl,rfl⟩
    ·have h5:96<(x.length:Int):=by omega
     clear hno
     go_wp2
     go_ret
     exact⟨rfl,rfl⟩
theorem Mk (w:World)(g m:Nat)(v:Value)(s:Bs)(ss:List eU)(n:Nat)(h:Pb w g m v s ss n)(k1 k2:Int)(xa:Option Addr)(xc:Nat)(x:List UInt8)(hx:ag w xa xc x)(ha:qW k1 k2 x=true)(hh:mV s.L x=true):
  Calls Tryz.prog 76 #[.pointer (some ⟨g,0,none⟩),.int .i64 k1,.int .i64 k2,.slice xa x.length xc] w λe w'=>e=.returned (.int .i64 4)/\Below w.heap.size w w':=by
 have hs:=qp w g m h.at'.c3
 have K:=BK w g m v s ss n h xa xc x hx
 rw[hh] at K
 obtain⟨a1,a2,a3,a4,a5⟩:=kM.1 ha
 have b1:¬ (k1<0):=by omega
 have b2:¬ (65535<k1):=by omega
 have b3:¬ (k2<1):=by omega
 have b4:¬ (256<k2):=by omega
 have b5:¬ (96<(x.length:Int)):=by omega
 clear h hx ha hh a1 a2 a3 a4 a5
 go_enter Tryz.func76,Tryz.ntmps76
 go_wp2_with fail
 refine hs.mono ?_
 rintro e w ⟨rfl,rfl⟩
 go_wp2_with fail
 refine K.mono ?_
 rintro e w' ⟨rfl,hb⟩
 go_wp2
 go_ret
 exact⟨rfl,hb⟩
theorem Ml (w:World)(g m:Nat)(v:Value)(s:Bs)(ss:List eU)(n:Nat)(h:Pb w g m v s ss n)(hn:n<=80000000)(vR:s.lost<=1000000)(k1 k2:Int)(xa:Option Addr)(xc:Nat)(x:List UInt8)(hx:ag w xa xc x)(ha:qW k1 k2 x=true)(hh:mV s.L x=false):
  Calls Tryz.prog 76 #[.pointer (some ⟨g,0,none⟩),.int .i64 k1,.int .i64 k2,.slice xa x.length xc] w λe w'=>e=.returned (.int .i64 (fT s k1 k2 x))/\eZ w g m v (gm s k1 k2 x) (n+65) w':=by
 have hs:=qp w g m h.at'.c3
 have K:=BK w g m v s ss n h xa xc x hx
 rw[hh] at K
 obtain⟨a1,a2,a3,a4,a5⟩:=kM.1 ha
 have b1:¬ (k1<0):=by omega
 have b2:¬ (65535<k1):=by omega
 have b3:¬ (k2<1):=by omega
 have b4:¬ (256<k2):=by omega
 have b5:¬ (96<(x.length:Int)):=by omega
 have Vu:Hid (uJ (k1,k2)):=⟨oZ (x:=k1) (by omega) (by omega),oZ (x:=k2) (by omega) (by omega)⟩
 have HP:Hid (Pb w g m v s ss n):=h
 have HX:Hid (ag w xa xc x/\x.length<=96):=⟨hx,a5⟩
 have oG:Hid ((gm s k1 k2 x).ok):=zT h.ok k1 k2 x
 have Vo:Hid (fT s k1 k2 x=if s.L.length=s.most/\cnt s.L (k1,k2)=cnt s.L (full s.L) then 9 else 0):=by show fT s k1 k2 x=_;rw[fT,if_neg (by rw[ha];simp),if_neg (by rw[hh];simp)]
 have Vp:Hid (gm s k1 k2 x=if s.L.length=s.most then (if cnt s.L (k1,k2)=cnt s.L (full s.L) then { s with lost:=s.lost+1 } else { s with lost:=s.lost+1,L:=(split (isK (full s.L)) 1 s.L).2++[⟨k1,k2,x⟩] }) else { s with L:=s.L++[⟨k1,k2,x⟩] }):=by show gm s k1 k2 x=_;rw[gm,if_neg (by rw[ha];simp),if_neg (by rw[hh];simp)]
 obtain⟨s1,hs1⟩:=ai (if s.L.length=s.most then { s with lost:=s.lost+1,L:=(split (isK (full s.L)) 1 s.L).2 } else s:Bs)
 have Dw:Hid (s1=if s.L.length=s.most then { s with lost:=s.lost+1,L:=(split (isK (full s.L)) 1 s.L).2 } else s):=hs1
 obtain⟨xl,hxl⟩:=ai x.length
 have VM:Hid (xl=x.length):=hxl
 rw[<-hxl] at K b5 ⊢
 clear h hx ha hh a1 a2 a3 a4 a5 hs1 hxl
 go_enter Tryz.func76,Tryz.ntmps76
 go_wp2_with fail
 refine hs.mono ?_
 rintro e w ⟨rfl,rfl⟩
 go_wp2_with fail
 refine K.mono ?_
 rintro e w1 ⟨rfl,hb1⟩
 have Vw:Hid (Pb w1 g m v s ss n):=HP.out.below hb1
 have HB1:Hid (Below w.heap.size w w1):=hb1
 clear hb1 K hs b1 b2 b3 b4 b5
 go_upto_region 8 with fail
 obtain⟨W,hW⟩:=ai (w1.alloc (.cells #[.int .i64 k1,.int .i64 k2] 194))
 rw[<-hW]
 have hbW:Below w1.heap.size w1 W:=by rw[hW];exact(Below.refl _ _).alloc (Nat.le_refl _) _
 have Ua:dQ W w1.heap.size (k1,k2):=by rw[hW];exact heap_alloc_new _ _
 obtain⟨B,hB⟩:=ai w1.heap.size
 rw[<-hB] at Ua ⊢
 have hBb:Below w.heap.size w W:=HB1.out.trans (hbW.mono HB1.out.size)
 have hPW:Pb W g m v s ss n:=Vw.out.below hbW
 have Qo:Hid (dQ W B (k1,k2)):=Ua
 have Aa:Hid (Pb W g m v s ss n):=hPW
 have HBb:Hid (Below w.heap.size w W):=hBb
 clear hW hbW Ua hB hBb hPW Vw HB1
 try simp only[List.append_eq,List.cons_append,List.nil_append]
 have c2:=Aa.out.at'.c2
 have c0:=Aa.out.at'.c0
 obtain⟨va,iG,rfl,-⟩:=Aa.out.row.shape
 have hl:ss.length=s.L.length:=by have:=congrArg List.length Aa.out.its;simpa using this
 obtain⟨N,hN⟩:=ai ss.length
 rw[<-hN] at c2
 have HL:Hid (ss.length=s.L.length/\N=ss.length):=⟨hl,hN⟩
 clear hl hN
 obtain⟨mo,hmo⟩:=ai s.most
 rw[<-hmo] at c0
 have HMO:Hid (mo=s.most):=hmo
 clear hmo
 go_region
 go_upto_if 48 with fail
 go_cut [] (λwx=>Ready w g m (.slice va ss.length iG) s1 (n+64) B (k1,k2) wx/\¬ (s.L.length=s.most/\cnt s.L (k1,k2)=cnt s.L (full s.L)))
 case first=>
  have hl:=HL.out.1
  have hN:=HL.out.2
  have hmo:=HMO.out
  by_cases hfull:s.L.length=s.most
  ·have g1:(N:Int)=(mo:Int):=by omega
   have c1:=Aa.out.at'.c1
   have f1:=Aa.out.at'.fz 1
   obtain⟨LO,hLO⟩:=ai (s.lost+1)
   have e1:IntKind.i64.wrap ((s.lost:Int)+1)=(LO:Int):=by rw[IntKind.wrap_i64];omega
   have hne:s.L≠[]:=by intro e;rw[e] at hfull;have:=Aa.out.ok.lo;simp at hfull;omega
   obtain⟨W1,hW1⟩:=ai (W.drew.setCell ⟨g,1,none⟩ (.int .i64 (LO:Int)))
   have vQ:Apart (λj=>j=g) W W1:=by rw[hW1];exact((Apart.refl (λj=>j=g) W).drew).setCell (b:=g) (.inl rfl) 1 _
   have Ub:=Aa.out.drew
   have hgm:=tY Ub.at' Ub.map
   have hP1:Pb W1 g m (.slice va ss.length iG) { s with lost:=LO } ss n:=by
    refine⟨by rw[hW1];exact Ub.at'.Lx LO,Aa.out.map.keep (vQ.block m Aa.out.map.lt λe=>hgm e.symm),Aa.out.row.apart vQ λj hj e=>zY Ub.at' Ub.row (e▸hj),Ub.its,Aa.out.seen.apart vQ λj hj=>Aa.out.plain (.inl hj),⟨Aa.out.ok.lo,Aa.out.ok.hi,Aa.out.ok.len,Aa.out.ok.arg⟩⟩
   have hBg:B≠g:=by
    rintro rfl
    have h1:=Aa.out.at'
    unfold PA at h1
    have h2:=Qo.out
    unfold dQ at h2
    rw[h1] at h2
    simp at h2
   have hB1:dQ W1 B (k1,k2):=(vQ.block B Qo.out.lt hBg).trans Qo.out
   obtain⟨F,hF⟩:=ai (full s.L)
   have KF:Hid (Calls Tryz.prog 127 #[.pointer (some ⟨g,0,none⟩)] W1 λe w'=>e=.returned (.agg #[.int .i64 F.1,.int .i64 F.2])/\uJ F/\Below W1.heap.size W1 w'):=by
    rw[hF]
    exact Eb W1 g m _ { s with lost:=LO } ss n hP1 hne
   have HW1:Hid (W1=(W.setCell ⟨g,1,none⟩ (.int .i64 (LO:Int))).drew):=hW1
   have Vw:Hid (Pb W1 g m (.slice va ss.length iG) { s with lost:=LO } ss n/\dQ W1 B (k1,k2)/\Apart (Own g m (.slice va ss.length iG)) w W1):=⟨hP1,hB1,(Apart.of_below (F:=Own g m (.slice va ss.length iG)) HBb.out).trans vQ λi hi=>.inl (.inl hi)⟩
   have HF:Hid (F=full s.L/\s.L.length=s.most/\LO=s.lost+1/\ss.length=s.L.length):=⟨hF,hfull,hLO,hl⟩
   clear hl hN hmo hfull hLO hne hW1 vQ Ub hgm hP1 hBg hB1 hF
   obtain⟨lo,hlo⟩:=ai s.lost
   rw[<-hlo] at e1 c1 vR
   clear hlo
   go_wp2_with fail
   rw[<-HW1.out]
   refine KF.out.mono ?_
   rintro e w2 ⟨rfl,hwf,hb2⟩
   obtain⟨W2,hW2⟩:=ai (w2.alloc (.cells #[.int .i64 F.1,.int .i64 F.2] 194))
   have hb3:Below W1.heap.size W1 W2:=by rw[hW2];exact hb2.alloc hb2.size _
   have hP2:=Vw.out.1.below hb3
   have hB2:=Vw.out.2.1.below hb3
   have hF2:dQ W2 w2.heap.size F:=by rw[hW2];exact heap_alloc_new _ _
   have hA2:Apart (Own g m (.slice va ss.length iG)) w W2:=Vw.out.2.2.trans (Apart.of_below (F:=λ_=>False) hb3) (λ_ h=>h.elim)
   have d3:=hP2.at'.c3
   have o0:=hB2.c0
   have o1:=hB2.c1
   have p0:=hF2.c0
   have p1:=hF2.c1
   have l1:=hP2.drew.map.look Vu.out
   have l2:=hP2.drew.map.look hwf
   obtain⟨C,hC⟩:=ai w2.heap.size
   rw[<-hC] at p0 p1
   have HC:Hid (C=w2.heap.size):=hC
   have HW2:Hid (W2=w2.alloc (.cells #[.int .i64 F.1,.int .i64 F.2] 194)):=hW2
   have Mm:Hid (Pb W2 g m (.slice va ss.length iG) { s with lost:=LO } ss n/\dQ W2 B (k1,k2)/\Apart (Own g m (.slice va ss.length iG)) w W2/\uJ F):=⟨hP2,hB2,hA2,hwf⟩
   obtain⟨co,hco⟩:=ai (cnt s.L (k1,k2))
   obtain⟨cf,hcf⟩:=ai (cnt s.L F)
   rw[show cnt ({ s with lost:=LO }:Bs).L (k1,k2)=co from hco.symm] at l1
   rw[show cnt ({ s with lost:=LO }:Bs).L F=cf from hcf.symm] at l2
   have xZ:Hid (co=cnt s.L (k1,k2)/\cf=cnt s.L F):=⟨hco,hcf⟩
   simp only[gu] at l1 l2
   have Mg:∀ (fn:Fn) (first cap:Array Value) (w:World),(Instr.makeFunc fn first cap).run Tryz.prog w=.ok (.func fn first cap) w:=λ_ _ _ _=>rfl
   clear KF hb2 hb3 hP2 hB2 hF2 hA2 hwf hC hW2 hco hcf c0 c1 c2 f1 e1 g1
   obtain⟨fa,fb⟩:=F
   dsimp only at *
   by_cases hcc:co=cf
   ·have g2:((co:Int)=(cf:Int)):=by omega
    have HE:Hid ((9:Int)=fT s k1 k2 x/\eZ w g m (.slice va ss.length iG) (gm s k1 k2 x) (n+65) W2.drew):=by
     have e0:cnt s.L (k1,k2)=cnt s.L (full s.L):=by rw[<-HF.out.1,<-xZ.out.1,<-xZ.out.2];exact hcc
     refine⟨by rw[Vo.out,if_pos ⟨HF.out.2.1,e0⟩],?_⟩
     rw[Vp.out,if_pos HF.out.2.1,if_pos e0,<-HF.out.2.2.1]
     exact⟨_,ss,Mm.out.1.drew.mono (by omega),Mm.out.2.2.1.drew,λj hj=>.inl hj⟩
    clear hcc
    go_wp2_with fail
    rw[<-HW2.out,<-HC.out]
    go_region
    go_wp2
    go_ret
    exact⟨by rw[<-HE.out.1];rfl,HE.out.2⟩
   ·have g2:¬ ((co:Int)=(cf:Int)):=by omega
    have KT:Hid (Calls Tryz.prog 128 #[.pointer (some ⟨g,0,none⟩),.int .i64 1,.func (.func 129) #[.agg #[.int .i64 fa,.int .i64 fb]] #[]] W2.drew λe w'=>∃ vo,e=.returned vo/\Ready w g m (.slice va ss.length iG) s1 (n+64) B (k1,k2) w'):=by
     refine(ru W2.drew g m _ { s with lost:=LO } ss n Mm.out.1.drew (by omega) 1 (by omega) (isK (fa,fb)) (λj=>decide (j=(fa,fb))) (λ_=>rfl) 129 (gu (fa,fb)) call25 (λW j hj=>Su W (fa,fb) j Mm.out.2.2.2 hj)).mono ?_
     rintro e w' ⟨vo,rfl,v',ss',os,h1,h2,h3,h4,h5,h6,h7⟩
     refine⟨vo,rfl,v',ss',?_,?_,Mm.out.2.2.1.drew.trans h6 (λi hi=>.inl hi),λj hj=>.inl (by rw[<-h2];exact hj)⟩
     ·rw[Dw.out,if_pos HF.out.2.1,<-HF.out.1,<-HF.out.2.2.1];exact h1
     ·refine(h6.block B Mm.out.2.1.lt λhO=>?_).trans Mm.out.2.1
      have hp:=Mm.out.2.1
      unfold dQ at hp
      rcases hO with rfl|rfl|hO
      ·have h8:=Mm.out.1.at'
       unfold PA at h8
       rw[h8] at hp;simp at hp
      ·obtain⟨es,cl,h8⟩:=Mm.out.1.map.isMap
       rw[h8] at hp;cases hp
      ·obtain⟨cur,h8,_⟩:=Mm.out.1.row.isRow hO
       rw[h8] at hp;cases hp
    have PY:Hid (¬ (s.L.length=s.most/\cnt s.L (k1,k2)=cnt s.L (full s.L))):=λh=>hcc (by rw[xZ.out.1,xZ.out.2,HF.out.1];exact h.2)
    clear hcc
    go_wp2_with fail
    rw[<-HW2.out,<-HC.out]
    go_region
    go_wp2_with fail
    refine KT.out.mono ?_
    rintro e w3 ⟨vo,rfl,hR⟩
    have HR:Hid (Ready w g m (.slice va ss.length iG) s1 (n+64) B (k1,k2) w3):=hR
    clear hR KT l1 l2
    go_wp2_with fail
    go_meet
    case rel=>exact⟨HR.out,PY.out⟩
  ·have g1:¬ ((N:Int)=(mo:Int)):=by omega
   have PY:Hid (¬ (s.L.length=s.most/\cnt s.L (k1,k2)=cnt s.L (full s.L))):=λh=>hfull h.1
   have HR:Hid (Ready w g m (.slice va ss.length iG) s1 (n+64) B (k1,k2) W.drew):=by
    rw[show s1=s from by rw[Dw.out,if_neg hfull]]
    exact⟨_,ss,Aa.out.drew.mono (by omega),Qo.out,Apart.of_below HBb.out.drew,λj hj=>.inl hj⟩
   clear hl hN hfull hmo
   go_wp2_with fail
   go_meet
   case rel=>exact⟨HR.out,PY.out⟩
 case rest=>
 clear c2 c0
 obtain⟨⟨v',ss',hP,hBx,PZ,TD⟩,hne⟩:=hcut
 have HNE:Hid (¬ (s.L.length=s.most/\cnt s.L (k1,k2)=cnt s.L (full s.L))):=hne
 clear hne
 obtain⟨a,cap,rfl,_⟩:=hP.row.shape
 obtain⟨l,hl⟩:=ai ss'.length
 rw[<-hl] at hP TD
 have Wy:Hid (wc.drew.cell? ⟨B,0,none⟩=some (.int .i64 k1)/\wc.drew.cell? ⟨B,1,none⟩=some (.int .i64 k2)):=⟨hBx.c0,hBx.c1⟩
 have c2:=hP.at'.c2
 have hxs:ag wc xa xc x:=HX.out.1.apart PZ λj hj=>HP.out.plain hj
 have KC:Hid (Calls Tryz.prog 121 #[.slice xa xl xc] wc.drew λe w7=>∃ d cd a' l' c' qy,e=.returned (.slice d xl cd)/\(Builtin.append_ #[128,128] 128 #[.slice a l cap,.slice (some ⟨w7.heap.size,0,none⟩) 1 1]).run Tryz.prog (w7.alloc (.cells #[.int .i64 k1,.int .i64 k2,.slice d xl cd] 199))=.ok (.slice a' l' c') qy /\
   w7.cell? ⟨g,2,none⟩=some (.slice a l cap)/\(w7.cell? ⟨B,0,none⟩=some (.int .i64 k1)/\w7.cell? ⟨B,1,none⟩=some (.int .i64 k2)) /\
   (w7.alloc (.cells #[.int .i64 k1,.int .i64 k2,.slice d xl cd] 199)).cell? ⟨g,2,none⟩=some (.slice a l cap)/\((w7.alloc (.cells #[.int .i64 k1,.int .i64 k2,.slice d xl cd] 199)).cell? ⟨B,0,none⟩=some (.int .i64 k1)/\(w7.alloc (.cells #[.int .i64 k1,.int .i64 k2,.slice d xl cd] 199)).cell? ⟨B,1,none⟩=some (.int .i64 k2)) /\
   qy.cell? ⟨g,2,none⟩=some (.slice a l cap)/\qy.frozen? ⟨g,2,none⟩=false/\(qy.cell? ⟨B,0,none⟩=some (.int .i64 k1)/\qy.cell? ⟨B,1,none⟩=some (.int .i64 k2)) /\
   ((qy.setCell ⟨g,2,none⟩ (.slice a' l' c')).cell? ⟨B,0,none⟩=some (.int .i64 k1)/\(qy.setCell ⟨g,2,none⟩ (.slice a' l' c')).cell? ⟨B,1,none⟩=some (.int .i64 k2)) /\
   Half w g m (.slice va ss.length iG) s1 (n+64) B (k1,k2) x (qy.setCell ⟨g,2,none⟩ (.slice a' l' c'))):=by
  have h0:=wo wc.drew xa xc x (hxs.drewN 1) (by have:=HX.out.2;omega)
  rw[<-VM.out] at h0
  refine Calls.mono h0 ?_
  rintro e w7 ⟨d,cd,rfl,h1,h2⟩
  obtain⟨a',l',c',qy,h3⟩:=Ready.put hP.drew hBx PZ.drew TD h2 h1
  rw[<-VM.out] at h3
  exact⟨d,cd,a',l',c',qy,rfl,h3⟩
 clear hP hBx PZ TD hxs hl
 go_upto_region 14 with fail
 go_cut [] (λwx=>Half w g m (.slice va ss.length iG) s1 (n+64) B (k1,k2) x wx)
 case first=>
  refine wp_region_noPanic ?_
  refine wp_region_held (S:=λV=>V.cell? ⟨B,0,none⟩=some (.int .i64 k1)/\V.cell? ⟨B,1,none⟩=some (.int .i64 k2)) (by kernel_rfl) ?_
  have hS:=Wy.out
  refine tk 0 hS ?_
  refine tk 1 hS ?_
  refine tk 2 hS ?_
  refine tk 3 hS ?_
  refine tk 5 hS ?_
  refine tk 6 hS ?_
  refine Gn 4 7 rfl rfl (by kernel_rfl) (by rfl) (by rfl) (λK hK=>?_) (λK hK=>?_)
  ·clear hS
   go_simp
   refine hK.out _ _ (by first|exact Wy.out|exact y2|exact y4) (λhS=>?_)
   clear hK
   (try simp only[Act.put,sT])
   refine aI 7 rfl (by kernel_rfl) (by rfl) (λK hK=>?_)
   clear hS
   go_simp
   refine KC.out.mono ?_
   rintro e w7 ⟨d,cd,a',l',c',qy,rfl,hrun,y1,y2,y3,y4,y5,y6,y7,y8,hH⟩
   have Vx:Hid ((Builtin.append_ #[128,128] 128 #[.slice a l cap,.slice (some ⟨w7.heap.size,0,none⟩) 1 1]).run Tryz.prog (w7.alloc (.cells #[.int .i64 k1,.int .i64 k2,.slice d xl cd] 199))=.ok (.slice a' l' c') qy):=hrun
   clear hrun
   refine hK.out _ _ (y2) (λhS=>?_)
   clear hK
   (try simp only[Act.put,sT])
   refine tk 8 hS ?_
   refine aI 9 rfl (by kernel_rfl) (by rfl) (λK hK=>?_)
   clear hS
   go_simp
   refine hK.out _ _ (y4) (λhS=>?_)
   clear hK
   (try simp only[Act.put,sT])
   refine aI 10 rfl (by kernel_rfl) (by rfl) (λK hK=>?_)
   clear hS
   refine mh (.tmp 79) (.tmp 84) 128 (by kernel_rfl) (.slice a l cap) (.slice (some ⟨w7.heap.size,0,none⟩) 1 1) _ (by kernel_rfl) (by kernel_rfl) Vx.out ?_
   refine hK.out _ _ (y7) (λhS=>?_)
   clear hK
   (try simp only[Act.put,sT])
   refine tk 11 hS ?_
   refine tk 12 hS ?_
   refine aI 13 rfl (by kernel_rfl) (by rfl) (λK hK=>?_)
   clear hS
   go_simp
   refine hK.out _ _ (y8) (λhS=>?_)
   clear hK
   (try simp only[Act.put,sT])
   refine wpAnyH_done (by kernel_rfl) (NoPanic.normal ?_) _
   go_wp2_with fail
   go_meet
   case rel=>exact hH
  ·clear hS
   go_simp
   refine KC.out.mono ?_
   rintro e w7 ⟨d,cd,a',l',c',qy,rfl,hrun,y1,y2,y3,y4,y5,y6,y7,y8,hH⟩
   have Vx:Hid ((Builtin.append_ #[128,128] 128 #[.slice a l cap,.slice (some ⟨w7.heap.size,0,none⟩) 1 1]).run Tryz.prog (w7.alloc (.cells #[.int .i64 k1,.int .i64 k2,.slice d xl cd] 199))=.ok (.slice a' l' c') qy):=hrun
   clear hrun
   refine hK.out _ _ (y2) (λhS=>?_)
   clear hK
   (try simp only[Act.put,sT])
   refine tk 8 hS ?_
   refine Gn 4 9 rfl rfl (by kernel_rfl) (by rfl) (by rfl) (λK hK=>?_) (λK hK=>?_)
   ·clear hS
    go_simp
    refine hK.out _ _ (by first|exact Wy.out|exact y2|exact y4) (λhS=>?_)
    clear hK
    (try simp only[Act.put,sT])
    refine aI 9 rfl (by kernel_rfl) (by rfl) (λK hK=>?_)
    clear hS
    go_simp
    refine hK.out _ _ (y4) (λhS=>?_)
    clear hK
    (try simp only[Act.put,sT])
    refine aI 10 rfl (by kernel_rfl) (by rfl) (λK hK=>?_)
    clear hS
    refine mh (.tmp 79) (.tmp 84) 128 (by kernel_rfl) (.slice a l cap) (.slice (some ⟨w7.heap.size,0,none⟩) 1 1) _ (by kernel_rfl) (by kernel_rfl) Vx.out ?_
    refine hK.out _ _ (y7) (λhS=>?_)
    clear hK
    (try simp only[Act.put,sT])
    refine tk 11 hS ?_
    refine tk 12 hS ?_
    refine aI 13 rfl (by kernel_rfl) (by rfl) (λK hK=>?_)
    clear hS
    go_simp
    refine hK.out _ _ (y8) (λhS=>?_)
    clear hK
    (try simp only[Act.put,sT])
    refine wpAnyH_done (by kernel_rfl) (NoPanic.normal ?_) _
    go_wp2_with fail
    go_meet
    case rel=>exact hH
   ·clear hS
    go_simp
    refine hK.out _ _ (y4) (λhS=>?_)
    clear hK
    (try simp only[Act.put,sT])
    refine aI 4 rfl (by kernel_rfl) (by rfl) (λK hK=>?_)
    clear hS
    go_simp
    refine hK.out _ _ (by first|exact Wy.out|exact y2|exact y4) (λhS=>?_)
    clear hK
    (try simp only[Act.put,sT])
    refine aI 10 rfl (by kernel_rfl) (by rfl) (λK hK=>?_)
    clear hS
    refine mh (.tmp 79) (.tmp 84) 128 (by kernel_rfl) (.slice a l cap) (.slice (some ⟨w7.heap.size,0,none⟩) 1 1) _ (by kernel_rfl) (by kernel_rfl) Vx.out ?_
    refine hK.out _ _ (y7) (λhS=>?_)
    clear hK
    (try simp only[Act.put,sT])
    refine tk 11 hS ?_
    refine tk 12 hS ?_
    refine aI 13 rfl (by kernel_rfl) (by rfl) (λK hK=>?_)
    clear hS
    go_simp
    refine hK.out _ _ (y8) (λhS=>?_)
    clear hK
    (try simp only[Act.put,sT])
    refine wpAnyH_done (by kernel_rfl) (NoPanic.normal ?_) _
    go_wp2_with fail
    go_meet
    case rel=>exact hH
 case rest=>
 clear KC Wy c2
 rename World=>wd
 have hH:=hcut
 obtain⟨v',ss',Qn,hM,hR,hits,Mj,hBx,PZ,TD⟩:=hcut
 have hMd:MapAt wd.drew m (n+64) (cnt s1.L):=hM.keep rfl
 have hmax:(90000000:Nat)<maxLen:=by decide
 obtain⟨v0,st,W1,he,hM1,ha1,hs1,hst⟩:=hMd.entry (by omega) Vu.out
 have hcl:cnt s1.L (k1,k2)<=64:=by
  have h1:=DL s1.L (k1,k2)
  have h2:s1.L.length<=s.L.length:=by
   rw[Dw.out]
   split
   ·have:=(gV (isK (full s.L)) 1 s.L).1;simp only[];omega
   ·exact Nat.le_refl _
  have h3:=HP.out.ok.len
  have h4:=HP.out.ok.hi
  omega
 obtain⟨co,hco⟩:=ai (cnt s1.L (k1,k2))
 obtain⟨c,hc⟩:=ai (cnt s1.L (k1,k2)+1)
 obtain⟨W3,hs3,tX,Dy,YJ⟩:=hst W1 c (oZ (by omega) (by omega)) rfl
 have hl0:=hMd.look Vu.out
 have hl1:=hM1.look Vu.out
 rw[<-hco] at hl0 hl1
 have hgm:=tY Qn hM
 have hBm:B≠m:=by
  rintro rfl
  obtain⟨es,cl,h8⟩:=hM.isMap
  unfold dQ at hBx
  rw[h8] at hBx;cases hBx
 have c3:wd.drew.cell? ⟨g,3,none⟩=some (.map (some m)):=Qn.c3
 have o0:wd.drew.cell? ⟨B,0,none⟩=some (.int .i64 k1):=hBx.c0
 have o1:wd.drew.cell? ⟨B,1,none⟩=some (.int .i64 k2):=hBx.c1
 have c31:=ha1.cell c3 hgm
 have o01:=ha1.cell o0 hBm
 have o11:=ha1.cell o1 hBm
 have c33:=Dy.cell c31 hgm
 have o03:=Dy.cell o01 hBm
 have o13:=Dy.cell o11 hBm
 have hB1:B<wd.drew.heap.size:=hBx.lt
 have e1:IntKind.i64.wrap ((co:Int)+1)=(c:Int):=by rw[IntKind.wrap_i64];omega
 have HE:Hid ((0:Int)=fT s k1 k2 x/\eZ w g m (.slice va ss.length iG) (gm s k1 k2 x) (n+65) W3):=by
  have hne:¬ (s.L.length=s.most/\cnt s.L (k1,k2)=cnt s.L (full s.L)):=HNE.out
  refine⟨by rw[Vo.out,if_neg hne],?_⟩
  have e2:gm s k1 k2 x={ s1 with L:=s1.L++[⟨k1,k2,x⟩] }:=by
   rw[Vp.out,Dw.out]
   by_cases hf:s.L.length=s.most
   ·rw[if_pos hf,if_pos hf,if_neg λe=>hne ⟨hf,e⟩]
   ·rw[if_neg hf,if_neg hf]
  have hok:=oG.out
  rw[e2] at hok ⊢
  rw[hc] at tX
  exact Half.done hH hok tX (((Apart.refl (λj=>j=m) wd).drew.trans ha1 λi hi=>.inl hi).trans Dy λi hi=>.inl hi)
 have xZ:Hid (co=cnt s1.L (k1,k2)/\c=cnt s1.L (k1,k2)+1):=⟨hco,hc⟩
 simp only[gu] at he hl0 hl1
 clear hH Qn hM hR hits Mj hBx PZ TD hMd hM1 tX hst ha1 Dy hs1 YJ hgm hBm hB1 hcl hco hc hmax
 go_upto_region 15 with fail
 go_region
 go_wp2
 go_ret
 exact⟨by rw[<-HE.out.1];rfl,HE.out.2⟩
theorem Mo (w:World)(g m:Nat)(v:Value)(s:Bs)(ss:List eU)(n:Nat)(h:Pb w g m v s ss n)(hn:n<=80000000)(vR:s.lost<=1000000)(k1 k2:Int)(xa:Option Addr)(xc:Nat)(x:List UInt8)(hx:ag w xa xc x):
  Calls Tryz.prog 76 #[.pointer (some ⟨g,0,none⟩),.int .i64 k1,.int .i64 k2,.slice xa x.length xc] w λe w'=>e=.returned (.int .i64 (fT s k1 k2 x))/\eZ w g m v (gm s k1 k2 x) (n+65) w':=by
 cases ha:qW k1 k2 x
 ·refine(BM w g m h.at'.c3 k1 k2 xa xc x ha).mono ?_
  rintro e w' ⟨rfl,rfl⟩
  rw[fT,gm,if_pos ha,if_pos ha]
  exact⟨rfl,eZ.refl h (Below.refl _ _) (by omega)⟩
 ·cases hh:mV s.L x
  ·exact Ml w g m v s ss n h hn vR k1 k2 xa xc x hx ha hh
  ·refine(Mk w g m v s ss n h k1 k2 xa xc x hx ha hh).mono ?_
   rintro e w' ⟨rfl,hb⟩
   have e1:fT s k1 k2 x=4:=by simp[fT,ha,hh]
   have e2:gm s k1 k2 x=s:=by simp[gm,ha,hh]
   rw[e1,e2]
   exact⟨rfl,eZ.refl h hb (by omega)⟩
end Go.Proofs.YtmffplhaclnehaaGreatDoor
