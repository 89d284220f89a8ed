/- A helper. -/
import Derived.Test.YtmffplhaclnehaaGreatDoorBRefA
namespace Go.Proofs.YtmffplhaclnehaaGreatDoor
set_option maxRecDepth 20000
set_option maxHeartbeats 6400000
open Go.ChangeShapes Go.WideShapes Go.ChangeAt Go.RowKit
variable {W:World}
theorem LC (w:World)(r:Nat)(v:Value)(s:Bs)(ss:List eU)(h:oF w r v s ss)(k:Key):
  Calls Tryz.prog 36 #[.pointer (some ⟨r,0,none⟩),.int .i64 k.1,.int .i64 k.2] w λe w'=>e=.returned (.int .i64 (rY s k:Int))/\fB w r v (mR s k) w':=by
 obtain⟨a,cap,rfl,hcap,hmax,-⟩:=h.row.shape
 obtain⟨hlen,h64⟩:=h.len
 have HB:Hid (∀ W,Below w.heap.size w W->oF W r (.slice a ss.length cap) s ss):=λW hb=>h.below hb
 have HH:Hid (oF w r (.slice a ss.length cap) s ss):=h
 obtain⟨N,hN⟩:=ai ss.length
 have HN:Hid (N=ss.length):=hN
 have PW:N<=64:=by omega
 have hcm:cap<=9223372036854775807:=by unfold maxLen at hmax;omega
 obtain⟨k1,k2⟩:=k
 have c1:=h.at'.c1
 rw[<-hN] at c1 hcap HB
 clear h hlen h64 hN hmax
 go_enter Tryz.func36,Tryz.ntmps36
 go_wp2
 clear c1
 go_loopw [7,8] (λs7 s8 wr=>∃ t:Nat,s8=.int .i64 (t:Int)/\t<=N/\Two w (.slice none 0 0) [] s7 ((ss.take t).filter λx => !l9 (k1,k2) x.1) wr) (λ_ s8 _=>N-(intOf s8).toNat)
 case atStart=>exact⟨0,rfl,Nat.zero_le _,Below.refl _ _,Row.nil _ _,Row.nil _ _,(λk hk=>by cases hk),(λk hk=>by cases hk)⟩
 case round=>
  obtain⟨t,rfl,ht,hT⟩:=hrel
  obtain⟨la,lc,rfl,-⟩:=hT.row.shape
  have hP:=HB.out wr hT.aM
  have c1:=hP.at'.c1
  by_cases hlt:t<N
  ·obtain⟨x,hx⟩:∃ x,ss[t]?=some x:=⟨ss[t]'(by have:=HN.out;omega),by rw[List.getElem?_eq_getElem]⟩
   obtain⟨-,q,rfl,hcell⟩:=hP.row.get hx
   have x0:=hcell 0 _ rfl
   have x1:=hcell 1 _ rfl
   have x2:=hcell 2 _ rfl
   rw[show zM.n=3 from rfl] at x0 x1 x2
   rw[Nat.add_zero] at x0
   have htk:=bJ ss t x hx
   have g1:(t:Int)<(N:Int):=by omega
   have g2:(0:Int)<=(t:Int):=Int.natCast_nonneg _
   have e1:IntKind.i64.wrap ((t:Int)+1)=((t+1:Nat):Int):=by rw[IntKind.wrap_i64];omega
   have HJ:Hid (t<N):=hlt
   have hl2:((ss.take t).filter λx => !l9 (k1,k2) x.1).length<=64:=Nat.le_trans (List.length_filter_le _ _) (by rw[List.length_take];omega)
   obtain⟨al,cl,Wl,bP,vz⟩:=hT.VK (by omega) x
   obtain⟨ln,hln⟩:=ai (((ss.take t).filter λx => !l9 (k1,k2) x.1).length)
   rw[<-hln] at bP vz hT ⊢
   obtain⟨xe,hxe⟩:=ai x.1.e
   obtain⟨xi,hxi⟩:=ai x.1.i
   obtain⟨xl,hxl⟩:=ai x.1.b.length
   obtain⟨xa,hxa⟩:=ai x.2.1
   obtain⟨xc,IB⟩:=ai x.2.2
   rw[<-hxl,<-hxa,<-IB] at bP
   rw[<-hxe,<-hxi] at bP
   have x0':wr.cell? ⟨q,t*3,none⟩=some (.int .i64 xe):=by rw[hxe];exact x0
   have x1':wr.cell? ⟨q,t*3+1,none⟩=some (.int .i64 xi):=by rw[hxi];exact x1
   have x2':wr.cell? ⟨q,t*3+2,none⟩=some (.slice xa xl xc):=by rw[hxl,hxa,IB];exact x2
   have HR2:Hid ((Builtin.append_ #[51,51] 51 #[.slice la ln lc,.slice (some ⟨wr.heap.size,0,none⟩) 1 1]).run Tryz.prog (wr.alloc (.cells #[.int .i64 xe,.int .i64 xi,.slice xa xl xc] 140))=.ok (.slice al (ln+1) cl) Wl):=bP
   have HT1:Hid (l9 (k1,k2) x.1=true->Two w (.slice none 0 0) [] (.slice la ln lc) ((ss.take (t+1)).filter λx => !l9 (k1,k2) x.1) wr):=λhk=>by
    rw[htk,List.filter_append]
    simpa [hk] using hT
   have HT2:Hid (l9 (k1,k2) x.1=false->Two w (.slice none 0 0) [] (.slice al (ln+1) cl) ((ss.take (t+1)).filter λx => !l9 (k1,k2) x.1) Wl):=λhk=>by
    rw[htk,List.filter_append]
    simpa [hk] using vz
   have K6:Hid (l9 (k1,k2) x.1=(decide (xe<k1)||(decide (xe=k1)&&decide (xi<=k2)))):=by rw[hxe,hxi];rfl
   clear hT hP hx hcell x0 x1 x2 htk hl2 bP vz hln hxe hxi hxl hxa IB ht hlt
   by_cases h1:k1<xe
   ·have HE:Hid (Two w (.slice none 0 0) [] (.slice al (ln+1) cl) ((ss.take (t+1)).filter λx => !l9 (k1,k2) x.1) Wl):=HT2.out (by rw[K6.out,decide_eq_false (by omega),decide_eq_false (by omega)];rfl)
    clear HT1 HT2 K6
    go_wp2_with (at_builtin;refine wpList_append_run rfl (.tmp 53) (.tmp 61) 51 rfl _ _ _ rfl rfl HR2.out ?_)
    go_roundw
    case rel=>exact⟨t+1,by first|rfl|(congr 1;omega),by have:=HJ.out;omega,HE.out⟩
    case measure=>have:=HJ.out;simp[intOf];omega
   ·by_cases h2:xe=k1
    ·subst h2
     by_cases h3:k2<xi
     ·have HE:Hid (Two w (.slice none 0 0) [] (.slice al (ln+1) cl) ((ss.take (t+1)).filter λx => !l9 (xe,k2) x.1) Wl):=HT2.out (by rw[K6.out,decide_eq_false (by omega),decide_eq_false (show ¬ xi<=k2 by omega)];simp)
      clear HT1 HT2 K6
      go_wp2_with (at_builtin;refine wpList_append_run rfl (.tmp 53) (.tmp 61) 51 rfl _ _ _ rfl rfl HR2.out ?_)
      go_roundw
      case rel=>exact⟨t+1,by first|rfl|(congr 1;omega),by have:=HJ.out;omega,HE.out⟩
      case measure=>have:=HJ.out;simp[intOf];omega
     ·have HE:Hid (Two w (.slice none 0 0) [] (.slice la ln lc) ((ss.take (t+1)).filter λx => !l9 (xe,k2) x.1) wr):=HT1.out (by rw[K6.out,decide_eq_true (show xi<=k2 by omega)];simp)
      clear HT1 HT2 K6
      go_wp2
      go_roundw
      case rel=>exact⟨t+1,by first|rfl|(congr 1;omega),by have:=HJ.out;omega,HE.out⟩
      case measure=>have:=HJ.out;simp[intOf];omega
    ·have HE:Hid (Two w (.slice none 0 0) [] (.slice la ln lc) ((ss.take (t+1)).filter λx => !l9 (k1,k2) x.1) wr):=HT1.out (by rw[K6.out,decide_eq_true (show xe<k1 by omega)];rfl)
     clear HT1 HT2 K6
     go_wp2
     go_roundw
     case rel=>exact⟨t+1,by first|rfl|(congr 1;omega),by have:=HJ.out;omega,HE.out⟩
     case measure=>have:=HJ.out;simp[intOf];omega
  ·have hall:ss.take t=ss:=List.take_of_length_le (by have:=HN.out;omega)
   rw[hall] at hT ⊢
   have f1:=hP.at'.fz 1
   have hd:=(Two.done (q:=λx => !l9 (k1,k2) x) HH.out (λx=>rfl) hT (λy hy=>by cases hy)).1
   obtain⟨ln,hln⟩:=ai ((ss.filter λx => !l9 (k1,k2) x.1).length)
   rw[<-hln] at hd ⊢
   have hle:ln<=N:=by rw[hln,HN.out];exact List.length_filter_le _ _
   have hdn:rY s (k1,k2)=N-ln:=by
    have h1:(ss.filter λx=>l9 (k1,k2) x.1).length=rY s (k1,k2):=by
     rw[rY,<-HH.out.its,List.filter_map,List.length_map];rfl
    have h2:=(gV (λx:eU=>l9 (k1,k2) x.1) ss.length ss).1
    rw[qh _ _ _ (Nat.le_refl _)] at h2
    dsimp only at h2
    have h3:=HN.out
    omega
   have HD:Hid (fB w r (.slice a ss.length cap) (mR s (k1,k2)) (wr.setCell ⟨r,1,none⟩ (.slice la ln lc))/\rY s (k1,k2)=N-ln):=⟨hd,hdn⟩
   have e5:IntKind.i64.wrap ((N:Int)-(ln:Int))=((N-ln:Nat):Int):=by rw[IntKind.wrap_i64];omega
   have g1:¬ (t:Int)<(N:Int):=by omega
   clear hT hP hall hd hdn hln hle ht hlt
   go_wp2
   go_ret
   exact⟨by rw[HD.out.2];first|rfl|simp,HD.out.1⟩
def zR (L:List It):Key:=match L with
 | []=>(0,0)
 | x::_=>x.k
def fk (L:List It)(t:Nat):Key:=if t=0 then (0,0) else dU L (zR L) (L.take t)
def fm (L:List It)(t:Nat):Nat:=if t=0 then 0 else cnt L (dU L (zR L) (L.take t))
theorem TB {L:List It}{t:Nat}{y:It}(hy:L[t]?=some y):(fm L t<cnt L y.k->fk L (t+1)=y.k/\fm L (t+1)=cnt L y.k)/\(¬ fm L t<cnt L y.k->fk L (t+1)=fk L t/\fm L (t+1)=fm L t):=by
 have hsn:=bJ L t y hy
 have h1:fk L (t+1)=dU L (zR L) (L.take (t+1)):=by rw[fk,if_neg (by omega)]
 have h2:fm L (t+1)=cnt L (dU L (zR L) (L.take (t+1))):=by rw[fm,if_neg (by omega)]
 by_cases ht:t=0
 ·subst ht
  have e:zR L=y.k:=by
   cases L with
   | nil=>simp at hy
   | cons z r=>simp at hy;rw[<-hy];rfl
  have e2:dU L (zR L) (L.take (0+1))=y.k:=by
   rw[hsn,qU,List.take_zero,IC,e,if_neg (by omega)]
  have hp:=FT (List.mem_of_getElem? hy)
  have e0:fm L 0=0:=rfl
  refine⟨λ_=>⟨by rw[h1,e2],by rw[h2,e2]⟩,λh=>absurd (show fm L 0<cnt L y.k by omega) h⟩
 ·have h3:fk L t=dU L (zR L) (L.take t):=by rw[fk,if_neg ht]
  have h4:fm L t=cnt L (dU L (zR L) (L.take t)):=by rw[fm,if_neg ht]
  rw[h1,h2,h3,h4,hsn,qU]
  constructor
  ·intro h;rw[if_pos h];exact⟨rfl,rfl⟩
  ·intro h;rw[if_neg h];exact⟨rfl,rfl⟩
theorem VL {L:List It}(hne:L≠[]):fk L L.length=full L/\fm L L.length=cnt L (full L):=by
 have hl:L.length≠0:=λe=>hne (List.length_eq_zero_iff.1 e)
 have e:dU L (zR L) (L.take L.length)=full L:=by
  rw[List.take_of_length_le (Nat.le_refl _)]
  cases L with
  | nil=>exact absurd rfl hne
  | cons z r=>rfl
 rw[fk,fm,if_neg hl,if_neg hl,e]
 exact⟨rfl,rfl⟩
theorem IE {w:World}{r:Nat}{v0:Value}{s1:Bs}{a:Option Addr}{l cap:Nat}{ss:List eU}(hP:oF W r (.slice a l cap) s1 ss)(hA:Apart (λk=>k=r) w W){k1 k2:Int}{xa:Option Addr}{xc:Nat}{x:List UInt8}(hx:ag W xa xc x)(hxl:x.length<=96)(hok:Bs.ok { s1 with L:=s1.L++[⟨k1,k2,x⟩] }):
  ∃ a2 c2 w2 d cd w3 a3 c3 w5, (Builtin.append_ #[51, 51] 51 #[.slice (some ⟨W.heap.size, 0, none⟩) 0 0, .slice a l cap]).run Tryz.prog (W.alloc (.cells #[] 140)) = .ok (.slice a2 l c2) w2 ∧ (W.alloc (.cells #[] 140)).cell? ⟨r, 1, none⟩ = some (.slice a l cap) ∧
    (Builtin.append_ #[24, 24] 24 #[.slice (some ⟨w2.heap.size, 0, none⟩) 0 0, .slice xa x.length xc]).run Tryz.prog (w2.alloc (.cells #[] 5)) = .ok (.slice d x.length cd) w3 ∧
    (Builtin.append_ #[51, 51] 51 #[.slice a2 l c2, .slice (some ⟨w3.heap.size, 0, none⟩) 1 1]).run Tryz.prog (w3.alloc (.cells #[.int .i64 k1, .int .i64 k2, .slice d x.length cd] 140)) = .ok (.slice a3 (l + 1) c3) w5 ∧
    w5.cell? ⟨r, 1, none⟩ = some (.slice a l cap) ∧ w5.frozen? ⟨r, 1, none⟩ = false ∧ fB w r v0 { s1 with L := s1.L ++ [⟨k1, k2, x⟩] } (w5.setCell ⟨r, 1, none⟩ (.slice a3 (l + 1) c3)) := by
 obtain⟨hlen,h64⟩:=hP.len
 have hl:l=ss.length:=by obtain⟨_,_,e,_⟩:=hP.row.shape;cases e;rfl
 subst hl
 obtain⟨W0,hW0⟩:=ai (W.alloc (.cells #[] 140))
 have hb0:Below W.heap.size W W0:=by rw[hW0];exact(Below.refl _ _).alloc (Nat.le_refl _) _
 have h0:=hP.below hb0
 have hE0:Row zM W0 (.slice (some ⟨W.heap.size,0,none⟩) 0 0) []:=by rw[hW0];exact Row.empty zM W
 obtain⟨v2,w2,gG,oM,vQ,hnew1⟩:=hE0.append ss (by simp;omega) a cap (λhne=>by
  obtain⟨y,hy⟩:∃ y,ss[0]?=some y:=⟨ss[0]'(List.length_pos_iff.2 hne),by rw[List.getElem?_eq_getElem]⟩
  obtain⟨-,q,rfl,-⟩:=h0.row.get hy
  exact⟨q,0,rfl,λt u hu=>by rw[Nat.zero_add];exact h0.row.zP t u hu⟩)
 rw[List.nil_append] at oM
 have hb2:Below W.heap.size W w2:=vQ.below hb0 (λk hk=>by cases hk;exact Nat.le_refl _) hb0.size
 have hown1:∀ k,v2.ownBlock=some k->W.heap.size<=k:=λk hk=>by
  rcases hnew1 k hk with e|e
  ·cases e;exact Nat.le_refl _
  ·exact Nat.le_trans hb0.size e
 obtain⟨a2,c2,rfl,-⟩:=oM.shape
 have hbE:Below w2.heap.size w2 (w2.alloc (.cells #[] 5)):=(Below.refl _ _).alloc (Nat.le_refl _) _
 obtain⟨v3,w3,bP,ho,hbl⟩:=aP (w2.alloc (.cells #[] 5)) w2.heap.size _ [] (ji w2) xa xc x ((hx.below hb2).below hbE) (by simp;omega) (by simp)
 obtain⟨d,cd,rfl,hs3⟩:=ag.bA ho
 rw[List.nil_append] at hs3 bP
 have IG:Below w2.heap.size w2 w3:=hbl _ _ hbE (Nat.le_refl _)
 have hb3:Below W.heap.size W w3:=hb2.trans (IG.mono hb2.size)
 obtain⟨W4,DR⟩:=ai (w3.alloc (.cells #[.int .i64 k1,.int .i64 k2,.slice d x.length cd] 140))
 have qV:Below w3.heap.size w3 W4:=by rw[DR];exact(Below.refl _ _).alloc (Nat.le_refl _) _
 have r4:W4.heap[w3.heap.size]?=some (.cells #[.int .i64 k1,.int .i64 k2,.slice d x.length cd] 140 (0,0)):=by rw[DR];exact heap_alloc_new _ _
 have hb4:Below W.heap.size W W4:=hb3.trans (qV.mono hb3.size)
 have hrow4:=(oM.below IG).below qV
 obtain⟨v5,w5,Bp,yD,yo,Sb⟩:=hrow4.append [((⟨k1,k2,x⟩:It),(d,cd))] (by simp;omega) (some ⟨w3.heap.size,0,none⟩) 1 (λ_=>⟨w3.heap.size,0,rfl,λt u hu=>by
  rw[show zM.cs [((⟨k1,k2,x⟩:It),(d,cd))]=[.int .i64 k1,.int .i64 k2,.slice d x.length cd] from rfl] at hu
  rw[cell_of_row _ _ (0+t) _ _ _ r4,Nat.zero_add,<-Array.getElem?_toList];exact hu⟩)
 have hb5:Below W.heap.size W w5:=yo.below hb4 hown1 hb4.size
 have h5:=hP.below hb5
 obtain⟨a3,c3,rfl,-⟩:=yD.shape
 have el:(ss++[((⟨k1,k2,x⟩:It),(d,cd))]).length=ss.length+1:=by simp
 rw[el] at Bp Sb yD
 have hown5:∀ k,(Value.slice a3 (ss.length+1) c3).ownBlock=some k->W.heap.size<=k:=λk hk=>by
  rcases Sb k hk with e|e
  ·exact hown1 k e
  ·exact Nat.le_trans hb4.size e
 have hag:Apart (λk=>k=r) w5 (w5.setCell ⟨r,1,none⟩ (.slice a3 (ss.length+1) c3)):=(Apart.refl (λk=>k=r) w5).setCell (b:=r) (.inl rfl) 1 _
 have hr:=hP.at'.lt
 have hpl:∀ k,k=r->Plain w5 k:=λk hk=>hk▸h5.plain (.inl rfl)
 refine⟨a2,c2,w2,d,cd,w3,a3,c3,w5,by rw[<-hW0];exact gG,by rw[<-hW0];exact h0.at'.c1,bP,by rw[<-DR];exact Bp,h5.at'.c1,h5.at'.fz 1,?_⟩
 refine⟨_,ss++[((⟨k1,k2,x⟩:It),(d,cd))],⟨h5.at'.Lx _,yD.apart hag λk hk e=>by have:=hown5 k hk;omega,by rw[List.map_append,hP.its];rfl,λy hy=>?_,hok⟩,(hA.trans (Apart.of_below (F:=λk=>k=r) hb5) λi hi=>.inl hi).trans hag λi hi=>.inl hi,λk hk=>.inr (Nat.le_trans hA.size (hown5 k hk))⟩
 rcases List.mem_append.1 hy with hy|hy
 ·exact(h5.seen y hy).apart hag hpl
 ·rw[List.mem_singleton] at hy
  subst hy
  exact((hs3.below qV).apart yo λk hk=>hrow4.plain hk).apart hag hpl
theorem zS (w:World)(r:Nat)(k1 k2:Int)(xa:Option Addr)(xc:Nat)(x:List UInt8)(ha:qW k1 k2 x=false):
  Calls Tryz.prog 42 #[.pointer (some ⟨r,0,none⟩),.int .i64 k1,.int .i64 k2,.slice xa x.length xc] w λe w'=>e=.returned (.int .i64 1)/\w'=w:=by
 have hno:¬ (0<=k1/\k1<=65535/\1<=k2/\k2<=256/\x.length<=96):=λh=>by rw[kM.2 h] at ha;cases ha
 clear ha
 go_enter Tryz.func42,Tryz.ntmps42
 by_cases h1:k1<0
 ·clear hno
  go_wp2
  go_ret
  exact⟨rfl,rfl⟩
 ·by_cases h2:65535<k1
  ·clear hno
   go_wp2
   go_ret
   exact⟨rfl,rfl⟩
  ·by_cases h3:k2<1
   ·clear hno
    go_wp2
    go_ret
    exact⟨rfl,rfl⟩
   ·by_cases h4:256<k2
    ·clear hno
     go_wp2
     go_ret
     exact⟨rfl,rfl⟩
    ·have h5:96<(x.length:Int):=by omega
     clear hno
     go_wp2
     go_ret
     exact⟨rfl,rfl⟩
def II (W:World)(B:Nat)(k:Key):Prop:=∃ a n c,W.heap[B]?=some (.cells #[.int .i64 k.1,.int .i64 k.2,.slice a n c] 140 (0,0))
theorem II.put {B:Nat}{k:Key}(h:II W B k)(e i:Int)(a:Option Addr)(n c:Nat):II (((W.setCell ⟨B,0,none⟩ (.int .i64 e)).setCell ⟨B,1,none⟩ (.int .i64 i)).setCell ⟨B,2,none⟩ (.slice a n c)) B (e,i):=by
 obtain⟨a0,n0,c0,h0⟩:=h
 refine⟨a,n,c,?_⟩
 rw[heap_setCell_same _ _ _ _ _ _ (heap_setCell_same _ _ _ _ _ _ (heap_setCell_same _ _ _ _ _ _ h0))];rfl
theorem Bq {w:World}{B g:Nat}(h:Below B W w)(hg:B<=g)(x y z:Value):Below B W (((w.setCell ⟨g,0,none⟩ x).setCell ⟨g,1,none⟩ y).setCell ⟨g,2,none⟩ z):=((h.setCell (p:=⟨g,0,none⟩) hg x).setCell (p:=⟨g,1,none⟩) hg y).setCell (p:=⟨g,2,none⟩) hg z
theorem IJ (w:World)(r:Nat)(v:Value)(s:Bs)(ss:List eU)(h:oF w r v s ss)(vR:s.lost<=1000000)(k1 k2:Int)(xa:Option Addr)(xc:Nat)(x:List UInt8)(hx:ag w xa xc x)(ha:qW k1 k2 x=true):
  Calls Tryz.prog 42 #[.pointer (some ⟨r,0,none⟩),.int .i64 k1,.int .i64 k2,.slice xa x.length xc] w λe w'=>e=.returned (.int .i64 (fT s k1 k2 x))/\fB w r v (gm s k1 k2 x) w':=by
 obtain⟨va,iG,rfl,hcap,hmax,-⟩:=h.row.shape
 obtain⟨hlen,h64⟩:=h.len
 obtain⟨a1,a2,a3,a4,a5⟩:=kM.1 ha
 have b1:¬ (k1<0):=by omega
 have b2:¬ (65535<k1):=by omega
 have b3:¬ (k2<1):=by omega
 have b4:¬ (256<k2):=by omega
 have b5:¬ (96<(x.length:Int)):=by omega
 have HP:Hid (∀ W,Below w.heap.size w W->oF W r (.slice va ss.length iG) s ss):=λW hb=>h.below hb
 have HH:Hid (oF w r (.slice va ss.length iG) s ss):=h
 have HX:Hid (ag w xa xc x/\x.length<=96/\qW k1 k2 x=true):=⟨hx,a5,ha⟩
 have oG:Hid ((gm s k1 k2 x).ok):=zT h.ok k1 k2 x
 obtain⟨N,hN⟩:=ai ss.length
 obtain⟨mo,hmo⟩:=ai s.most
 have HN:Hid (N=ss.length/\N=s.L.length/\N<=64/\mo=s.most/\s.L.length<=s.most/\1<=s.most):=⟨hN,by omega,by omega,hmo,h.ok.len,h.ok.lo⟩
 have PW:N<=64:=by omega
 have hcm:iG<=9223372036854775807:=by unfold maxLen at hmax;omega
 obtain⟨xl,hxl⟩:=ai x.length
 have VM:Hid (xl=x.length):=hxl
 have c1:=h.at'.c1
 rw[<-hN] at HP hcap c1
 rw[<-hxl] at b5 ⊢
 clear h hx ha a1 a2 a3 a4 a5 hlen h64 hmax hN hmo hxl
 go_enter Tryz.func42,Tryz.ntmps42
 go_wp2
 clear c1
 go_loopw [9] (λs9 wr=>∃ t:Nat,s9=.int .i64 (t:Int)/\t<=N/\(∀ j y,j<t->ss[j]?=some y->(y.1.b==x)=false)/\Below w.heap.size w wr) (λs9 _=>N-(intOf s9).toNat)
 case atStart=>exact⟨0,rfl,Nat.zero_le _,(λj y hj=>by omega),Below.refl _ _⟩
 case round=>
  obtain⟨t,rfl,ht,hno,hbel⟩:=hrel
  have Pt:Hid (∀ j y,j<t->ss[j]?=some y->(y.1.b==x)=false):=hno
  clear hno
  have hP:=HP.out wr hbel
  have c1:=hP.at'.c1
  by_cases hlt:t<N
  ·obtain⟨y,hy⟩:∃ y,ss[t]?=some y:=⟨ss[t]'(by have:=HN.out;omega),by rw[List.getElem?_eq_getElem]⟩
   obtain⟨-,q,rfl,hcell⟩:=hP.row.get hy
   have x2:=hcell 2 _ rfl
   rw[show zM.n=3 from rfl] at x2
   have hsy:=hP.seen y (List.mem_of_getElem? hy)
   have hsx:=HX.out.1.below hbel
   obtain⟨yl,hyl⟩:=ai y.1.b.length
   obtain⟨ya,hya⟩:=ai y.2.1
   obtain⟨yc,TC⟩:=ai y.2.2
   obtain⟨yb,hyb⟩:=ai y.1.b
   have u1:(Go.convert 24 9 (.slice ya yl yc)).run Tryz.prog wr.drew=.ok (.string ⟨yb.toArray⟩) wr.drew:=by rw[hyl,hya,TC,hyb];exact(hsy.drewN 1).convert (P:=Tryz.prog) 24 5 9 Tryz.underlying24 Tryz.underlying5 Tryz.underlying9
   have u2:(Go.convert 24 9 (.slice xa xl xc)).run Tryz.prog wr.drew=.ok (.string ⟨x.toArray⟩) wr.drew:=by rw[VM.out];exact(hsx.drewN 1).convert (P:=Tryz.prog) 24 5 9 Tryz.underlying24 Tryz.underlying5 Tryz.underlying9
   have x2':wr.cell? ⟨q,t*3+2,none⟩=some (.slice ya yl yc):=by rw[hyl,hya,TC];exact x2
   have g1:(t:Int)<(N:Int):=by omega
   have g2:(0:Int)<=(t:Int):=Int.natCast_nonneg _
   have e1:IntKind.i64.wrap ((t:Int)+1)=((t+1:Nat):Int):=by rw[IntKind.wrap_i64];omega
   have HB:Hid (Below w.heap.size w wr.drew):=hbel.drew
   have HJ:Hid (t<N/\ss[t]?=some y/\yb=y.1.b):=⟨hlt,hy,hyb⟩
   clear hP hy hcell x2 hsy hsx hyl hya TC hyb hbel ht hlt
   by_cases hq:yb=x
   ·have HE:Hid ((4:Int)=fT s k1 k2 x/\fB w r (.slice (some ⟨q,0,none⟩) ss.length iG) (gm s k1 k2 x) wr.drew):=by
     have hh:mV s.L x=true:=by
      rw[mV,<-HH.out.its,List.any_map]
      exact List.any_eq_true.2 ⟨y,List.mem_of_getElem? HJ.out.2.1,by simp[<-HJ.out.2.2,hq]⟩
     refine⟨by simp[fT,HX.out.2.2,hh],?_⟩
     rw[show gm s k1 k2 x=s by simp[gm,HX.out.2.2,hh]]
     exact fB.refl HH.out HB.out
    subst hq
    clear Pt HP HH HX oG
    go_wp2_with fail
    go_region
    go_wp2
    go_ret
    exact⟨by rw[<-HE.out.1];rfl,HE.out.2⟩
   ·have hne:(yb==x)=false:=by simpa using hq
    have LD:Hid (∀ j y,j<t+1->ss[j]?=some y->(y.1.b==x)=false):=λj z hj hz=>by
     by_cases e:j=t
     ·subst e
      have h9:=HJ.out.2.1
      rw[hz] at h9
      cases h9
      rw[<-HJ.out.2.2];exact hne
     ·exact Pt.out j z (by omega) hz
    clear hq Pt
    go_wp2_with fail
    go_region
    go_wp2
    go_roundw
    case rel=>exact⟨t+1,by first|rfl|(congr 1;omega),by have:=HJ.out.1;omega,LD.out,HB.out⟩
    case measure=>have:=HJ.out.1;simp[intOf];omega
  ·have hh:mV s.L x=false:=by
    rw[mV,<-HH.out.its,List.any_map,List.any_eq_false]
    intro y hy
    obtain⟨j,hj⟩:=List.mem_iff_getElem?.1 hy
    have:=Pt.out j y (by have:=(List.getElem?_eq_some_iff.1 hj).1;have:=HN.out;omega) hj
    simp[Function.comp,this]
   have g0:¬ (t:Int)<(N:Int):=by omega
   have Vo:Hid (fT s k1 k2 x=if s.L.length=s.most/\cnt s.L (k1,k2)=cnt s.L (full s.L) then 9 else 0):=by show fT s k1 k2 x=_;simp[fT,HX.out.2.2,hh]
   have Vp:Hid (gm s k1 k2 x=if s.L.length=s.most then (if cnt s.L (k1,k2)=cnt s.L (full s.L) then { s with lost:=s.lost+1 } else { s with lost:=s.lost+1,L:=(split (isK (full s.L)) 1 s.L).2++[⟨k1,k2,x⟩] }) else { s with L:=s.L++[⟨k1,k2,x⟩] }):=by show gm s k1 k2 x=_;simp[gm,HX.out.2.2,hh]
   obtain⟨s1,hs1⟩:=ai (if s.L.length=s.most then { s with lost:=s.lost+1,L:=(split (isK (full s.L)) 1 s.L).2 } else s:Bs)
   have Dw:Hid (s1=if s.L.length=s.most then { s with lost:=s.lost+1,L:=(split (isK (full s.L)) 1 s.L).2 } else s):=hs1
   have HB:Hid (Below w.heap.size w wr):=hbel
   have c0:=hP.at'.c0
   rw[<-HN.out.2.2.2.1] at c0
   clear hs1 hh hP hbel ht hlt Pt
   go_wp2_with fail
   go_region
   go_upto_if 65 with fail
   go_cut [] (λwx=>fB w r (.slice va ss.length iG) s1 wx/\¬ (s.L.length=s.most/\cnt s.L (k1,k2)=cnt s.L (full s.L)))
   case first=>
    obtain⟨D,hD⟩:=ai wr.drew
    rw[<-hD]
    have Vq:Hid (Below w.heap.size w D):=by rw[hD];exact HB.out.drew
    clear hD c0 c1
    have hPD:=HP.out D Vq.out
    have c1:=hPD.at'.c1
    obtain⟨h1,h2,h3,h4,h5,h6⟩:=HN.out
    by_cases hfull:s.L.length=s.most
    ·have g1:(mo:Int)<=(N:Int):=by omega
     obtain⟨B,hB⟩:=ai D.heap.size
     obtain⟨W,hW⟩:=ai (D.alloc (.cells #[.int .i64 0,.int .i64 0,.slice none 0 0] 140))
     have hbW:Below D.heap.size D W:=by rw[hW];exact(Below.refl _ _).alloc (Nat.le_refl _) _
     have HS2:Hid (Below w.heap.size w W/\W.heap[B]?=some (.cells #[.int .i64 (fk s.L 0).1,.int .i64 (fk s.L 0).2,.slice none 0 0] 140 (0,0))/\w.heap.size<=B):=⟨Vq.out.trans (hbW.mono Vq.out.size),by rw[hW,hB];exact heap_alloc_new _ _,by rw[hB];exact Vq.out.size⟩
     have HW:Hid (W=D.alloc (.cells #[.int .i64 0,.int .i64 0,.slice none 0 0] 140)):=hW
     have Br:Hid (B=D.heap.size):=hB
     have HF:Hid (s.L.length=s.most):=hfull
     have d65:Hid (decide (mo<=N)=true):=decide_eq_true (show mo<=N by omega)
     clear hPD h1 h2 h3 h4 h5 h6 hfull hB hW hbW c1
     go_wp2
     rw[<-HW.out,<-Br.out]
     clear HW Br Vq g1
     simp only[d65.out]
     rename World=>W1
     go_loopw [11,12] (λs11 s12 wq=>∃ t:Nat,s12=.int .i64 (t:Int)/\t<=N/\s11=.int .i64 (fm s.L t:Int)/\Below w.heap.size w wq/\II wq B (fk s.L t)) (λ_ s12 _=>N-(intOf s12).toNat)
     case atStart=>exact⟨0,rfl,Nat.zero_le _,rfl,HS2.out.1,none,0,0,HS2.out.2.1⟩
     case round=>
      rename World=>wq
      obtain⟨t,rfl,ht,rfl,hbel,hbx⟩:=hrel
      have hP:=HP.out wq hbel
      have c1:=hP.at'.c1
      obtain⟨n1,n2,n3,n4,n5,n6⟩:=HN.out
      have hBw:=HS2.out.2.2
      obtain⟨ba,bn,bc,hbb⟩:=id hbx
      by_cases hlt:t<N
      ·obtain⟨y,hy⟩:∃ y,ss[t]?=some y:=⟨ss[t]'(by omega),by rw[List.getElem?_eq_getElem]⟩
       have hy':s.L[t]?=some y.1:=by rw[<-HH.out.its,List.getElem?_map,hy];rfl
       obtain⟨-,q,hq,hcell⟩:=hP.row.get hy
       subst hq
       have x0:=hcell 0 _ rfl
       have x1:=hcell 1 _ rfl
       have x2:=hcell 2 _ rfl
       rw[show zM.n=3 from rfl] at x0 x1 x2
       rw[Nat.add_zero] at x0
       obtain⟨VN,VO⟩:=TB hy'
       have KC:Hid (∀ j,Calls Tryz.prog 83 #[.pointer (some ⟨r,0,none⟩),.int .i64 y.1.e,.int .i64 y.1.i] (wq.drewN j) λe w'=>e=.returned (.int .i64 (cnt s.L y.1.k:Int))/\w'=wq.drewN j):=λj=>yC (wq.drewN j) r _ s ss (HP.out (wq.drewN j) (below_drewN hbel j)) y.1.k
       obtain⟨cy,hcy⟩:=ai (cnt s.L y.1.k)
       obtain⟨fmt,hfmt⟩:=ai (fm s.L t)
       rw[<-hcy] at KC VN VO
       rw[<-hfmt] at VN VO ⊢
       obtain⟨ye,hye⟩:=ai y.1.e
       obtain⟨yi,hyi⟩:=ai y.1.i
       obtain⟨yl,hyl⟩:=ai y.1.b.length
       obtain⟨ya,hya⟩:=ai y.2.1
       obtain⟨yc,TC⟩:=ai y.2.2
       rw[<-hye,<-hyi] at KC
       have x0':wq.cell? ⟨q,t*3,none⟩=some (.int .i64 ye):=by rw[hye];exact x0
       have x1':wq.cell? ⟨q,t*3+1,none⟩=some (.int .i64 yi):=by rw[hyi];exact x1
       have x2':wq.cell? ⟨q,t*3+2,none⟩=some (.slice ya yl yc):=by rw[hyl,hya,TC];exact x2
       have g2:(t:Int)<(N:Int):=by omega
       have g3:(0:Int)<=(t:Int):=Int.natCast_nonneg _
       have e1:IntKind.i64.wrap ((t:Int)+1)=((t+1:Nat):Int):=by rw[IntKind.wrap_i64];omega
       have HJ:Hid (t<N):=hlt
       have z0:=cell_of_row _ _ 0 _ _ _ hbb
       have z1:=cell_of_row _ _ 1 _ _ _ hbb
       have z2:=cell_of_row _ _ 2 _ _ _ hbb
       have y0:=frozen_of_row _ _ 0 _ _ hbb
       have y1:=frozen_of_row _ _ 1 _ _ hbb
       have y2:=frozen_of_row _ _ 2 _ _ hbb
       have sd:∀ (W:World) j x v,(W.drewN j).setCell x v=(W.setCell x v).drewN j:=λ_ _ _ _=>rfl
       have hyk:y.1.k=(ye,yi):=by rw[hye,hyi];rfl
       by_cases hc:fmt<cy
       ·obtain⟨q1,q2⟩:=VN hc
        have HE:Hid (∀ j,(cy:Int)=(fm s.L (t+1):Int)/\Below w.heap.size w ((((wq.setCell ⟨B,0,none⟩ (.int .i64 ye)).setCell ⟨B,1,none⟩ (.int .i64 yi)).setCell ⟨B,2,none⟩ (.slice ya yl yc)).drewN j)/\II ((((wq.setCell ⟨B,0,none⟩ (.int .i64 ye)).setCell ⟨B,1,none⟩ (.int .i64 yi)).setCell ⟨B,2,none⟩ (.slice ya yl yc)).drewN j) B (fk s.L (t+1))):=λj=>by
         rw[q1,q2,hyk]
         exact⟨rfl,below_drewN (Bq hbel hBw _ _ _) j,hbx.put ye yi ya yl yc⟩
        have g4:(fmt:Int)<(cy:Int):=by omega
        clear hP n1 n2 n3 n4 n5 n6 hBw hbx hbb hy hy' hcell x0 x1 x2 VN VO hcy hfmt hye hyi hyl hya TC hyk hc q1 q2 hbel ht hlt
        go_wp2_with fail
        go_quiet (first|(go_at_call 83;exact Calls.quiet_of_same (KC.out _)))
        go_wp2
        go_roundw
        case rel=>exact⟨t+1,by first|rfl|(congr 1;omega),by have:=HJ.out;omega,by rw[<-(HE.out 0).1],(HE.out _).2.1,(HE.out _).2.2⟩
        case measure=>have:=HJ.out;simp[intOf];omega
       ·obtain⟨q1,q2⟩:=VO hc
        have HE:Hid (∀ j,(fmt:Int)=(fm s.L (t+1):Int)/\Below w.heap.size w (wq.drewN j)/\II (wq.drewN j) B (fk s.L (t+1))):=λj=>by
         rw[q1,q2]
         exact⟨rfl,below_drewN hbel j,hbx⟩
        have g4:¬ (fmt:Int)<(cy:Int):=by omega
        clear hP n1 n2 n3 n4 n5 n6 hBw hbx hbb hy hy' hcell x0 x1 x2 VN VO hcy hfmt hye hyi hyl hya TC hyk hc q1 q2 hbel ht hlt
        go_wp2_with fail
        go_quiet (first|(go_at_call 83;exact Calls.quiet_of_same (KC.out _)))
        go_wp2
        go_roundw
        case rel=>exact⟨t+1,by first|rfl|(congr 1;omega),by have:=HJ.out;omega,by rw[<-(HE.out 0).1],(HE.out _).2.1,(HE.out _).2.2⟩
        case measure=>have:=HJ.out;simp[intOf];omega
      ·have Vr:t=s.L.length:=by omega
       have hne:s.L≠[]:=λe=>by have h9:=HF.out;rw[e] at h9;simp at h9;omega
       obtain⟨fe1,fe2⟩:=VL hne
       rw[Vr,fe1] at hbx hbb
       rw[Vr,fe2]
       rw[<-n2]
       obtain⟨F,hF⟩:=ai (full s.L)
       rw[<-hF] at hbx hbb ⊢
       obtain⟨LO,hLO⟩:=ai (s.lost+1)
       have e1:IntKind.i64.wrap ((s.lost:Int)+1)=(LO:Int):=by rw[IntKind.wrap_i64];omega
       have c2:=hP.at'.c2
       have f2:=hP.at'.fz 2
       obtain⟨W2,hW2⟩:=ai (wq.setCell ⟨r,2,none⟩ (.int .i64 (LO:Int)))
       have jh:Apart (λk=>k=r) wq W2:=by rw[hW2];exact(Apart.refl (λk=>k=r) wq).setCell (b:=r) (.inl rfl) 2 _
       have hR2:oF W2 r (.slice va ss.length iG) { s with lost:=LO } ss:=by
        have hP2:oF wq r (.slice va ss.length iG) s ss:=by rw[<-n1];exact hP
        refine⟨by rw[hW2];exact hP2.at'.PU LO,hP2.row.apart jh λj hj e=>hP2.vr (e▸hj),hP2.its,hP2.seen.apart jh λj hj=>hj▸hP2.plain (.inl rfl),⟨hP2.ok.lo,hP2.ok.hi,hP2.ok.len,hP2.ok.arg⟩⟩
       have hBr:B≠r:=by have:=HH.out.at'.lt;omega
       have hb2:W2.heap[B]?=some (.cells #[.int .i64 F.1,.int .i64 F.2,.slice ba bn bc] 140 (0,0)):=(jh.block B (Array.getElem?_eq_some_iff.1 hbb).1 hBr).trans hbb
       have FU:Hid (Apart (λk=>k=r) w W2):=(Apart.of_below (F:=λk=>k=r) hbel).trans jh λi hi=>.inl hi
       have hmax:=(Bt (L:=s.L) (k1,k2) hne).1
       have hany:=Bu hne
       rw[<-hF] at hmax hany
       obtain⟨YD,VP⟩:=tJ (isK F) s.L hany
       have hll:=Bv (isK F) s.L hne
       have KC:Hid (Calls Tryz.prog 83 #[.pointer (some ⟨r,0,none⟩),.int .i64 k1,.int .i64 k2] W2 λe w'=>e=.returned (.int .i64 (cnt s.L (k1,k2):Int))/\w'=W2):=yC W2 r _ { s with lost:=LO } ss hR2 (k1,k2)
       have HW2:Hid (W2=wq.setCell ⟨r,2,none⟩ (.int .i64 (LO:Int))):=hW2
       have VQ:Hid (F=full s.L/\LO=s.lost+1/\N=s.L.length/\N=ss.length/\(split (isK F) 1 s.L).2=s.L.eraseIdx (gJ (isK F) s.L)/\gJ (isK F) s.L<s.L.length):=⟨hF,hLO,n2,n1,VP,hll⟩
       have HR2:Hid (oF W2 r (.slice va ss.length iG) { s with lost:=LO } ss/\W2.heap[B]?=some (.cells #[.int .i64 F.1,.int .i64 F.2,.slice ba bn bc] 140 (0,0))):=⟨hR2,hb2⟩
       obtain⟨co,hco⟩:=ai (cnt s.L (k1,k2))
       obtain⟨cf,hcf⟩:=ai (cnt s.L F)
       rw[<-hco] at KC hmax
       rw[<-hcf] at hmax ⊢
       have xZ:Hid (co=cnt s.L (k1,k2)/\cf=cnt s.L F):=⟨hco,hcf⟩
       obtain⟨lo,hlo⟩:=ai s.lost
       rw[<-hlo] at e1 c2
       have g2:¬ ((N:Int)<(N:Int)):=by omega
       clear hP n1 n2 n3 n4 n5 n6 hBw hbx hbb hlt ht hbel Vr fe1 fe2 hF hLO hW2 jh hR2 hBr hb2 hany YD VP hll hco hcf hlo hne
       by_cases hcc:co=cf
       ·have g3:(cf:Int)<=(co:Int):=by omega
        have HE:Hid ((9:Int)=fT s k1 k2 x/\fB w r (.slice va ss.length iG) (gm s k1 k2 x) W2):=by
         have e0:cnt s.L (k1,k2)=cnt s.L (full s.L):=by rw[<-VQ.out.1,<-xZ.out.1,<-xZ.out.2];exact hcc
         refine⟨by rw[Vo.out,if_pos ⟨HF.out,e0⟩],?_⟩
         rw[Vp.out,if_pos HF.out,if_pos e0,<-VQ.out.2.1]
         exact⟨_,ss,HR2.out.1,FU.out,λj hj=>.inl hj⟩
        clear hcc hmax
        go_wp2_with fail
        rw[<-HW2.out]
        refine KC.out.mono ?_
        rintro e w' ⟨rfl,rfl⟩
        go_wp2
        go_ret
        exact⟨by rw[<-HE.out.1];rfl,HE.out.2⟩
       ·have g3:¬ ((cf:Int)<=(co:Int)):=by omega
        have PY:Hid (¬ (s.L.length=s.most/\cnt s.L (k1,k2)=cnt s.L (full s.L))):=λh=>hcc (by rw[xZ.out.1,xZ.out.2,VQ.out.1];exact h.2)
        clear hcc hmax
        go_wp2_with fail
        rw[<-HW2.out]
        refine KC.out.mono ?_
        rintro e w' ⟨rfl,rfl⟩
        clear HW2 KC c1 c2 f2 e1
        go_wp2
        rename World=>W3
        have HR3:Hid (∀ V,Below W3.heap.size W3 V->oF V r (.slice va N iG) { s with lost:=LO } ss/\V.heap[B]?=some (.cells #[.int .i64 F.1,.int .i64 F.2,.slice ba bn bc] 140 (0,0))):=λV hb=>⟨by rw[VQ.out.2.2.2.1];exact HR2.out.1.below hb,(hb.block B (Array.getElem?_eq_some_iff.1 HR2.out.2).1).trans HR2.out.2⟩
        have d117:Hid (decide (cf<=co)=false):=decide_eq_false (show ¬ cf<=co by omega)
        clear g2 g3
        simp only[d117.out]
        go_loopw [14,15] (λs14 s15 wy=>∃ t:Nat,s15=.int .i64 (t:Int)/\t<=N/\s14=.int .i64 (gJ (isK F) (s.L.take t):Int)/\Below W3.heap.size W3 wy) (λ_ s15 _=>N-(intOf s15).toNat)
        case atStart=>exact⟨0,rfl,Nat.zero_le _,rfl,Below.refl _ _⟩
        case round=>
         rename World=>wy
         obtain⟨t,rfl,ht,rfl,hbel⟩:=hrel
         obtain⟨hR,hbb⟩:=HR3.out wy hbel
         have c1:=hR.at'.c1
         obtain⟨m1,m2,m3,m4,m5,m6⟩:=VQ.out
         by_cases hlt:t<N
         ·obtain⟨y,hy⟩:∃ y,ss[t]?=some y:=⟨ss[t]'(by omega),by rw[List.getElem?_eq_getElem]⟩
          have hy':s.L[t]?=some y.1:=by rw[<-HH.out.its,List.getElem?_map,hy];rfl
          obtain⟨-,q,hq,hcell⟩:=hR.row.get hy
          subst hq
          have x0:=hcell 0 _ rfl
          have x1:=hcell 1 _ rfl
          rw[show zM.n=3 from rfl] at x0 x1
          rw[Nat.add_zero] at x0
          have hsn:gJ (isK F) (s.L.take (t+1))=if isK F y.1=true then t else gJ (isK F) (s.L.take t):=by
           rw[bJ _ _ _ hy',vS,List.length_take,Nat.min_eq_left (by omega)]
          obtain⟨ye,hye⟩:=ai y.1.e
          obtain⟨yi,hyi⟩:=ai y.1.i
          have x0':wy.cell? ⟨q,t*3,none⟩=some (.int .i64 ye):=by rw[hye];exact x0
          have x1':wy.cell? ⟨q,t*3+1,none⟩=some (.int .i64 yi):=by rw[hyi];exact x1
          have z0:=cell_of_row _ _ 0 _ _ _ hbb
          have z1:=cell_of_row _ _ 1 _ _ _ hbb
          have g4:(t:Int)<(N:Int):=by omega
          have g5:(0:Int)<=(t:Int):=Int.natCast_nonneg _
          have e1:IntKind.i64.wrap ((t:Int)+1)=((t+1:Nat):Int):=by rw[IntKind.wrap_i64];omega
          have HJ:Hid (t<N):=hlt
          have HB3:Hid (∀ j,Below W3.heap.size W3 (wy.drewN j)):=λj=>below_drewN hbel j
          obtain⟨la,hla⟩:=ai (gJ (isK F) (s.L.take t))
          rw[<-hla] at hsn ⊢
          have hke:isK F y.1=true↔ye=F.1/\yi=F.2:=by rw[qg,zO,hye,hyi]
          obtain⟨fa,fb⟩:=F
          dsimp only at z0 z1 hke
          have HY:Hid (ye=fa/\yi=fb->gJ (isK (fa,fb)) (s.L.take (t+1))=t):=λh9=>by rw[hsn,if_pos (hke.2 h9)]
          have VR:Hid (¬ (ye=fa/\yi=fb)->gJ (isK (fa,fb)) (s.L.take (t+1))=la):=λh9=>by rw[hsn,if_neg (λe=>h9 (hke.1 e))]
          clear hR hbb m1 m2 m3 m4 m5 m6 hy hy' hcell x0 x1 hsn hye hyi hla hke ht hlt hbel
          by_cases h1:ye=fa
          ·subst h1
           by_cases h2:yi=fb
           ·subst h2
            have HE:Hid (gJ (isK (ye,yi)) (s.L.take (t+1))=t):=HY.out ⟨rfl,rfl⟩
            clear HY VR
            go_wp2_with fail
            go_quiet (fail)
            go_wp2
            go_roundw
            case rel=>exact⟨t+1,by first|rfl|(congr 1;omega),by have:=HJ.out;omega,by rw[HE.out],HB3.out _⟩
            case measure=>have:=HJ.out;simp[intOf];omega
           ·have HE:Hid (gJ (isK (ye,fb)) (s.L.take (t+1))=la):=VR.out λe=>h2 e.2
            clear HY VR
            go_wp2_with fail
            go_quiet (fail)
            go_wp2
            go_roundw
            case rel=>exact⟨t+1,by first|rfl|(congr 1;omega),by have:=HJ.out;omega,by rw[HE.out],HB3.out _⟩
            case measure=>have:=HJ.out;simp[intOf];omega
          ·have HE:Hid (gJ (isK (fa,fb)) (s.L.take (t+1))=la):=VR.out λe=>h1 e.1
           have d1:decide (ye=fa)=false:=decide_eq_false h1
           clear HY VR
           go_wp2_with fail
           go_quiet (fail)
           go_wp2
           go_roundw
           case rel=>exact⟨t+1,by first|rfl|(congr 1;omega),by have:=HJ.out;omega,by rw[HE.out],HB3.out _⟩
           case measure=>have:=HJ.out;simp[intOf];omega
         ·have Vr:s.L.take t=s.L:=List.take_of_length_le (by omega)
          rw[Vr]
          obtain⟨la,hla⟩:=ai (gJ (isK F) s.L)
          rw[<-hla] at m5 m6 ⊢
          have KW:Hid (Calls Tryz.prog 84 #[.pointer (some ⟨r,0,none⟩),.int .i64 (la:Int)] wy λe w'=>e=.returned (.tuple #[])/\fB w r (.slice va ss.length iG) s1 w'/\¬ (s.L.length=s.most/\cnt s.L (k1,k2)=cnt s.L (full s.L))):=by
           refine(DN wy r _ { s with lost:=LO } ss hR la m6).mono ?_
           rintro e w' ⟨rfl,v9,ss9,q1,q2,q3⟩
           refine⟨rfl,⟨v9,ss9,?_,?_,λj hj=>?_⟩,PY.out⟩
           ·rw[Dw.out,if_pos HF.out,<-m1,m5,<-m2];exact q1
           ·exact(FU.out.trans (Apart.of_below (F:=λ_=>False) hbel) (λ_ h=>h.elim)).trans q2 λi hi=>.inl hi
           ·rcases q3 j hj with q|q
            ·exact .inl (by rw[<-m4];exact q)
            ·exact .inr (Nat.le_trans FU.out.size (Nat.le_trans hbel.size q))
          have g4:¬ (t:Int)<(N:Int):=by omega
          clear hR hbb m1 m2 m3 m4 m5 m6 Vr hla ht hlt hbel
          go_wp2_with fail
          refine KW.out.mono ?_
          rintro e w9 ⟨rfl,hE,hE2⟩
          have HE:Hid (fB w r (.slice va ss.length iG) s1 w9/\¬ (s.L.length=s.most/\cnt s.L (k1,k2)=cnt s.L (full s.L))):=⟨hE,hE2⟩
          clear hE hE2 KW
          go_wp2_with fail
          go_meet
          case rel=>exact HE.out
    ·have g1:¬ ((mo:Int)<=(N:Int)):=by omega
     have HE:Hid (fB w r (.slice va ss.length iG) s1 D/\¬ (s.L.length=s.most/\cnt s.L (k1,k2)=cnt s.L (full s.L))):=by
      rw[show s1=s from by rw[Dw.out,if_neg hfull]]
      exact⟨fB.refl HH.out Vq.out,λe=>hfull e.1⟩
     clear hPD h1 h2 h3 h4 h5 h6 hfull
     go_wp2_with fail
     go_meet
     case rel=>exact HE.out
   case rest=>
    obtain⟨⟨v',ss',hP,PZ,TD⟩,hne⟩:=hcut
    obtain⟨a,cap,rfl,-⟩:=hP.row.shape
    have e2:gm s k1 k2 x={ s1 with L:=s1.L++[⟨k1,k2,x⟩] }:=by
     rw[Vp.out,Dw.out]
     by_cases hf:s.L.length=s.most
     ·rw[if_pos hf,if_pos hf,if_neg λe=>hne ⟨hf,e⟩]
     ·rw[if_neg hf,if_neg hf]
    have hok:=oG.out
    rw[e2] at hok
    have hxs:=HX.out.1.apart PZ λj hj=>hj▸HH.out.plain (.inl rfl)
    obtain⟨a2,c2',w2,d,cd,w3,a3,c3,w5,r1,r2,r3,r4,r5,r6,r7⟩:=IE (v0:=.slice va ss.length iG) hP PZ hxs HX.out.2.1 hok
    rw[<-VM.out] at r3 r4
    obtain⟨l,hl⟩:=ai ss'.length
    rw[<-hl] at r1 r2 r4 r5 r7
    have c1c:=hP.at'.c1
    rw[<-hl] at c1c
    have HR1:Hid ((Builtin.append_ #[51,51] 51 #[.slice (some ⟨wc.heap.size,0,none⟩) 0 0,.slice a l cap]).run Tryz.prog (wc.alloc (.cells #[] 140))=.ok (.slice a2 l c2') w2):=r1
    have HR2:Hid ((Builtin.append_ #[24,24] 24 #[.slice (some ⟨w2.heap.size,0,none⟩) 0 0,.slice xa xl xc]).run Tryz.prog (w2.alloc (.cells #[] 5))=.ok (.slice d xl cd) w3):=r3
    have HR3:Hid ((Builtin.append_ #[51,51] 51 #[.slice a2 l c2',.slice (some ⟨w3.heap.size,0,none⟩) 1 1]).run Tryz.prog (w3.alloc (.cells #[.int .i64 k1,.int .i64 k2,.slice d xl cd] 140))=.ok (.slice a3 (l+1) c3) w5):=r4
    have HE:Hid ((0:Int)=fT s k1 k2 x/\fB w r (.slice va ss.length iG) (gm s k1 k2 x) (w5.setCell ⟨r,1,none⟩ (.slice a3 (l+1) c3))):=⟨by rw[Vo.out,if_neg hne],by rw[e2];exact r7⟩
    clear hP PZ TD hne e2 hok hxs r1 r3 r4 r7 hl c0 c1 Dw Vo Vp oG HB HP HH HX
    go_wp2_with (at_builtin;first|refine wpList_append_run rfl (.tmp 156) (.tmp 160) 51 rfl _ _ _ rfl rfl HR1.out ?_|refine wpList_append_run rfl (.tmp 164) (.tmp 165) 24 rfl _ _ _ rfl rfl HR2.out ?_|refine wpList_append_run rfl (.tmp 161) (.tmp 168) 51 rfl _ _ _ rfl rfl HR3.out ?_)
    go_ret
    exact⟨by rw[<-HE.out.1];rfl,HE.out.2⟩
theorem IK (w:World)(r:Nat)(v:Value)(s:Bs)(ss:List eU)(h:oF w r v s ss)(vR:s.lost<=1000000)(k1 k2:Int)(xa:Option Addr)(xc:Nat)(x:List UInt8)(hx:ag w xa xc x):
  Calls Tryz.prog 42 #[.pointer (some ⟨r,0,none⟩),.int .i64 k1,.int .i64 k2,.slice xa x.length xc] w λe w'=>e=.returned (.int .i64 (fT s k1 k2 x))/\fB w r v (gm s k1 k2 x) w':=by
 cases ha:qW k1 k2 x
 ·refine(zS w r k1 k2 xa xc x ha).mono ?_
  rintro e w' ⟨rfl,rfl⟩
  rw[show fT s k1 k2 x=1 by simp[fT,ha],show gm s k1 k2 x=s by simp[gm,ha]]
  exact⟨rfl,fB.refl h (Below.refl _ _)⟩
 ·exact IJ w r v s ss h vR k1 k2 xa xc x hx ha
end Go.Proofs.YtmffplhaclnehaaGreatDoor
