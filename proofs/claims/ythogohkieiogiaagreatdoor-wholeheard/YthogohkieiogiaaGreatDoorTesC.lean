/-
  The program's receiver: a later key of its chain, the first anchor of an epoch.
  The program's receiver: made, and told an anchor.
  The program's receiver: an anchor that one who is believed told.
-/
import Derived.Test.YthogohkieiogiaaGreatDoorTesA
import Derived.Deep.DeepCutAuto
namespace Go.Proofs.YthogohkieiogiaaGreatDoor
set_option maxRecDepth 20000
set_option maxHeartbeats 6400000
open Go.ChangeShapes Go.WideShapes Go.ChangeAt Go.RowKit
theorem tgoon_any (w:World)(R:Nat)(s:Rv)(n g m:Nat)(v:Value)(ka:Option Addr)(kc:Nat)(ss:List BSl)(h:PAll w R s n g m v ka kc ss)(hT:TTab w)(i:Int)(x:Option Addr)(cx:Nat)(k:List UInt8)(hx:Sees w x cx k)(hk:k.length<=140737488355328):
  Calls Tryz.prog 65 #[.pointer (some ⟨R,0,none⟩),.int .i64 i,.slice x k.length cx] w λe w'=>∃ u,e=.returned u/\ErrIs u (folP s.ix s.key i k:Int)/\PGo w R g m v (if folP s.ix s.key i k=0 then telS s i k else s) n w':=by
 have hbd:Below w.heap.size w w.drew:=(Below.refl _ _).drew
 have KF:=fol_any w.drew s.ix ka kc s.key i x cx k (hT.2.1.below hbd) (hT.2.2.below hbd) (h.key.below hbd) (hx.below hbd)
 have H:Hid (PAll w R s n g m v ka kc ss):=h
 have HX:Hid (Sees w x cx k):=hx
 have hS0:w.drew.cell? ⟨R,13,none⟩=some (.int .i64 s.ix)/\w.drew.cell? ⟨R,14,none⟩=some (.slice ka s.key.length kc):=⟨h.at'.cell 13 rfl,h.at'.cell 14 rfl⟩
 have hfm:Tryz.prog.follows .mixedOrders=true:=by kernel_rfl
 clear h hx hT hbd
 go_enter Tryz.func65,Tryz.ntmps65
 go_upto_region 1 with fail
 refine wp_region_noPanic ?_
 refine wp_region_held (S:=λV=>V.cell? ⟨R,13,none⟩=some (.int .i64 s.ix)/\V.cell? ⟨R,14,none⟩=some (.slice ka s.key.length kc)) (by kernel_rfl) ?_
 have hS:=hS0
 refine tk 0 hS ?_
 refine tk 1 hS ?_
 refine tk 2 hS ?_
 refine tk 3 hS ?_
 refine tk 4 hS ?_
 refine tk 5 hS ?_
 refine tk 6 hS ?_
 refine tk 7 hS ?_
 refine tk 8 hS ?_
 refine tk 9 hS ?_
 refine tk 10 hS ?_
 refine tk 11 hS ?_
 refine any_one 12 rfl (by kernel_rfl) (by rfl) (λK hK=>?_)
 clear hS
 go_simp
 refine KF.mono ?_
 rintro e w1 ⟨rfl,hb1⟩
 have H1:Hid (PAll w1 R s n g m v ka kc ss):=H.out.below ((Below.refl _ _).drew.trans hb1)
 have HB1:Hid (Below w.heap.size w w1):=(Below.refl _ _).drew.trans hb1
 clear hb1 KF
 refine hK.out _ _ (⟨H1.out.at'.cell 13 rfl,H1.out.at'.cell 14 rfl⟩) (λhS=>?_)
 clear hK
 (try simp only[Act.put,sT])
 refine tk 13 hS ?_
 refine wpAnyH_done (by kernel_rfl) ?_ _
 refine NoPanic.normal ?_
 clear hS hS0
 by_cases hf:folP s.ix s.key i k=0
 ·have hcl:=clone_ok w1 x cx k (HX.out.below HB1.out) hk
  rw[hf,show ((0:Nat):Int)=0 from rfl]
  go_wp2_with fail
  refine hcl.mono ?_
  rintro e w2 ⟨d,cd,rfl,hs2,hb2⟩
  have HD:Hid (Sees w2 d cd k):=hs2
  have HB2:Hid (Below w.heap.size w w2):=HB1.out.trans (hb2.mono HB1.out.size)
  have H2:Hid (PAll w2 R s n g m v ka kc ss):=H1.out.below hb2
  have c13:w2.cell? ⟨R,13,none⟩=some (.int .i64 s.ix):=H2.out.at'.cell 13 rfl
  have c14:w2.cell? ⟨R,14,none⟩=some (.slice ka s.key.length kc):=H2.out.at'.cell 14 rfl
  have f13:=H2.out.at'.fz 13
  have f14:=H2.out.at'.fz 14
  clear hcl hs2 hb2
  go_wp2
  go_ret
  refine⟨_,rfl,.inl ⟨rfl,rfl⟩,?_⟩
  obtain⟨q1,a1⟩:=H2.out.set 13 (.int .i64 i) (t:={ s with ix:=i }) (kb:=ka) (kd:=kc) rfl rfl H2.out.key
  obtain⟨q2,a2⟩:=q1.set 14 (.slice d k.length cd) (t:=telS s i k) (kb:=d) (kd:=cd) rfl rfl (HD.out.apart a1 λj hj=>H2.out.plain hj)
  exact PGo.same q2 (((Apart.of_below HB2.out).trans a1 λ_ h=>.inl h).trans a2 λ_ h=>.inl h)
 ·have d:(((folP s.ix s.key i k:Nat):Int)==0)=false:=by simpa using hf
  go_wp2_with fail
  refine(trefuse_some _ _ d w1).mono ?_
  rintro e w1' ⟨rfl,rfl⟩
  unfold trefV
  go_wp2
  go_ret
  exact⟨_,rfl,.inr ⟨d,_,rfl⟩,PGo.same H1.out (Apart.of_below HB1.out)⟩
def taC (e t i:Int)(x:Option Addr)(l cx:Nat):Array Value:=#[.int .i64 e,.int .i64 t,.int .i64 i,.slice x l cx]
theorem taC_one (e t i:Int)(x:Option Addr)(l cx:Nat):(taC e t i x l cx).all (·.oneCell')=true:=by simp[taC,Value.oneCell']
def AnAt (w:World)(B:Nat)(e t i:Int)(x:Option Addr)(l cx:Nat):Prop:=w.heap[B]?=some (.cells (taC e t i x l cx) 75 (0,0))
theorem AnAt.lt {w:World}{B:Nat}{e t i:Int}{x:Option Addr}{l cx:Nat}(h:AnAt w B e t i x l cx):B<w.heap.size:=(Array.getElem?_eq_some_iff.1 h).1
theorem AnAt.below {w w':World}{B:Nat}{e t i:Int}{x:Option Addr}{l cx:Nat}(h:AnAt w B e t i x l cx)(hb:Below w.heap.size w w'):AnAt w' B e t i x l cx:=(hb.block B h.lt).trans h
theorem AnAt.c0 {w:World}{B:Nat}{e t i:Int}{x:Option Addr}{l cx:Nat}(h:AnAt w B e t i x l cx):w.cell? ⟨B,0,none⟩=some (.int .i64 e):=cell_of_row _ _ 0 _ _ _ h
theorem AnAt.c1 {w:World}{B:Nat}{e t i:Int}{x:Option Addr}{l cx:Nat}(h:AnAt w B e t i x l cx):w.cell? ⟨B,1,none⟩=some (.int .i64 t):=cell_of_row _ _ 1 _ _ _ h
theorem AnAt.c2 {w:World}{B:Nat}{e t i:Int}{x:Option Addr}{l cx:Nat}(h:AnAt w B e t i x l cx):w.cell? ⟨B,2,none⟩=some (.int .i64 i):=cell_of_row _ _ 2 _ _ _ h
theorem AnAt.c3 {w:World}{B:Nat}{e t i:Int}{x:Option Addr}{l cx:Nat}(h:AnAt w B e t i x l cx):w.cell? ⟨B,3,none⟩=some (.slice x l cx):=cell_of_row _ _ 3 _ _ _ h
theorem AnAt.fz {w:World}{B:Nat}{e t i:Int}{x:Option Addr}{l cx:Nat}(h:AnAt w B e t i x l cx)(j:Nat):w.frozen? ⟨B,j,none⟩=false:=frozen_of_row _ _ j _ _ h
theorem AnAt.new (w:World)(e t i:Int)(x:Option Addr)(l cx:Nat):AnAt (w.alloc (.cells (taC e t i x l cx) 75)) w.heap.size e t i x l cx:=heap_alloc_new _ _
theorem AnAt.loads {w:World}{B:Nat}{e t i:Int}{x:Option Addr}{l cx:Nat}(h:AnAt w B e t i x l cx):(Instr.loadAt 75 (.pointer (some ⟨B,0,none⟩))).run Tryz.prog w=.ok (.agg (taC e t i x l cx)) w:=
 loadAt_row w B 75 75 _ (0,0) _ h Tryz.underlying75 rfl (by kernel_rfl)
theorem AnAt.put3 {w:World}{B:Nat}{e t i:Int}{x:Option Addr}{l cx:Nat}(h:AnAt w B e t i x l cx)(y:Option Addr)(l' cy:Nat):AnAt (w.setCell ⟨B,3,none⟩ (.slice y l' cy)) B e t i y l' cy:=by
 show (w.setCell ⟨B,3,none⟩ _).heap[B]?=_
 rw[heap_setCell_same _ _ _ _ _ _ h];rfl
theorem PAt.anchor {w:World}{R:Nat}{s:Rv}{ka:Option Addr}{kc g:Nat}(h:PAt w R s ka kc g):(Instr.loadAt 75 (.pointer (some ⟨R,11,none⟩))).run Tryz.prog w=.ok (.agg (taC s.ep s.st s.ix ka s.key.length kc)) w:=
 run_loadAt_mid w R 11 75 [.int .i64 s.ep,.int .i64 s.st,.int .i64 s.ix,.slice ka s.key.length kc] _ (λj v hv=>by
  refine h.cell (11+j) ?_
  match j,hv with
  | 0,hv=>exact hv
  | 1,hv=>exact hv
  | 2,hv=>exact hv
  | 3,hv=>exact hv
  | j+4,hv=>simp at hv) Tryz.underlying75 rfl (by kernel_rfl)
def setAn (w:World)(R:Nat)(e t i:Int)(x:Option Addr)(l cx:Nat):World:=(((w.setCell ⟨R,11,none⟩ (.int .i64 e)).setCell ⟨R,12,none⟩ (.int .i64 t)).setCell ⟨R,13,none⟩ (.int .i64 i)).setCell ⟨R,14,none⟩ (.slice x l cx)
theorem PAt.stores {w:World}{R:Nat}{s:Rv}{ka:Option Addr}{kc g:Nat}(h:PAt w R s ka kc g)(e t i:Int)(x:Option Addr)(l cx:Nat):(Instr.storeAt 75 (.pointer (some ⟨R,11,none⟩)) (.agg (taC e t i x l cx))).run Tryz.prog w=.ok () (setAn w R e t i x l cx):=
 run_storeAt_mid w R 11 75 (taC e t i x l cx) (λj hj=>⟨by
  have hj':j<4:=hj
  match j,hj' with
  | 0,_=>rw[h.cell (11+0) rfl];rfl
  | 1,_=>rw[h.cell (11+1) rfl];rfl
  | 2,_=>rw[h.cell (11+2) rfl];rfl
  | 3,_=>rw[h.cell (11+3) rfl];rfl,h.fz _⟩) (by kernel_rfl) (taC_one e t i x l cx)
theorem PAll.setAn {w:World}{R:Nat}{s:Rv}{n g m:Nat}{v:Value}{ka:Option Addr}{kc:Nat}{ss:List BSl}(h:PAll w R s n g m v ka kc ss)(e t i:Int)(x:Option Addr)(cx:Nat)(k:List UInt8)(hk:Sees w x cx k):
  PAll (setAn w R e t i x k.length cx) R { s with ep:=e,st:=t,ix:=i,key:=k } n g m v x cx ss/\Apart (POwn R g m v) w (setAn w R e t i x k.length cx):=by
 obtain⟨q1,a1⟩:=h.set 11 (.int .i64 e) (t:={ s with ep:=e }) (kb:=ka) (kd:=kc) rfl rfl h.key
 obtain⟨q2,a2⟩:=q1.set 12 (.int .i64 t) (t:={ s with ep:=e,st:=t }) (kb:=ka) (kd:=kc) rfl rfl q1.key
 obtain⟨q3,a3⟩:=q2.set 13 (.int .i64 i) (t:={ s with ep:=e,st:=t,ix:=i }) (kb:=ka) (kd:=kc) rfl rfl q2.key
 have a12:=a1.trans a2 λ_ h=>.inl h
 have a13:=a12.trans a3 λ_ h=>.inl h
 obtain⟨q4,a4⟩:=q3.set 14 (.slice x k.length cx) (t:={ s with ep:=e,st:=t,ix:=i,key:=k }) (kb:=x) (kd:=cx) rfl rfl (hk.apart a13 λj hj=>h.plain hj)
 exact⟨q4,a13.trans a4 λ_ h=>.inl h⟩
theorem tbegin_ok (w:World)(R:Nat)(s:Rv)(n g m:Nat)(v:Value)(ka:Option Addr)(kc:Nat)(ss:List BSl)(h:PAll w R s n g m v ka kc ss)(hn:n<=90000000)(e t i:Int)(x:Option Addr)(cx:Nat)(k:List UInt8)(hx:Sees w x cx k)(hk:k.length<=140737488355328):
  Calls Tryz.prog 64 #[.pointer (some ⟨R,0,none⟩),.agg (taC e t i x k.length cx)] w λev w'=>ev=.returned (.tuple #[])/\PGo w R g m v { s with ep:=e,st:=t,ix:=i,key:=k,b:=dropV s.b (e,0) } (n+64) w':=by
 obtain⟨B,hB⟩:∃ B,B=w.heap.size:=⟨_,rfl⟩
 obtain⟨W,hW⟩:∃ W,W=w.alloc (.cells (taC e t i x k.length cx) 75):=⟨_,rfl⟩
 have hb:Below w.heap.size w W:=by rw[hW];exact(Below.refl _ _).alloc (Nat.le_refl _) _
 have hA:AnAt W B e t i x k.length cx:=by rw[hW,hB];exact AnAt.new w e t i x k.length cx
 have hcl:=clone_ok W x cx k (hx.below hb) hk
 have H:Hid (PAll W R s n g m v ka kc ss):=h.below hb
 have HA:Hid (AnAt W B e t i x k.length cx):=hA
 have HB:Hid (B=w.heap.size):=hB
 have HW:Hid (Below w.heap.size w W):=hb
 have HO:Hid (∀ j,POwn R g m v j->j<B):=λj hj=>by rw[hB];exact h.lt hj
 have hcB:W.cell? ⟨w.heap.size,3,none⟩=some (.slice x k.length cx):=by rw[<-hB];exact hA.c3
 have hfm:Tryz.prog.follows .mixedOrders=true:=by kernel_rfl
 clear h hx hk hA hb
 go_enter Tryz.func64,Tryz.ntmps64
 go_upto_region 1 with fail
 rw[<-hW]
 rw[<-hB] at hcB ⊢
 clear hW hB
 go_wp2_with fail
 refine hcl.mono ?_
 rintro ev w2 ⟨d,cd,rfl,hs2,hb2⟩
 obtain⟨l,hl⟩:∃ l,l=k.length:=⟨_,rfl⟩
 have hA2:=HA.out.below hb2
 have c3:=hA2.c3
 have f3:=hA2.fz 3
 obtain⟨W3,hW3⟩:∃ W3,W3=w2.setCell ⟨B,3,none⟩ (.slice d k.length cd):=⟨_,rfl⟩
 have hA3:AnAt W3 B e t i d k.length cd:=by rw[hW3];exact hA2.put3 d k.length cd
 have ha3:Apart (λj=>j=B) w2 W3:=by rw[hW3];exact(Apart.refl (λj=>j=B) w2).setCell (b:=B) (.inl rfl) 3 _
 have hpl:∀ j,j=B->Plain w2 j:=λj ej=>ej▸NoByte.plain (cur:=taC e t i x k.length cx) (λu hu q y=>by
  simp only[taC,List.mem_cons,List.not_mem_nil,or_false] at hu
  rcases hu with rfl|rfl|rfl|rfl<;>intro ee<;>cases ee<;>rfl) hA2
 have h2:=H.out.below hb2
 have hBn:∀ j,j=B->¬ POwn R g m v j:=λj ej hj=>by have:=HO.out j hj;omega
 have H3:Hid (PAll W3 R s n g m v ka kc ss):=h2.apart ha3 hBn hpl
 have H03:Hid (Apart (POwn R g m v) w W3):=by
  refine((Apart.of_below HW.out).trans (Apart.of_below (F:=λ_=>False) hb2) (λ_ h=>h.elim)).trans ha3 λj ej=>.inr ?_
  rw[ej,HB.out];exact Nat.le_refl _
 have HS3:Hid (Sees W3 d cd k):=hs2.apart ha3 hpl
 have HL:Hid ((Instr.loadAt 75 (.pointer (some ⟨B,0,none⟩))).run Tryz.prog W3=.ok (.agg (taC e t i d k.length cd)) W3):=hA3.loads
 obtain⟨W4,hW4⟩:∃ W4,W4=setAn W3 R e t i d k.length cd:=⟨_,rfl⟩
 have HST:Hid ((Instr.storeAt 75 (.pointer (some ⟨R,11,none⟩)) (.agg (taC e t i d k.length cd))).run Tryz.prog W3=.ok () W4):=by rw[hW4];exact H3.out.at'.stores e t i d k.length cd
 have h4:=H3.out.setAn e t i d cd k HS3.out
 rw[<-hW4] at h4
 have H4:Hid (PAll W4 R { s with ep:=e,st:=t,ix:=i,key:=k } n g m v d cd ss):=h4.1
 have H04:Hid (Apart (POwn R g m v) w W4):=H03.out.trans h4.2 λ_ h=>.inl h
 have HA4:Hid (AnAt W4 B e t i d k.length cd):=(h4.2.block B hA3.lt (hBn B rfl)).trans hA3
 have KD:=drop_ok W4.drew g m v s.b ss n (H4.out.buf.below (Below.refl _ _).drew) hn (e,0)
 have hS0:W4.drew.cell? ⟨R,16,none⟩=some (.pointer (some ⟨g,0,none⟩))/\W4.drew.cell? ⟨B,0,none⟩=some (.int .i64 e):=⟨H4.out.at'.c16,HA4.out.c0⟩
 clear hW4 h4 hA3 hA2 hpl h2 hBn hs2 hb2 hcl hcB ha3
 go_upto_region 2 with fail
 rw[<-hW3]
 clear hW3 c3 f3
 go_wp2_with (first|(refine wpList_gload_run rfl 75 _ rfl _ _ rfl HL.out ?_)|(refine wpList_store_run rfl 75 _ _ rfl _ _ rfl rfl HST.out ?_)|fail)
 refine wp_region_noPanic ?_
 refine wp_region_held (S:=λV=>V.cell? ⟨R,16,none⟩=some (.pointer (some ⟨g,0,none⟩))/\V.cell? ⟨B,0,none⟩=some (.int .i64 e)) (by kernel_rfl) ?_
 have hS:=hS0
 refine tk 0 hS ?_
 refine tk 1 hS ?_
 refine tk 2 hS ?_
 refine tk 3 hS ?_
 refine tk 4 hS ?_
 refine tk 5 hS ?_
 refine any_one 6 rfl (by kernel_rfl) (by rfl) (λK hK=>?_)
 clear hS
 go_simp
 refine KD.mono ?_
 rintro ev w5 ⟨rfl,hp5⟩
 have hg5:=PLeft.go (H4.out.below (Below.refl _ _).drew) hp5
 obtain⟨v5,ss5,hb5,ha5,ho5⟩:=hp5
 have hR5:=(ha5.block R H4.out.at'.lt H4.out.ne).trans H4.out.at'
 have hB5:w5.cell? ⟨B,0,none⟩=some (.int .i64 e):=ha5.cell HA4.out.c0 λhO=>by have:=HO.out B (.inr hO);omega
 refine hK.out _ _ (⟨PAt.c16 hR5,hB5⟩) (λhS=>?_)
 clear hK
 (try simp only[Act.put,sT])
 refine wpAnyH_done (by kernel_rfl) ?_ _
 refine NoPanic.normal ?_
 go_end0
 exact⟨rfl,PGo.after H04.out (PGo.behind (Below.refl _ _).drew hg5)⟩
theorem AnAt.stores {w:World}{B:Nat}{e t i:Int}{x:Option Addr}{l cx:Nat}(h:AnAt w B e t i x l cx)(e' t' i':Int)(y:Option Addr)(l' cy:Nat):(Instr.storeAt 75 (.pointer (some ⟨B,0,none⟩)) (.agg (taC e' t' i' y l' cy))).run Tryz.prog w=.ok () (w.setRow B (taC e' t' i' y l' cy)):=
 storeAt_row w B 75 75 _ _ h (by kernel_rfl) rfl (taC_one _ _ _ _ _ _)
theorem AnAt.stored {w:World}{B:Nat}{e t i:Int}{x:Option Addr}{l cx:Nat}(h:AnAt w B e t i x l cx)(e' t' i':Int)(y:Option Addr)(l' cy:Nat):AnAt (w.setRow B (taC e' t' i' y l' cy)) B e' t' i' y l' cy:=setRow_heap _ _ _ _ 75 _ h
theorem anc_arg {s:Rv}{e t i:Int}{k:List UInt8}(h:¬ (0<=e/\e<=65535/\0<=t/\t<1048576/\keyArg s i k=true)):ancE s e t i k=1/\ancV s e t i k=s:=by
 have ha:ancArg s e t i k=false:=by
  rw[<-Bool.not_eq_true,ancArg_iff,<-keyArg_iff];exact h
 unfold ancE ancV
 rw[if_pos ha,if_pos ha]
 exact⟨rfl,rfl⟩
theorem anc_go {s:Rv}{e t i:Int}{k:List UInt8}(ha:0<=e/\e<=65535/\0<=t/\t<1048576/\keyArg s i k=true):
  ancE s e t i k=(if e<s.ep then 10 else if s.ep<e then 0 else if t≠s.st then 11 else if s.ix<i then (folP s.ix s.key i k:Int) else if folP i k s.ix s.key≠0 then 11 else 0) /\
  ancV s e t i k=(if e<s.ep then s else if s.ep<e then { s with ep:=e,st:=t,ix:=i,key:=k,b:=dropV s.b (e,0) } else if t≠s.st then s else if s.ix<i/\folP s.ix s.key i k=0 then telS s i k else s):=by
 have h:ancArg s e t i k=true:=by rw[ancArg_iff,<-keyArg_iff];exact ha
 have hn:¬ ancArg s e t i k=false:=by simp[h]
 unfold ancE ancV
 rw[if_neg hn,if_neg hn]
 exact⟨rfl,rfl⟩
theorem tanchored_any (w:World)(R:Nat)(s:Rv)(n g m:Nat)(v:Value)(ka:Option Addr)(kc:Nat)(ss:List BSl)(h:PAll w R s n g m v ka kc ss)(hT:TTab w)(hn:n<=90000000)(e t i:Int)(x:Option Addr)(cx:Nat)(k:List UInt8)(hx:Sees w x cx k)(hk:k.length<=140737488355328):
  Calls Tryz.prog 35 #[.pointer (some ⟨R,0,none⟩),.agg (taC e t i x k.length cx)] w λev w'=>∃ u,ev=.returned u/\ErrIs u (ancE s e t i k)/\PGo w R g m v (ancV s e t i k) (n+64) w':=by
 obtain⟨B,hB⟩:∃ B,B=w.heap.size:=⟨_,rfl⟩
 obtain⟨W1,hW1⟩:∃ W1,W1=w.alloc (.cells (taC e t i x k.length cx) 75):=⟨_,rfl⟩
 obtain⟨W2,hW2⟩:∃ W2,W2=W1.alloc (.cells (taC 0 0 0 none 0 0) 75):=⟨_,rfl⟩
 obtain⟨W3,hW3⟩:∃ W3,W3=W2.setRow (B+1) (taC s.ep s.st s.ix ka s.key.length kc):=⟨_,rfl⟩
 have hz1:W1.heap.size=B+1:=by rw[hW1,hB];simp
 have hb1:Below w.heap.size w W1:=by rw[hW1];exact(Below.refl _ _).alloc (Nat.le_refl _) _
 have hb2:Below W1.heap.size W1 W2:=by rw[hW2];exact(Below.refl _ _).alloc (Nat.le_refl _) _
 have hA1:AnAt W1 B e t i x k.length cx:=by rw[hW1,hB];exact AnAt.new w e t i x k.length cx
 have hA2:AnAt W2 (B+1) 0 0 0 none 0 0:=by rw[hW2,<-hz1];exact AnAt.new W1 0 0 0 none 0 0
 have hA3:AnAt W3 (B+1) s.ep s.st s.ix ka s.key.length kc:=by rw[hW3];exact hA2.stored _ _ _ _ _ _
 have hb3:Below W1.heap.size W1 W3:=by
  rw[hW3]
  exact⟨hb2.os,hb2.tape,hb2.output,by simpa [World.setRow] using hb2.size,λj hj=>by
   rw[<-hb2.block j hj]
   exact setRow_other W2 (B+1) j _ (by omega)⟩
 have hB3:Below w.heap.size w W3:=hb1.trans (hb3.mono hb1.size)
 have hA3':=hA1.below hb3
 have HST:Hid ((Instr.storeAt 75 (.pointer (some ⟨B+1,0,none⟩)) (.agg (taC s.ep s.st s.ix ka s.key.length kc))).run Tryz.prog (W1.alloc (.cells #[.int .i64 0,.int .i64 0,.int .i64 0,.slice none 0 0] 75))=.ok () W3):=by rw[hW3];have:=hA2.stores s.ep s.st s.ix ka s.key.length kc;rw[hW2] at this ⊢;exact this
 have HLA:Hid ((Instr.loadAt 75 (.pointer (some ⟨R,11,none⟩))).run Tryz.prog W1=.ok (.agg (taC s.ep s.st s.ix ka s.key.length kc)) W1):=(h.below hb1).at'.anchor
 have HLB:Hid ((Instr.loadAt 75 (.pointer (some ⟨B,0,none⟩))).run Tryz.prog W3=.ok (.agg (taC e t i x k.length cx)) W3):=hA3'.loads
 have H3:Hid (PAll W3 R s n g m v ka kc ss):=h.below hB3
 have HB3:Hid (Below w.heap.size w W3):=hB3
 have HT3:Hid (TTab W3):=hT.below hB3
 have HX:Hid (Sees W3 x cx k):=hx.below hB3
 have b0:=hA3'.c0
 have b1:=hA3'.c1
 have b2:=hA3'.c2
 have b3:=hA3'.c3
 have o0:=hA3.c0
 have o1:=hA3.c1
 have o2:=hA3.c2
 have o3:=hA3.c3
 have HW1:Hid (W1=w.alloc (.cells (taC e t i x k.length cx) 75)):=hW1
 clear h hT hx hW1 hW2 hW3 hb1 hb2 hb3 hA1 hA2 hA3 hA3' hB3
 go_enter Tryz.func35,Tryz.ntmps35
 go_upto_region 1 with fail
 rw[<-HW1.out]
 rw[<-hB]
 clear hB HW1
 go_upto_region 2 with (first|(refine wpList_gload_run rfl 75 _ rfl _ _ rfl HLA.out ?_)|(refine wpList_store_run rfl 75 _ _ rfl _ _ rfl rfl HST.out ?_)|fail)
 clear HST HLA hz1
 by_cases h1:e<0
 ·have HE1:Hid (ancE s e t i k=1/\ancV s e t i k=s):=anc_arg (by omega)
  go_wp2_with fail
  refine(trefuse_some _ 1 rfl _).mono ?_
  rintro ev w' ⟨rfl,rfl⟩
  unfold trefV
  go_wp2
  go_ret
  refine⟨_,rfl,by rw[HE1.out.1];exact .inr ⟨rfl,_,rfl⟩,?_⟩
  rw[HE1.out.2]
  exact(PGo.same H3.out (Apart.of_below HB3.out)).mono (by omega)
 ·skip
  by_cases h2:65535<e
  ·have HE1:Hid (ancE s e t i k=1/\ancV s e t i k=s):=anc_arg (by omega)
   go_wp2_with fail
   refine(trefuse_some _ 1 rfl _).mono ?_
   rintro ev w' ⟨rfl,rfl⟩
   unfold trefV
   go_wp2
   go_ret
   refine⟨_,rfl,by rw[HE1.out.1];exact .inr ⟨rfl,_,rfl⟩,?_⟩
   rw[HE1.out.2]
   exact(PGo.same H3.out (Apart.of_below HB3.out)).mono (by omega)
  ·skip
   by_cases h3:t<0
   ·have HE1:Hid (ancE s e t i k=1/\ancV s e t i k=s):=anc_arg (by omega)
    go_wp2_with fail
    refine(trefuse_some _ 1 rfl _).mono ?_
    rintro ev w' ⟨rfl,rfl⟩
    unfold trefV
    go_wp2
    go_ret
    refine⟨_,rfl,by rw[HE1.out.1];exact .inr ⟨rfl,_,rfl⟩,?_⟩
    rw[HE1.out.2]
    exact(PGo.same H3.out (Apart.of_below HB3.out)).mono (by omega)
   ·skip
    by_cases h4:1048576<=t
    ·have HE1:Hid (ancE s e t i k=1/\ancV s e t i k=s):=anc_arg (by omega)
     go_wp2_with fail
     refine(trefuse_some _ 1 rfl _).mono ?_
     rintro ev w' ⟨rfl,rfl⟩
     unfold trefV
     go_wp2
     go_ret
     refine⟨_,rfl,by rw[HE1.out.1];exact .inr ⟨rfl,_,rfl⟩,?_⟩
     rw[HE1.out.2]
     exact(PGo.same H3.out (Apart.of_below HB3.out)).mono (by omega)
    ·skip
     go_wp2_with fail
     refine(tiskey_ok W3 R s ka kc g H3.out.at' i x k cx (by omega)).mono ?_
     rintro ev w' ⟨rfl,hw'⟩
     subst hw'
     cases hka:keyArg s i k
     ·have HE1:Hid (ancE s e t i k=1/\ancV s e t i k=s):=anc_arg (by rw[hka];simp)
      go_wp2_with fail
      refine(trefuse_some _ 1 rfl _).mono ?_
      rintro ev w' ⟨rfl,rfl⟩
      unfold trefV
      go_wp2
      go_ret
      refine⟨_,rfl,by rw[HE1.out.1];exact .inr ⟨rfl,_,rfl⟩,?_⟩
      rw[HE1.out.2]
      exact(PGo.same H3.out (Apart.of_below HB3.out)).mono (by omega)
     ·have E:=anc_go (s:=s) (e:=e) (t:=t) (i:=i) (k:=k) ⟨by omega,by omega,by omega,by omega,hka⟩
      clear h1 h2 h3 h4
      by_cases g1:e<s.ep
      ·have HE1:Hid (ancE s e t i k=10/\ancV s e t i k=s):=⟨E.1.trans (if_pos g1),E.2.trans (if_pos g1)⟩
       clear E
       go_wp2_with fail
       refine(trefuse_some _ 10 rfl _).mono ?_
       rintro ev w' ⟨rfl,rfl⟩
       unfold trefV
       go_wp2
       go_ret
       refine⟨_,rfl,by rw[HE1.out.1];exact .inr ⟨rfl,_,rfl⟩,?_⟩
       rw[HE1.out.2]
       exact(PGo.same H3.out (Apart.of_below HB3.out)).mono (by omega)
      ·have E2:=And.intro (E.1.trans (if_neg g1)) (E.2.trans (if_neg g1))
       clear E
       by_cases g2:s.ep<e
       ·have HE1:Hid (ancE s e t i k=0/\ancV s e t i k={ s with ep:=e,st:=t,ix:=i,key:=k,b:=dropV s.b (e,0) }):=⟨E2.1.trans (if_pos g2),E2.2.trans (if_pos g2)⟩
        clear E2
        have KB:=tbegin_ok _ R s n g m v ka kc ss H3.out hn e t i x cx k HX.out hk
        go_wp2_with (first|(refine wpList_gload_run rfl 75 _ rfl _ _ rfl HLB.out ?_)|fail)
        refine KB.mono ?_
        rintro ev w' ⟨rfl,hG⟩
        clear KB b0 b1 b2 b3 o0 o1 o2 o3
        go_wp2
        go_ret
        refine⟨_,rfl,by rw[HE1.out.1];exact .inl ⟨rfl,rfl⟩,?_⟩
        rw[HE1.out.2]
        exact PGo.behind HB3.out hG
       ·have E3:=And.intro (E2.1.trans (if_neg g2)) (E2.2.trans (if_neg g2))
        clear E2
        by_cases g3:t=s.st
        ·have E4:=And.intro (E3.1.trans (if_neg (λhh=>hh g3))) (E3.2.trans (if_neg (λhh=>hh g3)))
         have g3':(t==s.st)=true:=by simpa using g3
         clear g3 E3
         by_cases g4:s.ix<i
         ·have HE1:Hid (ancE s e t i k=(folP s.ix s.key i k:Int)/\ancV s e t i k=(if folP s.ix s.key i k=0 then telS s i k else s)):=⟨E4.1.trans (if_pos g4),E4.2.trans (by
           by_cases q:folP s.ix s.key i k=0
           ·rw[if_pos ⟨g4,q⟩,if_pos q]
           ·rw[if_neg (λhh=>q hh.2),if_neg q])⟩
          clear E4
          have KG:=tgoon_any _ R s n g m v ka kc ss H3.out HT3.out i x cx k HX.out hk
          go_wp2_with fail
          refine KG.mono ?_
          rintro ev w' ⟨u,rfl,hE,hG⟩
          clear KG b0 b1 b2 b3 o0 o1 o2 o3
          have HEE:Hid (ErrIs u (folP s.ix s.key i k:Int)):=hE
          have HGG:Hid (PGo _ R g m v (if folP s.ix s.key i k=0 then telS s i k else s) n w'):=hG
          clear hE hG
          go_wp2
          go_ret
          refine⟨_,rfl,by rw[HE1.out.1];exact HEE.out,?_⟩
          rw[HE1.out.2]
          exact(PGo.behind HB3.out HGG.out).mono (by omega)
         ·have E5:=And.intro (E4.1.trans (if_neg g4)) (E4.2.trans (if_neg (λhh=>g4 hh.1)))
          clear E4
          have KF:=fol_any _ i x cx k s.ix ka kc s.key HT3.out.2.1 HT3.out.2.2 HX.out H3.out.key
          go_wp2_with fail
          refine KF.mono ?_
          rintro ev w' ⟨rfl,hb'⟩
          have H4:Hid (PGo w R g m v s (n+64) w'):=(PGo.same (H3.out.below hb') (Apart.of_below (HB3.out.trans (hb'.mono HB3.out.size)))).mono (by omega)
          clear KF b0 b1 b2 b3 o0 o1 o2 o3 hb'
          by_cases q:folP i k s.ix s.key=0
          ·have HE1:Hid (ancE s e t i k=0/\ancV s e t i k=s):=⟨E5.1.trans (if_neg (λhh=>hh q)),E5.2⟩
           clear E5
           rw[q,show ((0:Nat):Int)=0 from rfl]
           go_wp2
           go_ret
           exact⟨_,rfl,by rw[HE1.out.1];exact .inl ⟨rfl,rfl⟩,by rw[HE1.out.2];exact H4.out⟩
          ·have HE1:Hid (ancE s e t i k=11/\ancV s e t i k=s):=⟨E5.1.trans (if_pos q),E5.2⟩
           have d:(((folP i k s.ix s.key:Nat):Int)==0)=false:=by simpa using q
           clear q E5
           go_wp2_with fail
           refine(trefuse_some _ 11 rfl _).mono ?_
           rintro ev w'' ⟨rfl,rfl⟩
           unfold trefV
           go_wp2
           go_ret
           exact⟨_,rfl,by rw[HE1.out.1];exact .inr ⟨rfl,_,rfl⟩,by rw[HE1.out.2];exact H4.out⟩
        ·have HE1:Hid (ancE s e t i k=11/\ancV s e t i k=s):=⟨E3.1.trans (if_pos g3),E3.2.trans (if_pos g3)⟩
         have g3':(t==s.st)=false:=by simpa using g3
         clear g3 E3
         go_wp2_with fail
         refine(trefuse_some _ 11 rfl _).mono ?_
         rintro ev w' ⟨rfl,rfl⟩
         unfold trefV
         go_wp2
         go_ret
         refine⟨_,rfl,by rw[HE1.out.1];exact .inr ⟨rfl,_,rfl⟩,?_⟩
         rw[HE1.out.2]
         exact(PGo.same H3.out (Apart.of_below HB3.out)).mono (by omega)
theorem tanchor_any (w:World)(R:Nat)(s:Rv)(n:Nat)(F:Nat->Prop)(h:PM w R (s,n) F)(hT:TTab w)(hn:n<=90000000)(e t i:Int)(x:Option Addr)(cx:Nat)(k:List UInt8)(hx:Sees w x cx k)(hk:k.length<=140737488355328):
  Calls Tryz.prog 13 #[.pointer (some ⟨R,0,none⟩),.int .i64 e,.int .i64 t,.int .i64 i,.slice x k.length cx] w λev w'=>ev=.returned (.int .i64 (ancE s e t i k))/\Left PM w F R (ancV s e t i k,n+64) w':=by
 obtain⟨g,m,v,ka,kc,ss,h,hok,hhi,rfl⟩:=h
 dsimp only at h hok
 have hM:=tmade_ok w R g h.at'.c16
 have KA:=tanchored_any w R s n g m v ka kc ss h hT hn e t i x cx k hx hk
 unfold taC at KA
 have HT:Hid (TTab w):=hT
 have HO:Hid (s.ok/\(∀ k,POwn R g m v k->3<=k)/\R<w.heap.size):=⟨hok,hhi,h.at'.lt⟩
 clear h hok hhi hT hx hk
 go_enter Tryz.func13,Tryz.ntmps13
 go_wp2_with fail
 refine hM.mono ?_
 rintro ev w1 ⟨rfl,hw1⟩
 subst hw1
 go_wp2_with fail
 refine KA.mono ?_
 rintro ev w2 ⟨u,rfl,hE,hG⟩
 have KN:=tnumber_any u _ hE w2 (hG.tabs HO.out.2.1 HT.out).1
 have HG:Hid (PGo w1 R g m v (ancV s e t i k) (n+64) w2):=hG
 clear KA hE hG hM
 go_wp2_with fail
 refine KN.mono ?_
 rintro ev w3 ⟨rfl,hb3⟩
 clear KN
 go_wp2
 go_ret
 exact⟨rfl,(HG.out.below hb3).left (ancV_ok HO.out.1 e t i k) HO.out.2.1 HO.out.2.2⟩
end Go.Proofs.YthogohkieiogiaaGreatDoor
