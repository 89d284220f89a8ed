/- A helper. -/
import Derived.Test.YtmffplhaclnehaaGreatDoorTesX
namespace Go.Proofs.YtmffplhaclnehaaGreatDoor
set_option maxRecDepth 20000
set_option maxHeartbeats 6400000
open Go.ChangeShapes Go.WideShapes Go.ChangeAt Go.RowKit
variable {s:Rv} {w W:World} {R n:Nat}
theorem Be {e i:Int}{k:List UInt8}(h:gz s e i k≠0):jw s e i k=(s,[]):=if_pos h
theorem R9 {e i:Int}{k:List UInt8}(h:gz s e i k=0):jw s e i k=bU k i (s.ix+1) (jB s i k) (i-s.ix).toNat:=if_neg (λhh=>hh h)
def Pj (w:World)(R g m:Nat)(v:Value)(s:Rv)(n:Nat)(e i:Int)(k:List UInt8)(ev:Ending)(w':World):Prop:=
 ∃ vo u,ev=.returned (.tuple #[vo,u])/\uZ u (gz s e i k)/\iP w' vo (jw s e i k).2/\(∀ j,vo.ownBlock=some j->w.heap.size<=j)/\jb w R g m v (jw s e i k).1 (n+16448) w'
theorem KZ (w:World)(R:Nat)(s:Rv)(n g m:Nat)(v:Value)(ka:Option Addr)(kc:Nat)(ss:List eU)(h:bY w R s n g m v ka kc ss)(hok:s.ok)(hT:iw w)(hhi:∀ k,dG R g m v k->3<=k)(hn:n<=80000000)(e i:Int)(x:Option Addr)(cx:Nat)(k:List UInt8)(hx:ag w x cx k)(hk:k.length<=140737488355328):
  Calls Tryz.prog 43 #[.pointer (some ⟨R,0,none⟩),.int .i64 e,.int .i64 i,.slice x k.length cx] w λev w'=>Pj w R g m v s n e i k ev w':=by
 have c11:w.cell? ⟨R,11,none⟩=some (.int .i64 s.ep):=h.at'.cell 11 rfl
 have c13:w.cell? ⟨R,13,none⟩=some (.int .i64 s.ix):=h.at'.cell 13 rfl
 have H:Hid (bY w R s n g m v ka kc ss):=h
 have HT:Hid (iw w):=hT
 have HX:Hid (ag w x cx k):=hx
 have O8:Hid (∀ k,dG R g m v k->3<=k):=hhi
 have oG:Hid s.ok:=hok
 have NOT:Hid (∀ N:Int,(N==0)=false->gz s e i k=N->∀ w',Below w.heap.size w w'->∀ t,Pj w R g m v s n e i k (.returned (.tuple #[.slice none 0 0,fE t N])) w'):=λN hN hE w' hb t=>by
  have h0:gz s e i k≠0:=by rw[hE];simpa using hN
  refine⟨_,_,rfl,.inr ⟨by rw[hE];exact hN,t,by rw[hE]⟩,?_,(λj hj=>by cases hj),?_⟩
  ·rw[Be h0];exact iP.nil w'
  ·rw[Be h0];exact(jb.same (h.below hb) (Apart.of_below hb)).mono (by omega)
 clear h hT hx hhi hok
 go_enter Tryz.func43,Tryz.ntmps43
 by_cases h1:s.ep = -1
 ·have bG:Hid (gz s e i k=6):=if_pos (.inl (by omega))
  rw[h1] at c11
  clear h1
  go_wp2_with fail
  refine(aO _ 6 rfl _).mono ?_
  rintro ev w' ⟨rfl,rfl⟩
  unfold fE
  go_wp2
  go_ret2
  exact NOT.out 6 rfl bG.out _ (Below.refl _ _) _
 ·have d1:(s.ep == -1)=false:=by simpa using h1
  have Yk:0<=s.ep:=by rcases oG.out.ep with h|h<;>omega
  by_cases h2:s.ep=e
  ·have d2:(s.ep==e)=true:=by simpa using h2
   have U1:Hid (gz s e i k=if gU s i k=false then 1 else if i<=s.ix then 10 else (dx s.ix s.key i k:Int)):=if_neg (by omega)
   have KK:=zy w R s ka kc g H.out.at' i x k cx (by omega)
   go_wp2_with fail
   refine KK.mono ?_
   rintro ev w' ⟨rfl,hw'⟩
   subst hw'
   clear KK
   cases hka:gU s i k
   ·have bG:Hid (gz s e i k=1):=U1.out.trans (if_pos hka)
    clear hka U1
    go_wp2_with fail
    refine(aO _ 1 rfl _).mono ?_
    rintro ev w' ⟨rfl,rfl⟩
    unfold fE
    go_wp2
    go_ret2
    exact NOT.out 1 rfl bG.out _ (Below.refl _ _) _
   ·have U2:Hid (gz s e i k=if i<=s.ix then 10 else (dx s.ix s.key i k:Int)):=U1.out.trans (if_neg (by simp[hka]))
    have HKA:Hid (0<=i/\i<=s.c.k/\k.length=16):=aW.1 hka
    clear U1 hka
    by_cases h3:i<=s.ix
    ·have bG:Hid (gz s e i k=10):=U2.out.trans (if_pos h3)
     clear U2
     go_wp2_with fail
     refine(aO _ 10 rfl _).mono ?_
     rintro ev w' ⟨rfl,rfl⟩
     unfold fE
     go_wp2
     go_ret2
     exact NOT.out 10 rfl bG.out _ (Below.refl _ _) _
    ·have U3:Hid (gz s e i k=(dx s.ix s.key i k:Int)):=U2.out.trans (if_neg h3)
     have d3:decide (i<=s.ix)=false:=decide_eq_false h3
     have KG:=zA w' R s n g m v ka kc ss H.out HT.out i x cx k HX.out hk
     clear U2
     go_wp2_with fail
     refine KG.mono ?_
     rintro ev w1 ⟨u,rfl,hE,hG⟩
     clear KG c11 c13
     rcases hE with ⟨hf,rfl⟩|⟨hf,t,rfl⟩
     ·have hf0:dx s.ix s.key i k=0:=by omega
      rw[if_pos hf0] at hG
      have HZ:Hid (gz s e i k=0):=U3.out.trans hf
      obtain⟨v1,kb,kd,ss1,p1,a1',o1⟩:=id hG
      have XW:∀ k,dG R g m v1 k->3<=k:=λj hj=>by
       rcases jb.own (w:=w') (R:=R) (g:=g) (m:=m) o1 j hj with h|h
       ·exact O8.out j h
       ·have:=O8.out R (.inl rfl);have:=H.out.at'.lt;omega
      have hx0 : -1<=s.ix/\s.ix<=256:=by
       have h4:=gP oG.out.cfg
       rcases oG.out.ep with h|h<;>omega
      have ZE:=gP oG.out.cfg
      obtain⟨a0,a1,-⟩:=HKA.out
      obtain⟨cnt,hcnt⟩:=ai ((i-s.ix).toNat)
      have KR:=Dt w1 R (jB s i k) n g m v1 kb kd ss1 p1 (Bd oG.out HZ.out) (hG.tabs O8.out HT.out) XW (s.ix+1) cnt (by omega) (by show i-(s.ix+1)+1=_;omega) (by rcases oG.out.ep with h|h<;>omega) Yk hn
      have w1x:IntKind.i64.wrap (s.ix+1)=s.ix+1:=by rw[IntKind.wrap_i64];omega
      have HA1:Hid (Apart (dG R g m v) w' w1/\∀ j,v1.ownBlock=some j->v.ownBlock=some j\/w'.heap.size<=j):=⟨a1',o1⟩
      have Yt:Hid (jw s e i k=bU k i (s.ix+1) (jB s i k) cnt):=by rw[hcnt];exact R9 HZ.out
      have hc256:cnt<=257:=by omega
      clear hG p1 XW hf hf0 U3 a1' o1 hcnt
      go_wp2_with fail
      refine KR.mono ?_
      rintro ev w2 ⟨vo,rfl,hF,hO,hG2⟩
      have HF:Hid (iP w2 vo (bU k i (s.ix+1) (jB s i k) cnt).2/\(∀ j,vo.ownBlock=some j->w1.heap.size<=j)/\jb w1 R g m v1 (bU k i (s.ix+1) (jB s i k) cnt).1 (n+64*cnt) w2):=⟨hF,hO,hG2⟩
      clear hF hO hG2 KR
      go_wp2
      go_ret2
      refine⟨_,_,rfl,.inl ⟨HZ.out,rfl⟩,by rw[Yt.out];exact HF.out.1,λj hj=>?_,?_⟩
      ·exact Nat.le_trans HA1.out.1.size (HF.out.2.1 j hj)
      ·rw[Yt.out]
       obtain⟨v2,k2,k3,ss2,q1,q2,q3⟩:=HF.out.2.2
       refine jb.mono (n:=n+64*cnt) ⟨v2,k2,k3,ss2,q1,HA1.out.1.trans q2 (jb.own HA1.out.2),λj hj=>?_⟩ (by omega)
       rcases q3 j hj with h|h
       ·exact HA1.out.2 j h
       ·exact .inr (Nat.le_trans HA1.out.1.size h)
     ·have hf0:¬ dx s.ix s.key i k=0:=by simpa using hf
      rw[if_neg hf0] at hG
      have bG:Hid (gz s e i k=(dx s.ix s.key i k:Int)):=U3.out
      have HG:Hid (jb w' R g m v s n w1):=hG
      clear hG U3
      unfold fE
      go_wp2
      go_ret2
      have h0:gz s e i k≠0:=by rw[bG.out];omega
      refine⟨_,_,rfl,.inr ⟨by rw[bG.out];exact hf,t,by rw[bG.out];rfl⟩,?_,(λj hj=>by cases hj),?_⟩
      ·rw[Be h0];exact iP.nil w1
      ·rw[Be h0];exact HG.out.mono (by omega)
  ·have d2:(s.ep==e)=false:=by simpa using h2
   have bG:Hid (gz s e i k=6):=if_pos (.inr (by omega))
   go_wp2_with fail
   refine(aO _ 6 rfl _).mono ?_
   rintro ev w' ⟨rfl,rfl⟩
   unfold fE
   go_wp2
   go_ret2
   exact NOT.out 6 rfl bG.out _ (Below.refl _ _) _
theorem KE (w:World)(R:Nat)(s:Rv)(n:Nat)(F:Nat->Prop)(h:PM w R (s,n) F)(hT:iw w)(hn:n<=80000000)(e i:Int)(x:Option Addr)(cx:Nat)(k:List UInt8)(hx:ag w x cx k)(hk:k.length<=140737488355328):
  Calls Tryz.prog 15 #[.pointer (some ⟨R,0,none⟩),.int .i64 e,.int .i64 i,.slice x k.length cx] w λev w'=>∃ vo,ev=.returned (.tuple #[vo,.int .i64 (gz s e i k)])/\iP w' vo (jw s e i k).2/\(∀ j,vo.ownBlock=some j->w.heap.size<=j)/\Left PM w F R ((jw s e i k).1,n+16448) w':=by
 obtain⟨g,m,v,ka,kc,ss,h,hok,hhi,rfl⟩:=h
 dsimp only at h hok
 have hM:=lN w R g h.at'.c16
 have KA:=KZ w R s n g m v ka kc ss h hok hT hhi hn e i x cx k hx hk
 have HT:Hid (iw w):=hT
 have HO:Hid (s.ok/\(∀ k,dG R g m v k->3<=k)/\R<w.heap.size):=⟨hok,hhi,h.at'.lt⟩
 clear h hok hhi hT hx hk
 go_enter Tryz.func15,Tryz.ntmps15
 go_wp2_with fail
 refine hM.mono ?_
 rintro ev w1 ⟨rfl,hw1⟩
 subst hw1
 go_wp2_with fail
 refine KA.mono ?_
 rintro ev w2 ⟨vo,u,rfl,hE,hF,hO,hG⟩
 have KN:=qf u _ hE w2 (hG.tabs HO.out.2.1 HT.out).1
 have HG:Hid (iP w2 vo (jw s e i k).2/\(∀ j,vo.ownBlock=some j->w1.heap.size<=j)/\jb w1 R g m v (jw s e i k).1 (n+16448) w2):=⟨hF,hO,hG⟩
 clear KA hE hG hF hO hM
 go_wp2_with fail
 refine KN.mono ?_
 rintro ev w3 ⟨rfl,hb3⟩
 clear KN
 go_wp2
 go_ret2
 exact⟨_,rfl,HG.out.1.below hb3,HG.out.2.1,(HG.out.2.2.below hb3).left (Ih HO.out.1 e i k) HO.out.2.1 HO.out.2.2⟩
theorem FK (w:World)(R:Nat)(s:Rv)(n:Nat)(F:Nat->Prop)(h:PM w R (s,n) F)(hT:iw w)(hn:n<=80000000)(hlo:s.b.lost<=1000000)(x:Option Addr)(cx:Nat)(b:List UInt8)(hx:ag w x cx b)(hl:b.length<=140737488351232)(M:Int):
  Calls Tryz.prog 13 #[.pointer (some ⟨R,0,none⟩),.slice x b.length cx,.int .i64 M] w λev w'=>ev=.returned (.int .i64 (jy s b M))/\Left PM w F R (iC s b M,n+65) w':=by
 obtain⟨g,m,v,ka,kc,ss,h,hok,hhi,rfl⟩:=h
 dsimp only at h hok
 have hM:=lN w R g h.at'.c16
 have KA:=Ba w R s n g m v ka kc ss h hn hlo x cx b hx hl M
 have HT:Hid (iw w):=hT
 have HO:Hid (s.ok/\(∀ k,dG R g m v k->3<=k)/\R<w.heap.size):=⟨hok,hhi,h.at'.lt⟩
 clear h hok hhi hT hx hl
 go_enter Tryz.func13,Tryz.ntmps13
 go_wp2_with fail
 refine hM.mono ?_
 rintro ev w1 ⟨rfl,hw1⟩
 subst hw1
 go_wp2_with fail
 refine KA.mono ?_
 rintro ev w2 ⟨u,rfl,hE,hG⟩
 have KN:=qf u _ hE w2 (hG.tabs HO.out.2.1 HT.out).1
 have HG:Hid (jb w1 R g m v (iC s b M) (n+65) w2):=hG
 clear KA hE hG hM
 go_wp2_with fail
 refine KN.mono ?_
 rintro ev w3 ⟨rfl,hb3⟩
 clear KN
 go_wp2
 go_ret
 exact⟨rfl,(HG.out.below hb3).left (Ig HO.out.1 b M) HO.out.2.1 HO.out.2.2⟩
def oD (w W:World)(R:Nat)(s:Rv)(n:Nat):Prop:=∃ F,PM W R (s,n) F/\Below w.heap.size w W/\∀ k,F k->w.heap.size<=k
theorem xw.solo {c:Cf}{me:Int}(h:xw w R c me W):oD w W R (newR c me) 0:=by
 obtain⟨F,h1,h2,h3⟩:=h;exact⟨F,h1,h3,h2⟩
theorem oD.aM (h:oD w W R s n):Below w.heap.size w W:=by
 obtain⟨F,h1,h2,h3⟩:=h;exact h2
theorem oD.below {W':World}(h:oD w W R s n)(hb:Below W.heap.size W W'):oD w W' R s n:=by
 obtain⟨F,h1,h2,h3⟩:=h
 exact⟨F,h1.below hb,h2.trans (hb.mono h2.size),h3⟩
theorem Left.solo {W':World}{F:Nat->Prop}(h:Left PM W F R (s,n) W')(hb:Below w.heap.size w W)(hF:∀ k,F k->w.heap.size<=k):oD w W' R s n:=by
 obtain⟨F',h1,h2,h3⟩:=h
 exact⟨F',h1,h2.below hb hF hb.size,λk hk=>(h3 k hk).elim (hF k) λh=>Nat.le_trans hb.size h⟩
theorem oD.anchor (h:oD w W R s n)(hT:iw w)(hn:n<=80000000)(e t i:Int)(x:Option Addr)(cx:Nat)(k:List UInt8)(hx:ag W x cx k)(hk:k.length<=140737488355328):
  Calls Tryz.prog 11 #[.pointer (some ⟨R,0,none⟩),.int .i64 e,.int .i64 t,.int .i64 i,.slice x k.length cx] W λev w'=>ev=.returned (.int .i64 (fO s e t i k))/\oD w w' R (eO s e t i k) (n+64):=by
 obtain⟨F,h1,h2,h3⟩:=h
 exact(vw W R s n F h1 (hT.below h2) (by omega) e t i x cx k hx hk).mono λ_ _ ⟨he,hl⟩=>⟨he,Left.solo hl h2 h3⟩
theorem oD.Yu (h:oD w W R s n):Calls Tryz.prog 18 #[.pointer (some ⟨R,0,none⟩)] W λe w'=>e=.returned (.int .i64 s.ep)/\w'=W:=by
 obtain⟨F,⟨g,m,v,ka,kc,ss,h,_⟩,_,_⟩:=h;exact zx W R s ka kc g h.at'
def Ik:Cf:=⟨3,0,400,1,16,400,400,1,2,8⟩
theorem Vl:okB Ik=true:=by decide
theorem Pk (w:World):Calls Tryz.prog 22 #[] w λe w'=>e=.returned (.agg (aF Ik))/\Below w.heap.size w w':=by
 have hb:∀ W,(Instr.build 23 #[(0,.int .i64 3),(2,.int .i64 400),(3,.int .i64 1),(4,.int .i64 16),(5,.int .i64 400),(6,.int .i64 400),(7,.int .i64 1),(8,.int .i64 2),(9,.int .i64 8)]).run Tryz.prog W=.ok (.agg (aF Ik)) W:=λW=>by
  kernel_rfl
 have h0:aS (w.alloc (.cells (aF Cf.zero) 23)) w.heap.size Cf.zero:=aS.new w _
 have HB:Hid ((Instr.build 23 #[(0,.int .i64 3),(2,.int .i64 400),(3,.int .i64 1),(4,.int .i64 16),(5,.int .i64 400),(6,.int .i64 400),(7,.int .i64 1),(8,.int .i64 2),(9,.int .i64 8)]).run Tryz.prog (w.alloc (.cells (aF Cf.zero) 23))=.ok (.agg (aF Ik)) (w.alloc (.cells (aF Cf.zero) 23))):=hb _
 have HS:Hid ((Instr.storeAt 23 (.pointer (some ⟨w.heap.size,0,none⟩)) (.agg (aF Ik))).run Tryz.prog (w.alloc (.cells (aF Cf.zero) 23))=.ok () ((w.alloc (.cells (aF Cf.zero) 23)).setRow w.heap.size (aF Ik))):=h0.stores Ik
 have HE:Hid (aS ((w.alloc (.cells (aF Cf.zero) 23)).setRow w.heap.size (aF Ik)) w.heap.size Ik/\Below w.heap.size w ((w.alloc (.cells (aF Cf.zero) 23)).setRow w.heap.size (aF Ik))):=
  ⟨h0.stored Ik,below_setRow (Go.Joins.below_alloc1 _ _) (Nat.le_refl _) _⟩
 clear hb h0
 go_enter Tryz.func22,Tryz.ntmps22
 go_wp2_with (first|(refine aB rfl 23 _ rfl [(0,.int .i64 3),(2,.int .i64 400),(3,.int .i64 1),(4,.int .i64 16),(5,.int .i64 400),(6,.int .i64 400),(7,.int .i64 1),(8,.int .i64 2),(9,.int .i64 8)] _ rfl HB.out ?_)|(refine ah rfl 23 _ _ rfl _ _ rfl rfl HS.out ?_)|fail)
 refine bodyPost_ret (xI rfl rfl HE.out.1) rfl ?_
 exact⟨rfl,HE.out.2⟩
theorem uE {P:Program}{ops:Array Oper}{rest:List Oper}{o:Oper}{a:Act}{w':World}{Q:Exit->Act->World->Prop}(hw:Region.wanted o (yielded ops a.tmps)=true)(t:TypeId)(l c:Operand)(ho:o.op=.makeSlice t l c)(vl vc r:Value)(hl:a.eval l=vl)(hc:a.eval c=vc)(hrun:(Instr.makeSlice t vl vc).run P w=.ok r w')(h:wpList P ops Q rest (a.put o.dst r) w'):wpList P ops Q (o::rest) a w:=by
 simp only[wpList,hw,if_true]
 left
 unfold Oper.wp execOp
 simp only[ho,hl,hc,Sem.run_bind,hrun,Result.andThen_ok,Sem.run_pure]
 exact h
def nought:List UInt8:=List.replicate 16 0
theorem zI:fO (newR Ik 1) 1 2 0 nought=0/\(eO (newR Ik 1) 1 2 0 nought).ep=1:=by decide +kernel
theorem JS (w:World)(hT:iw w):Calls Tryz.prog 10 #[] w λe w'=>e=.returned (.bool true)/\Below w.heap.size w w':=by
 obtain⟨i5,hi,hz0,hz1,hz2⟩:=info_parts Tryz.info5
 have k1:=Pk w
 have HT:Hid (iw w):=hT
 clear hT
 go_enter Tryz.func10,Tryz.ntmps10
 go_wp2_with fail
 refine k1.mono ?_
 rintro e w1 ⟨rfl,hb1⟩
 have hz3:3<=w1.heap.size:=Nat.le_trans HT.out.2.2.two hb1.size
 have k2:=GX w1 Ik 1 hz3 Vl (by decide) (by decide)
 clear k1
 go_wp2_with fail
 refine k2.mono ?_
 rintro e w2 ⟨R,rfl,hB⟩
 have hS:=hB.solo
 obtain⟨w3,hrun,hown,hgr⟩:=run_make_full (P:=Tryz.prog) w2 w2.heap.size 24 5 i5 (.int .u8 0) 1 Tryz.underlying24 hi hz0 hz1 .i64 .i64 16 (by rw[hz2];decide) (by decide) (Nat.le_refl _)
 have hb3:Below w2.heap.size w2 w3:=(Below.refl _ _).grown hgr (Nat.le_refl _) (by simp)
 have hown2:w3.ownsRow w2.heap.size 5 1 (.slice (some ⟨w2.heap.size,0,none⟩) 16 16) 16 (nought.map cellOf):=by
  unfold nought;rw[<-jk];exact hown
 have nR:ag w3 (some ⟨w2.heap.size,0,none⟩) 16 nought:=by
  obtain⟨a,cap,he,h⟩:=ag.bA hown2
  cases he
  exact h
 have k3:=(hS.below hb3).anchor (HT.out.below hb1) (by omega) 1 2 0 _ _ nought nR (by decide)
 rw[zI.1,show nought.length=16 from rfl] at k3
 have HM:Hid ((Instr.makeSlice 24 (.int .i64 16) (.int .i64 16)).run Tryz.prog w2=.ok (.slice (some ⟨w2.heap.size,0,none⟩) 16 16) w3):=hrun
 have HB1:Hid (Below w.heap.size w w1):=hb1
 clear k2 hB hS hown hgr hown2 nR hrun hi hz0 hz1 hz2 hb1 hb3 hz3
 go_wp2_with (first|(refine uE rfl 24 _ _ rfl _ _ _ rfl rfl HM.out ?_)|fail)
 refine k3.mono ?_
 rintro e w4 ⟨rfl,hS4⟩
 have k4:=hS4.Yu
 rw[zI.2] at k4
 have HE:Hid (Below w.heap.size w w4):=HB1.out.trans (hS4.aM.mono HB1.out.size)
 clear k3 hS4 HM
 go_wp2_with fail
 refine k4.mono ?_
 rintro e w5 ⟨rfl,rfl⟩
 clear k4
 go_wp2
 go_ret
 exact⟨rfl,HE.out⟩
end Go.Proofs.YtmffplhaclnehaaGreatDoor
