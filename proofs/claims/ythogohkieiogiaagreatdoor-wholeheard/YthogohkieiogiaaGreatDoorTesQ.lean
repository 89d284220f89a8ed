/-
  The program's receiver: a key that anybody told; the three calls.
  One receiver of the program's, act by act, seen from the world in which it was made; the law's config; awake.
  The law's awake.
  A data frame sealed, offered to a receiver with an anchor; over plain values. And what the laws' first steps leave.
-/
import Derived.Test.YthogohkieiogiaaGreatDoorTesJ
import Derived.Test.YthogohkieiogiaaGreatDoorEchoU
namespace Go.Proofs.YthogohkieiogiaaGreatDoor
set_option maxRecDepth 20000
set_option maxHeartbeats 1600000
open Go.ChangeShapes Go.WideShapes Go.ChangeAt Go.RowKit
theorem tbuild (w:World)(c:Cf)(me:Int)(g:Nat):(Instr.build 77 #[(0,.agg (cfC c)),(1,.int .i64 me),(2,.agg #[.int .i64 (-1),.int .i64 0,.int .i64 (-1),.slice none 0 0]),(3,.int .i64 (-1)),(4,.pointer (some ⟨g,0,none⟩))]).run Tryz.prog w=.ok (.agg (pcL (newR c me) none 0 g).toArray) w:=run_build w 77 _ _ (by kernel_rfl)
theorem abuild (w:World):(Instr.build 75 #[(0,.int .i64 (-1)),(2,.int .i64 (-1))]).run Tryz.prog w=.ok (.agg #[.int .i64 (-1),.int .i64 0,.int .i64 (-1),.slice none 0 0]) w:=run_build w 75 _ _ (by kernel_rfl)
def TBorn (w:World)(R:Nat)(c:Cf)(me:Int)(w':World):Prop:=∃ F,PM w' R (newR c me,0) F/\(∀ k,F k->w.heap.size<=k)/\Below w.heap.size w w'
theorem tnew_no (w:World)(c:Cf)(me:Int)(h:¬ (okB c=true/\0<=me/\me<c.n)):Calls Tryz.prog 7 #[.agg (cfC c),.int .i64 me] w λe w'=>e=.returned (.tuple #[.pointer none,.int .i64 1])/\Below w.heap.size w w':=by
 have HL:Hid ((Instr.loadAt 24 (.pointer (some ⟨w.heap.size,0,none⟩))).run Tryz.prog (w.alloc (.cells (cfC c) 24))=.ok (.agg (cfC c)) (w.alloc (.cells (cfC c) 24))):=(CfAt.new w c).loads
 have K1:=scheck_ok (w.alloc (.cells (cfC c) 24)) c
 have H0:Hid (Below w.heap.size w (w.alloc (.cells (cfC c) 24))):=(Below.refl _ _).alloc (Nat.le_refl _) _
 have c0:(w.alloc (.cells (cfC c) 24)).cell? ⟨w.heap.size,0,none⟩=some (.int .i64 c.n):=(CfAt.new w c).c0
 have C0:Hid (CfAt (w.alloc (.cells (cfC c) 24)) w.heap.size c):=CfAt.new w c
 go_enter Tryz.func7,Tryz.ntmps7
 go_upto_region 1 with fail
 generalize hW:w.alloc (Obj.cells (cfC c) 24)=W at *
 go_wp2_with (first|(refine wpList_gload_run rfl 24 _ rfl _ _ rfl HL.out ?_)|fail)
 refine K1.mono ?_
 rintro e w1 ⟨rfl,hb1⟩
 have H1:Hid (Below w.heap.size w w1):=H0.out.trans (hb1.mono H0.out.size)
 have c1:=(C0.out.below hb1).c0
 clear K1 hb1 c0 C0 HL H0
 by_cases h1:okB c=true
 ·rw[if_pos h1]
  by_cases h2:me<0
  ·clear h
   go_wp2
   go_ret2
   exact⟨rfl,H1.out⟩
  ·have h3:c.n<=me:=Int.not_lt.1 λhh=>h ⟨h1,by omega,hh⟩
   clear h
   go_wp2
   go_ret2
   exact⟨rfl,H1.out⟩
 ·rw[if_neg h1]
  clear h h1
  go_wp2
  go_ret2
  exact⟨rfl,H1.out⟩
theorem tnew_ok (w:World)(c:Cf)(me:Int)(hz:3<=w.heap.size)(h:okB c=true)(h0:0<=me)(h1:me<c.n):Calls Tryz.prog 7 #[.agg (cfC c),.int .i64 me] w λe w'=>∃ R,e=.returned (.tuple #[.pointer (some ⟨R,0,none⟩),.int .i64 0])/\TBorn w R c me w':=by
 have HL:Hid ((Instr.loadAt 24 (.pointer (some ⟨w.heap.size,0,none⟩))).run Tryz.prog (w.alloc (.cells (cfC c) 24))=.ok (.agg (cfC c)) (w.alloc (.cells (cfC c) 24))):=(CfAt.new w c).loads
 have K1:=scheck_ok (w.alloc (.cells (cfC c) 24)) c
 rw[if_pos h] at K1
 have H0:Hid (Below w.heap.size w (w.alloc (.cells (cfC c) 24))):=(Below.refl _ _).alloc (Nat.le_refl _) _
 have C0:Hid (CfAt (w.alloc (.cells (cfC c) 24)) w.heap.size c):=CfAt.new w c
 have HOK:Hid (3<=w.heap.size/\okB c=true/\0<=me/\me<c.n):=⟨hz,h,h0,h1⟩
 have g0:¬ (me<0):=by omega
 have g1:¬ (c.n<=me):=by omega
 obtain⟨p,hp⟩:∃ p:Nat,c.p=(p:Int):=⟨c.p.toNat,by have:=okB_keys h;omega⟩
 have hp1:1<=p/\p<=64:=by have:=okB_keys h;omega
 clear hz h h0 h1
 go_enter Tryz.func7,Tryz.ntmps7
 go_upto_region 1 with fail
 generalize hW:w.alloc (Obj.cells (cfC c) 24)=W at *
 go_wp2_with (first|(refine wpList_gload_run rfl 24 _ rfl _ _ rfl HL.out ?_)|fail)
 refine K1.mono ?_
 rintro e w1 ⟨rfl,hb1⟩
 have H1:Hid (Below w.heap.size w w1):=H0.out.trans (hb1.mono H0.out.size)
 have C1:Hid (CfAt w1 w.heap.size c):=C0.out.below hb1
 have c1:=C1.out.c0
 have c9:=C1.out.c9
 rw[hp] at c9
 have K2:=new_ok w1 p hp1.1 hp1.2
 clear K1 hb1 C0 HL H0 hW
 go_wp2_with fail
 refine K2.mono ?_
 rintro e w2 ⟨g,rfl,hBo⟩
 obtain⟨mm,vv,ss,hPb,hb2,hown⟩:=hBo
 have H2:Hid (Below w.heap.size w w2):=H1.out.trans (hb2.mono H1.out.size)
 have HL2:Hid ((Instr.loadAt 24 (.pointer (some ⟨w.heap.size,0,none⟩))).run Tryz.prog w2=.ok (.agg (cfC c)) w2):=(C1.out.below hb2).loads
 obtain⟨W3,hW3⟩:∃ W3,W3=w2.alloc (.cells (pcL (newR c me) none 0 g).toArray 77):=⟨_,rfl⟩
 have hb3:Below w2.heap.size w2 W3:=by rw[hW3];exact(Below.refl _ _).alloc (Nat.le_refl _) _
 have hat:PAt W3 w2.heap.size (newR c me) none 0 g:=by rw[hW3];exact heap_alloc_new _ _
 have hs0:(⟨p,0,[]⟩:Bs)=(newR c me).b:=by unfold newR;rw[hp];rfl
 have HE:Hid (TBorn w w2.heap.size c me W3):=by
  have hw1:=H1.out.size
  have hw2:=H2.out.size
  have hz:=HOK.out.1
  have hlo:∀ k,POwn w2.heap.size g mm vv k->w.heap.size<=k:=λk hk=>by
   rcases hk with rfl|hk
   ·exact hw2
   ·have:=hown k hk;omega
  rw[hs0] at hPb
  exact⟨_,⟨g,mm,vv,none,0,ss,⟨hat,Sees.nil' _,hPb.below hb3⟩,new_is_ok HOK.out.2.1 HOK.out.2.2.1 HOK.out.2.2.2,λk hk=>by have:=hlo k hk;omega,rfl⟩,hlo,H2.out.trans (hb3.mono H2.out.size)⟩
 have HW3:Hid (W3=w2.alloc (.cells (pcL (newR c me) none 0 g).toArray 77)):=hW3
 have hab:=abuild
 have htb:=tbuild
 clear K2 hPb hb2 hown hat hs0 hb3 hW3 c1 c9 hp1
 go_wp2_with (first|(refine wpList_gload_run rfl 24 _ rfl _ _ rfl HL2.out ?_)|(refine wpList_build_run rfl 75 _ rfl _ _ rfl (abuild _) ?_)|(refine wpList_build_run rfl 77 _ rfl _ _ rfl (tbuild _ _ _ _) ?_)|fail)
 rw[<-HW3.out]
 go_ret2
 exact⟨_,rfl,HE.out⟩
end Go.Proofs.YthogohkieiogiaaGreatDoor
namespace Go.Proofs.YthogohkieiogiaaGreatDoor
set_option maxRecDepth 20000
set_option maxHeartbeats 6400000
open Go.ChangeShapes Go.WideShapes Go.ChangeAt Go.RowKit
theorem tel_no {s:Rv}{e i:Int}{k:List UInt8}(h:telE s e i k≠0):telR s e i k=(s,[]):=if_pos h
theorem tel_yes {s:Rv}{e i:Int}{k:List UInt8}(h:telE s e i k=0):telR s e i k=relN k i (s.ix+1) (telS s i k) (i-s.ix).toNat:=if_neg (λhh=>hh h)
def ToldIs (w:World)(R g m:Nat)(v:Value)(s:Rv)(n:Nat)(e i:Int)(k:List UInt8)(ev:Ending)(w':World):Prop:=
 ∃ vo u,ev=.returned (.tuple #[vo,u])/\ErrIs u (telE s e i k)/\Frs w' vo (telR s e i k).2/\(∀ j,vo.ownBlock=some j->w.heap.size<=j)/\PGo w R g m v (telR s e i k).1 (n+16448) w'
theorem ttold_any (w:World)(R:Nat)(s:Rv)(n g m:Nat)(v:Value)(ka:Option Addr)(kc:Nat)(ss:List BSl)(h:PAll w R s n g m v ka kc ss)(hok:s.ok)(hT:TTab w)(hhi:∀ k,POwn R g m v k->3<=k)(hn:n<=80000000)(e i:Int)(x:Option Addr)(cx:Nat)(k:List UInt8)(hx:Sees w x cx k)(hk:k.length<=140737488355328):
  Calls Tryz.prog 49 #[.pointer (some ⟨R,0,none⟩),.int .i64 e,.int .i64 i,.slice x k.length cx] w λev w'=>ToldIs w R g m v s n e i k ev w':=by
 have c11:w.cell? ⟨R,11,none⟩=some (.int .i64 s.ep):=h.at'.cell 11 rfl
 have c13:w.cell? ⟨R,13,none⟩=some (.int .i64 s.ix):=h.at'.cell 13 rfl
 have H:Hid (PAll w R s n g m v ka kc ss):=h
 have HT:Hid (TTab w):=hT
 have HX:Hid (Sees w x cx k):=hx
 have HHI:Hid (∀ k,POwn R g m v k->3<=k):=hhi
 have HOK:Hid s.ok:=hok
 have NOT:Hid (∀ N:Int,(N==0)=false->telE s e i k=N->∀ w',Below w.heap.size w w'->∀ t,ToldIs w R g m v s n e i k (.returned (.tuple #[.slice none 0 0,trefV t N])) w'):=λN hN hE w' hb t=>by
  have h0:telE s e i k≠0:=by rw[hE];simpa using hN
  refine⟨_,_,rfl,.inr ⟨by rw[hE];exact hN,t,by rw[hE]⟩,?_,(λj hj=>by cases hj),?_⟩
  ·rw[tel_no h0];exact Frs.nil w'
  ·rw[tel_no h0];exact(PGo.same (h.below hb) (Apart.of_below hb)).mono (by omega)
 clear h hT hx hhi hok
 go_enter Tryz.func49,Tryz.ntmps49
 by_cases h1:s.ep = -1
 ·have HE1:Hid (telE s e i k=6):=if_pos (.inl (by omega))
  rw[h1] at c11
  clear h1
  go_wp2_with fail
  refine(trefuse_some _ 6 rfl _).mono ?_
  rintro ev w' ⟨rfl,rfl⟩
  unfold trefV
  go_wp2
  go_ret2
  exact NOT.out 6 rfl HE1.out _ (Below.refl _ _) _
 ·have d1:(s.ep == -1)=false:=by simpa using h1
  have hep:0<=s.ep:=by rcases HOK.out.ep with h|h<;>omega
  by_cases h2:s.ep=e
  ·have d2:(s.ep==e)=true:=by simpa using h2
   have U1:Hid (telE s e i k=if keyArg s i k=false then 1 else if i<=s.ix then 10 else (folP s.ix s.key i k:Int)):=if_neg (by omega)
   have KK:=tiskey_ok w R s ka kc g H.out.at' i x k cx (by omega)
   go_wp2_with fail
   refine KK.mono ?_
   rintro ev w' ⟨rfl,hw'⟩
   subst hw'
   clear KK
   cases hka:keyArg s i k
   ·have HE1:Hid (telE s e i k=1):=U1.out.trans (if_pos hka)
    clear hka U1
    go_wp2_with fail
    refine(trefuse_some _ 1 rfl _).mono ?_
    rintro ev w' ⟨rfl,rfl⟩
    unfold trefV
    go_wp2
    go_ret2
    exact NOT.out 1 rfl HE1.out _ (Below.refl _ _) _
   ·have U2:Hid (telE s e i k=if i<=s.ix then 10 else (folP s.ix s.key i k:Int)):=U1.out.trans (if_neg (by simp[hka]))
    have HKA:Hid (0<=i/\i<=s.c.k/\k.length=16):=keyArg_iff.1 hka
    clear U1 hka
    by_cases h3:i<=s.ix
    ·have HE1:Hid (telE s e i k=10):=U2.out.trans (if_pos h3)
     clear U2
     go_wp2_with fail
     refine(trefuse_some _ 10 rfl _).mono ?_
     rintro ev w' ⟨rfl,rfl⟩
     unfold trefV
     go_wp2
     go_ret2
     exact NOT.out 10 rfl HE1.out _ (Below.refl _ _) _
    ·have U3:Hid (telE s e i k=(folP s.ix s.key i k:Int)):=U2.out.trans (if_neg h3)
     have d3:decide (i<=s.ix)=false:=decide_eq_false h3
     have KG:=tgoon_any w' R s n g m v ka kc ss H.out HT.out i x cx k HX.out hk
     clear U2
     go_wp2_with fail
     refine KG.mono ?_
     rintro ev w1 ⟨u,rfl,hE,hG⟩
     clear KG c11 c13
     rcases hE with ⟨hf,rfl⟩|⟨hf,t,rfl⟩
     ·have hf0:folP s.ix s.key i k=0:=by omega
      rw[if_pos hf0] at hG
      have HZ:Hid (telE s e i k=0):=U3.out.trans hf
      obtain⟨v1,kb,kd,ss1,p1,a1',o1⟩:=id hG
      have hh1:∀ k,POwn R g m v1 k->3<=k:=λj hj=>by
       rcases PGo.own (w:=w') (R:=R) (g:=g) (m:=m) o1 j hj with h|h
       ·exact HHI.out j h
       ·have:=HHI.out R (.inl rfl);have:=H.out.at'.lt;omega
      have hx0 : -1<=s.ix/\s.ix<=256:=by
       have h4:=okB_keys HOK.out.cfg
       rcases HOK.out.ep with h|h<;>omega
      have hk256:=okB_keys HOK.out.cfg
      obtain⟨a0,a1,-⟩:=HKA.out
      obtain⟨cnt,hcnt⟩:∃ cnt,cnt=(i-s.ix).toNat:=⟨_,rfl⟩
      have KR:=trelease_ok w1 R (telS s i k) n g m v1 kb kd ss1 p1 (telS_ok HOK.out HZ.out) (hG.tabs HHI.out HT.out) hh1 (s.ix+1) cnt (by omega) (by show i-(s.ix+1)+1=_;omega) (by rcases HOK.out.ep with h|h<;>omega) hep hn
      have w1x:IntKind.i64.wrap (s.ix+1)=s.ix+1:=by rw[IntKind.wrap_i64];omega
      have HA1:Hid (Apart (POwn R g m v) w' w1/\∀ j,v1.ownBlock=some j->v.ownBlock=some j\/w'.heap.size<=j):=⟨a1',o1⟩
      have HTR:Hid (telR s e i k=relN k i (s.ix+1) (telS s i k) cnt):=by rw[hcnt];exact tel_yes HZ.out
      have hc256:cnt<=257:=by omega
      clear hG p1 hh1 hf hf0 U3 a1' o1 hcnt
      go_wp2_with fail
      refine KR.mono ?_
      rintro ev w2 ⟨vo,rfl,hF,hO,hG2⟩
      have HF:Hid (Frs w2 vo (relN k i (s.ix+1) (telS s i k) cnt).2/\(∀ j,vo.ownBlock=some j->w1.heap.size<=j)/\PGo w1 R g m v1 (relN k i (s.ix+1) (telS s i k) cnt).1 (n+64*cnt) w2):=⟨hF,hO,hG2⟩
      clear hF hO hG2 KR
      go_wp2
      go_ret2
      refine⟨_,_,rfl,.inl ⟨HZ.out,rfl⟩,by rw[HTR.out];exact HF.out.1,λj hj=>?_,?_⟩
      ·exact Nat.le_trans HA1.out.1.size (HF.out.2.1 j hj)
      ·rw[HTR.out]
       obtain⟨v2,k2,k3,ss2,q1,q2,q3⟩:=HF.out.2.2
       refine PGo.mono (n:=n+64*cnt) ⟨v2,k2,k3,ss2,q1,HA1.out.1.trans q2 (PGo.own HA1.out.2),λj hj=>?_⟩ (by omega)
       rcases q3 j hj with h|h
       ·exact HA1.out.2 j h
       ·exact .inr (Nat.le_trans HA1.out.1.size h)
     ·have hf0:¬ folP s.ix s.key i k=0:=by simpa using hf
      rw[if_neg hf0] at hG
      have HE1:Hid (telE s e i k=(folP s.ix s.key i k:Int)):=U3.out
      have HG:Hid (PGo w' R g m v s n w1):=hG
      clear hG U3
      unfold trefV
      go_wp2
      go_ret2
      have h0:telE s e i k≠0:=by rw[HE1.out];omega
      refine⟨_,_,rfl,.inr ⟨by rw[HE1.out];exact hf,t,by rw[HE1.out];rfl⟩,?_,(λj hj=>by cases hj),?_⟩
      ·rw[tel_no h0];exact Frs.nil w1
      ·rw[tel_no h0];exact HG.out.mono (by omega)
  ·have d2:(s.ep==e)=false:=by simpa using h2
   have HE1:Hid (telE s e i k=6):=if_pos (.inr (by omega))
   go_wp2_with fail
   refine(trefuse_some _ 6 rfl _).mono ?_
   rintro ev w' ⟨rfl,rfl⟩
   unfold trefV
   go_wp2
   go_ret2
   exact NOT.out 6 rfl HE1.out _ (Below.refl _ _) _
theorem ttell_any (w:World)(R:Nat)(s:Rv)(n:Nat)(F:Nat->Prop)(h:PM w R (s,n) F)(hT:TTab w)(hn:n<=80000000)(e i:Int)(x:Option Addr)(cx:Nat)(k:List UInt8)(hx:Sees w x cx k)(hk:k.length<=140737488355328):
  Calls Tryz.prog 18 #[.pointer (some ⟨R,0,none⟩),.int .i64 e,.int .i64 i,.slice x k.length cx] w λev w'=>∃ vo,ev=.returned (.tuple #[vo,.int .i64 (telE s e i k)])/\Frs w' vo (telR s e i k).2/\(∀ j,vo.ownBlock=some j->w.heap.size<=j)/\Left PM w F R ((telR s e i k).1,n+16448) w':=by
 obtain⟨g,m,v,ka,kc,ss,h,hok,hhi,rfl⟩:=h
 dsimp only at h hok
 have hM:=tmade_ok w R g h.at'.c16
 have KA:=ttold_any w R s n g m v ka kc ss h hok hT hhi hn e i x cx k hx hk
 have HT:Hid (TTab w):=hT
 have HO:Hid (s.ok/\(∀ k,POwn R g m v k->3<=k)/\R<w.heap.size):=⟨hok,hhi,h.at'.lt⟩
 clear h hok hhi hT hx hk
 go_enter Tryz.func18,Tryz.ntmps18
 go_wp2_with fail
 refine hM.mono ?_
 rintro ev w1 ⟨rfl,hw1⟩
 subst hw1
 go_wp2_with fail
 refine KA.mono ?_
 rintro ev w2 ⟨vo,u,rfl,hE,hF,hO,hG⟩
 have KN:=tnumber_any u _ hE w2 (hG.tabs HO.out.2.1 HT.out).1
 have HG:Hid (Frs w2 vo (telR s e i k).2/\(∀ j,vo.ownBlock=some j->w1.heap.size<=j)/\PGo w1 R g m v (telR s e i k).1 (n+16448) w2):=⟨hF,hO,hG⟩
 clear KA hE hG hF hO hM
 go_wp2_with fail
 refine KN.mono ?_
 rintro ev w3 ⟨rfl,hb3⟩
 clear KN
 go_wp2
 go_ret2
 exact⟨_,rfl,HG.out.1.below hb3,HG.out.2.1,(HG.out.2.2.below hb3).left (telR_ok HO.out.1 e i k) HO.out.2.1 HO.out.2.2⟩
theorem toffer_any (w:World)(R:Nat)(s:Rv)(n:Nat)(F:Nat->Prop)(h:PM w R (s,n) F)(hT:TTab w)(hn:n<=80000000)(hlo:s.b.lost<=1000000)(x:Option Addr)(cx:Nat)(b:List UInt8)(hx:Sees w x cx b)(hl:b.length<=140737488351232)(M:Int):
  Calls Tryz.prog 17 #[.pointer (some ⟨R,0,none⟩),.slice x b.length cx,.int .i64 M] w λev w'=>ev=.returned (.int .i64 (offE s b M))/\Left PM w F R (offV s b M,n+65) w':=by
 obtain⟨g,m,v,ka,kc,ss,h,hok,hhi,rfl⟩:=h
 dsimp only at h hok
 have hM:=tmade_ok w R g h.at'.c16
 have KA:=toffered_any w R s n g m v ka kc ss h hn hlo x cx b hx hl M
 have HT:Hid (TTab w):=hT
 have HO:Hid (s.ok/\(∀ k,POwn R g m v k->3<=k)/\R<w.heap.size):=⟨hok,hhi,h.at'.lt⟩
 clear h hok hhi hT hx hl
 go_enter Tryz.func17,Tryz.ntmps17
 go_wp2_with fail
 refine hM.mono ?_
 rintro ev w1 ⟨rfl,hw1⟩
 subst hw1
 go_wp2_with fail
 refine KA.mono ?_
 rintro ev w2 ⟨u,rfl,hE,hG⟩
 have KN:=tnumber_any u _ hE w2 (hG.tabs HO.out.2.1 HT.out).1
 have HG:Hid (PGo w1 R g m v (offV s b M) (n+65) w2):=hG
 clear KA hE hG hM
 go_wp2_with fail
 refine KN.mono ?_
 rintro ev w3 ⟨rfl,hb3⟩
 clear KN
 go_wp2
 go_ret
 exact⟨rfl,(HG.out.below hb3).left (offV_ok HO.out.1 b M) HO.out.2.1 HO.out.2.2⟩
def TSolo (w W:World)(R:Nat)(s:Rv)(n:Nat):Prop:=∃ F,PM W R (s,n) F/\Below w.heap.size w W/\∀ k,F k->w.heap.size<=k
theorem TBorn.solo {w W:World}{R:Nat}{c:Cf}{me:Int}(h:TBorn w R c me W):TSolo w W R (newR c me) 0:=by
 obtain⟨F,h1,h2,h3⟩:=h;exact⟨F,h1,h3,h2⟩
theorem TSolo.bel {w W:World}{R:Nat}{s:Rv}{n:Nat}(h:TSolo w W R s n):Below w.heap.size w W:=by
 obtain⟨F,h1,h2,h3⟩:=h;exact h2
def usC:Cf:=⟨3,0,400,1,16,400,400,1,2,8⟩
theorem usC_ok:okB usC=true:=by decide
def dF (me ep r:Int)(k0 body:List UInt8):Fr:=⟨1,me,0,ep,0,r,0,0,0,0,k0,body,[]⟩
theorem dF_tag {me ep r:Int}{k0 body key:List UInt8}(h1:0<=me/\me<=7)(h2:0<=ep/\ep<=65535)(h3:0<=r/\r<=1048576)(h4:k0.length=16)(h5:body.length<=16)(h6:key.length=16):tagB key (dF me ep r k0 body)=true:=by
 have hn:numsB (dF me ep r k0 body)=true:=(numsB_iff _).2 (by
  refine⟨h1,?_,h2,?_,h3,?_,?_,?_⟩<;>(show (0:Int)<=0/\(0:Int)<=_;omega))
 rw[tagB_iff]
 refine⟨h6,?_⟩
 unfold coreB
 rw[hn]
 simp[dF,h4,h5]
def slB (key:List UInt8)(F:Fr):List UInt8:=putL (sealF key F)
theorem sl_get {key:List UInt8}{F:Fr}(hb:tagB key F=true)(hn:F.n<18446744073709551616):getE (slB key F)=0/\getF (slB key F)=sealF key F/\(slB key F).length<=53/\sealR key F=slB key F/\tagE key F=0:=by
 have hr:=seal_right key F hb
 have h:=get_put (sealF key F) hn hr
 exact⟨h.1,h.2,(put_len _ hr).2.1,if_pos hb,if_pos hb⟩
theorem anc_new {c:Cf}{me e t:Int}{k:List UInt8}(hk:k.length=16)(he:0<=e/\e<=65535)(ht:0<=t/\t<1048576)(hc:0<=c.k):ancE (newR c me) e t 0 k=0/\ancV (newR c me) e t 0 k=⟨c,me,e,t,0,k,⟨c.p.toNat,0,[]⟩,-1⟩:=by
 have ha:ancArg (newR c me) e t 0 k=true:=ancArg_iff.2 ⟨he.1,he.2,ht.1,ht.2,by omega,hc,hk⟩
 have hn:¬ ancArg (newR c me) e t 0 k=false:=by simp[ha]
 have h1:¬ e<(newR c me).ep:=by show ¬ e < -1;omega
 have h2:(newR c me).ep<e:=by show -1<e;omega
 unfold ancE ancV
 rw[if_neg hn,if_neg hn,if_neg h1,if_neg h1,if_pos h2,if_pos h2]
 exact⟨rfl,rfl⟩
theorem put_first {p:Nat}(hp:1<=p){e i:Int}{x:List UInt8}(ha:argB e i x=true):bputE ⟨p,0,[]⟩ e i x=0/\putV ⟨p,0,[]⟩ e i x=⟨p,0,[⟨e,i,x⟩]⟩:=by
 have h0:¬ (0=p):=by omega
 simp[bputE,putV,ha,heldB,h0]
theorem rsec_us {me bg ii M:Int}(hm:0<=me/\me<3)(hb:0<=bg/\bg<50)(hi:1<=ii/\ii<=16):rsecN usC me bg (bg+ii) M=(if 0<=M/\M<=1099511627776 then (if whN usC me bg ii<=M then 12 else 0) else 1)/\whB usC me bg ii=true/\keyB usC (bg+ii-bg)=true/\sinB usC bg (bg+ii)=true:=by
 have e1:bg+ii-bg=ii:=by omega
 have s1:sinB usC bg (bg+ii)=true:=by
  simp only[sinB,roundB,Bool.and_eq_true,decide_eq_true_eq]
  exact⟨⟨usC_ok,by omega⟩,by omega⟩
 have k1:keyB usC ii=true:=by
  simp only[keyB,decide_eq_true_eq]
  exact⟨hi.1,by show ii<=16;exact hi.2⟩
 have w1:whB usC me bg ii=true:=by
  rw[wh_of usC_ok hb.1 (by omega) hm.1 (by show me<3;omega) hi.1 (by show ii<=16;omega),decide_eq_true_eq]
  show bg+ii+1<1048576;omega
 refine⟨?_,w1,by rw[e1];exact k1,s1⟩
 unfold rsecN secN
 rw[if_pos ⟨hm.1,by show me<3;omega⟩,if_pos s1,e1,if_pos k1,if_pos w1]
 simp only[timeB,decide_eq_true_eq]
end Go.Proofs.YthogohkieiogiaaGreatDoor
