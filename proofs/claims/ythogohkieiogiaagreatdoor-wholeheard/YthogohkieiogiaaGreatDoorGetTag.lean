/-
  The contract of Get, its tag's bytes being the call's own.
-/
import Derived.Test.YthogohkieiogiaaGreatDoorFrameGetP
import Derived.Test.YthogohkieiogiaaGreatDoorGetOwn
namespace Go.Proofs.YthogohkieiogiaaGreatDoor
set_option maxRecDepth 20000
set_option maxHeartbeats 3200000
open Go.ChangeShapes Go.WideShapes Go.ChangeAt Go.RowKit
def TagNew (B:Nat)(F:Fr)(A:At):Prop:=∀ g o,A.ta=some ⟨g,o,none⟩->B<=g/\(∀ o',A.ka=some ⟨g,o',none⟩->F.key=[])/\∀ o',A.ba=some ⟨g,o',none⟩->F.body=[]
theorem TagNew.mono {B C:Nat}{F:Fr}{A:At}(h:TagNew B F A)(hC:C<=B):TagNew C F A:=λg o e=>⟨Nat.le_trans hC (h g o e).1,(h g o e).2⟩
theorem TagNew.zero (B:Nat):TagNew B Fr.zero At.zero:=λ_ _ e=>by cases e
def TBare (w:World)(A:At):Prop:=Bare w A.ta
theorem Bare.laid {w w':World}{a:Option Addr}{k:Nat}{F G:Fr}{A B:At}(h:Bare w a)(hf:FrAt w k F A)(hst:(Instr.storeAt 41 (.pointer (some ⟨k,0,none⟩)) (.agg (frC G B))).run Tryz.prog w=.ok () w'):Bare w' a:=by
 have he:w'=w.setRow k (frC G B):=by
  have h1:=hst.symm.trans (hf.stores G B)
  injection h1
 rw[he]
 refine h.keep λg o e=>setRow_other _ _ _ _ (λhk=>?_)
 obtain⟨cur,hc⟩:=h g o e
 unfold FrAt at hf
 rw[hk,hf] at hc
 simp at hc
theorem frC_inj {G:Fr}{A B:At}(h:frC G A=frC G B):A=B:=by
 obtain⟨a1,a2,a3,a4,a5,a6⟩:=A
 obtain⟨b1,b2,b3,b4,b5,b6⟩:=B
 simp[frC,frL] at h
 simp[h]
def LeavesT {σ:Type}(M:World->Nat->σ->(Nat->Prop)->Prop)(b:Nat)(w:World)(F0:Nat->Prop)(p:Fr×σ)(e:Ending)(w':World):Prop:=
 ∃ A' F',e=.returned (.agg (frC p.1 A'))/\M w' b p.2 F'/\Apart F0 w w'/\(∀ k,F' k->F0 k\/w.heap.size<=k)/\Seen w' p.1 A'/\Clears F' p.1 A'/\InR0 p.1/\TagNew w.heap.size p.1 A'/\Bare w' A'.ta
theorem leavesT_of {σ:Type}{M:World->Nat->σ->(Nat->Prop)->Prop}{b:Nat}{w:World}{F0:Nat->Prop}{G:Fr}{s:σ}{A:At}{w':World}(h:Leaves M b w F0 (G,s) (.returned (.agg (frC G A))) w')(ht:TagNew w.heap.size G A)(hz:Bare w' A.ta):LeavesT M b w F0 (G,s) (.returned (.agg (frC G A))) w':=by
 obtain⟨A',F',he,h1,h2,h3,h4,h5,h6⟩:=h
 have e1:frC G A=frC G A':=by simpa using he
 have e2:=frC_inj e1
 subst e2
 exact⟨A,F',rfl,h1,h2,h3,h4,h5,h6,ht,hz⟩
theorem rwhole_new (l0:List UInt8)(c q:Nat)(w:World)(s0:Rs)(F0:Nat->Prop)(G0:Fr)(A0:At)(hm:FrM l0 c w q s0 F0)(hs:Seen w G0 A0)(hcl:Clears F0 G0 A0)(hR:InR0 G0)(hB:G0.body.length<=16):
  Calls Tryz.prog 41 #[.agg #[.func (.func 73) #[.pointer (some ⟨q,0,none⟩)] #[],.func (.func 74) #[.pointer (some ⟨q,0,none⟩)] #[]],.agg (frC G0 A0)] w λe w'=>LeavesT (FrM l0 c) q w F0 (wholeG (λs (_:Nat) V=>numN l0 s V) (λs (_:Nat) V=>numS l0 s V) (λs (_:List UInt8) n=>lstN l0 s n) (λs (_:List UInt8) n=>lstS l0 s n) s0 G0) e w':=by
 have H:=hand_rd l0 c q
 have hM0:=Mid.start H w s0 F0 G0 A0 hm hs hcl
 have HM0:Hid (Mid 73 74 (.pointer (some ⟨q,0,none⟩)) (FrM l0 c) q w F0 F0 s0 G0 A0 (((w.alloc (.cells #[.func (.func 73) #[.pointer (some ⟨q,0,none⟩)] #[],.func (.func 74) #[.pointer (some ⟨q,0,none⟩)] #[]] 101)).alloc (.cells (frC G0 A0) 41)).alloc (.cells #[.int .i64 0,.int .i64 0,.int .i64 0,.int .i64 0,.int .i64 0,.int .i64 0,.int .u64 0,.int .i64 0,.int .i64 0,.int .i64 0,.slice none 0 0,.slice none 0 0,.slice none 0 0] 41))):=hM0
 have HR0:Hid (InR0 G0):=hR
 have HH:Hid (Hand 73 74 (.pointer (some ⟨q,0,none⟩)) (FrM l0 c) q (λs _ V=>numN l0 s V) (λs _ V=>numS l0 s V) (λs _ n=>lstN l0 s n) (λs _ n=>lstS l0 s n)):=H
 have hen:=H.ei
 have hej:=H.ej
 clear hM0 hR hm hs hcl H
 go_enter Tryz.func41,Tryz.ntmps41
 go_upto_region 1 with fail
 generalize ((w.alloc (Obj.cells #[Value.func (Fn.func 73) #[Value.pointer (some ⟨q,0,none⟩)] #[],Value.func (Fn.func 74) #[Value.pointer (some ⟨q,0,none⟩)] #[]] 101)).alloc (Obj.cells (frC G0 A0) 41)).alloc (Obj.cells #[.int .i64 0,.int .i64 0,.int .i64 0,.int .i64 0,.int .i64 0,.int .i64 0,.int .u64 0,.int .i64 0,.int .i64 0,.int .i64 0,.slice none 0 0,.slice none 0 0,.slice none 0 0] 41)=X0 at *
 have HB:Hid (G0.body.length<=16):=hB
 clear hB
 have y0:=HM0.out.cells.1
 have y1:=HM0.out.cells.2
 have HL:Hid ((Instr.loadAt 41 (.pointer (some ⟨w.heap.size+1,0,none⟩))).run Tryz.prog X0=.ok (.agg (frC G0 A0)) X0):=HM0.out.fr.loads
 have hc:=core_ok HH.out X0 s0 F0 G0 A0 HM0.out.obj HM0.out.seen HM0.out.clear HR0.out HB.out
 obtain⟨p1,ep1⟩:∃ p,p=coreG (λs (_:Nat) V=>numN l0 s V) (λs (_:Nat) V=>numS l0 s V) (λs (_:List UInt8) n=>lstN l0 s n) (λs (_:List UInt8) n=>lstS l0 s n) s0 G0:=⟨_,rfl⟩
 rw[<-ep1] at hc
 have EQ1:Hid (p1=coreG (λs (_:Nat) V=>numN l0 s V) (λs (_:Nat) V=>numS l0 s V) (λs (_:List UInt8) n=>lstN l0 s n) (λs (_:List UInt8) n=>lstS l0 s n) s0 G0):=ep1
 clear ep1
 go_wp2_with (first|(refine wpList_gload_run rfl 41 _ rfl _ _ rfl HL.out ?_)|fail)
 refine hc.mono ?_
 rintro e V1 hL
 obtain⟨A1,F1,rfl,hM,hsn,hcl,hr⟩:=HM0.out.leaves HH.out hL
 obtain⟨X1,hst,hM2⟩:=hM.put HH.out p1.1 A1 hsn hcl
 have HST:Hid ((Instr.storeAt 41 (.pointer (some ⟨w.heap.size+1,0,none⟩)) (.agg (frC p1.1 A1))).run Tryz.prog V1=.ok () X1):=hst
 have HM1:Hid (Mid 73 74 (.pointer (some ⟨q,0,none⟩)) (FrM l0 c) q w F0 F1 p1.2 p1.1 A1 X1):=hM2
 have HR1:Hid (InR0 p1.1):=hr
 clear y0 y1 HL hc hL hM hsn hcl hr hst hM2
 go_upto_region 2 with (first|(refine wpList_store_run rfl 41 _ _ rfl _ _ rfl rfl HST.out ?_)|fail)
 clear HST
 have y0:=HM1.out.cells.1
 have y1:=HM1.out.cells.2
 have c12:=HM1.out.fr.c12
 have hc:=rlist_own l0 c X1 q p1.2 F1 (.slice A1.ta p1.1.tag.length A1.tc) 8 HM1.out.obj
 obtain⟨s2,es2⟩:∃ t,t=lstS l0 p1.2 8:=⟨_,rfl⟩
 rw[<-es2] at hc
 have ES2:Hid (s2=lstS l0 p1.2 8):=es2
 clear es2
 go_wp2_with fail
 refine hc.mono ?_
 rintro e V2 ⟨a2,ca2,q2,eq2,rfl,hq,hnew,hmm,hap,hz2⟩
 have hlt1:w.heap.size+1<X1.heap.size:=HM1.out.fr.lt
 have old:∀ (y:Option Addr) (cy:Nat) (ly:List UInt8),Sees X1 y cy ly->∀ g o o',a2=some ⟨g,o,none⟩->y=some ⟨g,o',none⟩->ly=[]:=λy cy ly hy g o o' e1 e2=>by
  by_cases hne:ly=[]
  ·exact hne
  ·obtain⟨k',off',ha',hcc⟩:=hy.at' hne
   rw[e2] at ha'
   simp only[Option.some.injEq,Addr.mk.injEq,and_true] at ha'
   obtain⟨z,l',hl⟩:=List.exists_cons_of_ne_nil hne
   have h0:=World.block_lt_of_cell? _ _ (hcc 0 z (by rw[hl];rfl))
   have h1:=hnew g o e1
   have h2:k'<X1.heap.size:=h0
   omega
 have HTG:Hid (TagNew w.heap.size p1.1 { A1 with ta:=a2,tc:=ca2 }):=λg o e1=>⟨by have:=hnew g o e1;omega,λo' e2=>old _ _ _ HM1.out.seen.key g o o' e1 e2,λo' e2=>old _ _ _ HM1.out.seen.body g o o' e1 e2⟩
 have hcq:Clear F1 a2 q2:=λb off e _ hb=>by
  have:=hnew b off e
  have:=(frm_kept l0 c).lt HM1.out.obj b hb
  omega
 obtain⟨F2,hF2⟩:∃ F2,F2=F1:=⟨_,rfl⟩
 have hsub:∀ k,F2 k->F1 k\/X1.heap.size<=k:=λk hk=>.inl (by rw[hF2] at hk;exact hk)
 rw[<-hF2] at hmm hcq
 clear hF2 hlt1 old hnew
 obtain⟨G2,eG2⟩:∃ g:Fr,g={ p1.1 with tag:=q2 }:=⟨_,rfl⟩
 have hM:=HM1.out.keeps HH.out hmm hap hsub
 have EQ2:Hid (q2=lstN l0 p1.2 8/\s2=lstS l0 p1.2 8/\G2={ p1.1 with tag:=q2 }):=⟨eq2.out,ES2.out,eG2⟩
 have HR2:Hid (InR0 G2):=by
  rw[eG2]
  exact⟨HR1.out.k,HR1.out.f,HR1.out.t,HR1.out.e,HR1.out.s,HR1.out.r,HR1.out.n,HR1.out.m,HR1.out.v,HR1.out.i⟩
 have d12:=hM.fr.c12
 have z12:=hM.fr.fz 12
 have HTG2:Hid (TagNew w.heap.size G2 { A1 with ta:=a2,tc:=ca2 }):=by rw[EQ2.out.2.2];exact HTG.out
 have HZ2:Hid (TBare (V2.setCell ⟨w.heap.size+1,12,none⟩ (.slice a2 q2.length ca2)) { A1 with ta:=a2,tc:=ca2 }):=hz2.setCell _ _ _
 clear hz2
 have HM2:Hid (Mid 73 74 (.pointer (some ⟨q,0,none⟩)) (FrM l0 c) q w F0 F2 s2 G2 { A1 with ta:=a2,tc:=ca2 } (V2.setCell ⟨w.heap.size+1,12,none⟩ (.slice a2 q2.length ca2))):=
  hM.set HH.out 12 _ G2 { A1 with ta:=a2,tc:=ca2 } (by rw[EQ2.out.2.2];rfl) (by rw[EQ2.out.2.2];exact⟨hM.seen.key,hM.seen.body,hq⟩) (by rw[EQ2.out.2.2];exact⟨hM.clear.key,hM.clear.body,hcq⟩)
 clear y0 y1 c12 hc hmm hap hsub hcq hM hq eG2 eq2 ES2
 go_upto_region 3 with fail
 clear d12 z12
 generalize V2.setCell ⟨w.heap.size+1,12,none⟩ (.slice a2 q2.length ca2)=X2 at *
 generalize ({ A1 with ta:=a2,tc:=ca2 }:At)=A2 at *
 have HL:Hid ((Instr.loadAt 41 (.pointer (some ⟨w.heap.size+1,0,none⟩))).run Tryz.prog X2=.ok (.agg (frC G2 A2)) X2):=HM2.out.fr.loads
 obtain⟨Y,hst,hY,hlv⟩:=HM2.out.stored HH.out HR2.out
 have HST:Hid ((Instr.storeAt 41 (.pointer (some ⟨w.heap.size+2,0,none⟩)) (.agg (frC G2 A2))).run Tryz.prog X2=.ok () Y):=hst
 have HY:Hid (FrAt Y (w.heap.size+2) G2 A2):=hY
 have HLV:Hid (LeavesT (FrM l0 c) q w F0 (G2,s2) (.returned (.agg (frC G2 A2))) Y):=leavesT_of hlv HTG2.out (Bare.laid (show Bare X2 A2.ta from HZ2.out) HM2.out.res hst)
 clear hst hY hlv HTG HTG2
 go_wp2_with (first|(refine wpList_gload_run rfl 41 _ rfl _ _ rfl HL.out ?_)|(refine wpList_store_run rfl 41 _ _ rfl _ _ rfl rfl HST.out ?_)|fail)
 refine bodyPost_ret (res_fr rfl rfl HY.out) rfl ?_
 have hE:(G2,s2)=wholeG (λs (_:Nat) V=>numN l0 s V) (λs (_:Nat) V=>numS l0 s V) (λs (_:List UInt8) n=>lstN l0 s n) (λs (_:List UInt8) n=>lstS l0 s n) s0 G0:=by
  obtain⟨a2,b2,c2⟩:=EQ2.out
  have a1:=EQ1.out
  subst c2 b2 a2 a1
  rfl
 rw[<-hE]
 exact HLV.out
def GotT (w w':World)(e:Ending)(F:Fr)(n:Int):Prop:=∃ A,e=.returned (.tuple #[.agg (frC F A),.int .i64 n])/\Seen w' F A/\Below w.heap.size w w'/\TagNew w.heap.size F A/\Bare w' A.ta
theorem get_good_new (w:World)(x:Option Addr)(cx:Nat)(l:List UInt8)(hx:Sees w x cx l)(hl:l.length<=140737488351232)(h3:¬ l.length<3)(hg:goodL l=true)(hcx:l.length<=cx):Calls Tryz.prog 15 #[.slice x l.length cx] w λe w'=>GotT w w' e (getF l) (getE l:Nat):=by
 obtain⟨t,ht⟩:∃ t,t=l.take (l.length-3):=⟨_,rfl⟩
 have hgE:getE l=if fineB t=false then 4 else 0:=by unfold getE;rw[if_neg h3,if_neg (by rw[hg];decide),ht]
 have hgF:getF l=if fineB t=false then Fr.zero else (wholeR t).1:=by
  unfold getF;rw[hgE,<-ht]
  by_cases hf:fineB t=false
  ·rw[if_pos hf,if_pos hf];rfl
  ·rw[if_neg hf,if_neg hf];rfl
 obtain⟨RE,hRE⟩:∃ RE:Int,RE=((getE l:Nat):Int):=⟨_,rfl⟩
 obtain⟨RF,hRF⟩:∃ RF,RF=getF l:=⟨_,rfl⟩
 rw[<-hRE,<-hRF]
 have HRE:Hid (RE=((if fineB t=false then 4 else 0:Nat):Int)/\RF=if fineB t=false then Fr.zero else (wholeR t).1):=⟨by rw[hRE,hgE],by rw[hRF,hgF]⟩
 clear hgE hgF hRE hRF
 have h0:FrAt (w.alloc (.cells (frC Fr.zero At.zero) 41)) w.heap.size Fr.zero At.zero:=FrAt.new w _ _
 have hb0:Below w.heap.size w (w.alloc (.cells (frC Fr.zero At.zero) 41)):=Go.Joins.below_alloc1 _ _
 have hgo:=good_ok (w.alloc (.cells (frC Fr.zero At.zero) 41)) x cx l (hx.below hb0) (by omega)
 rw[hg] at hgo
 obtain⟨m,hm⟩:∃ m,m=l.length-3:=⟨_,rfl⟩
 obtain⟨N,hN⟩:∃ N,N=l.length:=⟨_,rfl⟩
 have htl:t.length=m:=by rw[ht,List.length_take];omega
 have hxt:Sees w x cx t:=by rw[ht];exact hx.take _
 rw[<-hN] at h3 hgo hl hm hcx ⊢
 have d3:decide ((N:Int)<3)=false:=by simp;omega
 have e1:(N:Int)-3=(m:Int):=by omega
 have g3:(0:Int)<=(m:Int):=Int.natCast_nonneg _
 have g4:(m:Int)<=(cx:Int):=by omega
 have g5:m<=cx:=by omega
 have H0:Hid (∀ w1,Below (w.alloc (.cells (frC Fr.zero At.zero) 41)).heap.size (w.alloc (.cells (frC Fr.zero At.zero) 41)) w1->FrAt w1 w.heap.size Fr.zero At.zero/\Below w.heap.size w w1):=λw1 hb1=>⟨h0.below hb1,hb0.trans (hb1.mono hb0.size)⟩
 have HT:Hid (Sees w x cx t/\t.length=m/\m<=140737488351232):=⟨hxt,htl,by omega⟩
 clear hN h0 hb0 hx hg ht hm htl hxt
 go_enter Tryz.func15,Tryz.ntmps15
 go_wp2_with fail
 refine hgo.mono ?_
 rintro e w1 ⟨rfl,hb1⟩
 obtain⟨h1,hb⟩:=H0.out w1 hb1
 have hnr:=rdnew_ok w1 x cx t (HT.out.1.below hb) (by have:=HT.out.2;omega)
 rw[HT.out.2.1] at hnr
 have H1:Hid (FrAt w1 w.heap.size Fr.zero At.zero/\Below w.heap.size w w1):=⟨h1,hb⟩
 clear hgo hb1 H0 h1 hb
 go_wp2_with fail
 refine hnr.mono ?_
 rintro e w2 ⟨c,Fc,rfl,hRd,hb2,hFc⟩
 have hfm:=frm_laid t w2 c Fc hRd (by have:=HT.out.2;omega)
 have hb2w:Below w.heap.size w w2:=H1.out.2.trans (hb2.mono H1.out.2.size)
 have hfr2:=H1.out.1.below hb2
 have H3:Hid (FrM t c (w2.alloc (.cells #[.pointer (some ⟨c,0,none⟩),.bool false] 97)) w2.heap.size ⟨0,false⟩ (λk=>Fc k\/k=w2.heap.size)/\FrAt (w2.alloc (.cells #[.pointer (some ⟨c,0,none⟩),.bool false] 97)) w.heap.size Fr.zero At.zero /\
   Below w.heap.size w (w2.alloc (.cells #[.pointer (some ⟨c,0,none⟩),.bool false] 97))/\∀ k,(Fc k\/k=w2.heap.size)->w.heap.size<k):=
  ⟨hfm, hfr2.alloc _, hb2w.alloc hb2w.size _, fun k hk => by
    have := H1.out.1.lt
    have := hfr2.lt
    rcases hk with hk | hk
    · have := hFc k hk; omega
    · omega⟩
 have hrd:=reading_ok (w2.alloc (.cells #[.pointer (some ⟨c,0,none⟩),.bool false] 97)) w2.heap.size
 clear hnr hRd hb2 hFc hfm hb2w hfr2 H1
 go_wp2_with fail
 refine hrd.mono ?_
 rintro e w4 ⟨rfl,hb4⟩
 have hwh:=rwhole_new t c w2.heap.size w4 ⟨0,false⟩ (λk=>Fc k\/k=w2.heap.size) Fr.zero At.zero ((frm_kept t c).below H3.out.1 hb4) (Seen.zero _) ⟨(λ_ _ h=>by cases h),(λ_ _ h=>by cases h),(λ_ _ h=>by cases h)⟩ zero_inr (by decide)
 rw[rwhole_eq] at hwh
 have HBZ:Hid ((Instr.build 41 #[]).run Tryz.prog w4=.ok (.agg (frC Fr.zero At.zero)) w4):=build_zero _
 have hb4w:Below w.heap.size w w4:=H3.out.2.2.1.trans (hb4.mono H3.out.2.2.1.size)
 have H4:Hid (FrAt w4 w.heap.size Fr.zero At.zero/\Below w.heap.size w w4/\∀ k,(Fc k\/k=w2.heap.size)->w.heap.size<k):=⟨H3.out.2.1.below hb4,hb4w,H3.out.2.2.2⟩
 have HFB:Hid (fineB t=(!(wholeR t).2.miss&&decide (endP t (wholeR t).2.at_=0)&&rightB (wholeR t).1)):=rfl
 obtain⟨p,hp⟩:∃ p,p=wholeR t:=⟨_,rfl⟩
 rw[<-hp] at hwh HFB HRE
 clear hrd hb4 hb4w H3 hp
 go_wp2_with (first|(refine wpList_build_run rfl 41 _ rfl [] _ rfl HBZ.out ?_)|fail)
 refine hwh.mono ?_
 rintro e w5 ⟨A5,F5,rfl,hM5,hap5,hsub5,hsn5,_,_,htag,hz5⟩
 have HTG:Hid (TagNew w.heap.size p.1 A5):=htag.mono H4.out.2.1.size
 clear htag
 have hr5:FrAt w5 w.heap.size Fr.zero At.zero:=H4.out.1.keep (hap5.block _ H4.out.1.lt (λhk=>by have:=H4.out.2.2 _ hk;omega))
 have hb5:Below w.heap.size w w5:=hap5.below H4.out.2.1 (λk hk=>Nat.le_of_lt (H4.out.2.2 k hk)) H4.out.2.1.size
 obtain⟨W6,hst6,hR6⟩:=read_laid hr5 hM5 hsn5 hb5
 have HZ6:Hid (Bare W6 A5.ta):=(hz5.below (Go.Joins.below_alloc1 _ _)).laid (FrAt.new w5 _ _) hst6
 clear hz5
 have HST6:Hid ((Instr.storeAt 41 (.pointer (some ⟨w5.heap.size,0,none⟩)) (.agg (frC p.1 A5))).run Tryz.prog (w5.alloc (.cells (frC Fr.zero At.zero) 41))=.ok () W6):=hst6
 obtain⟨G6,hG6⟩:=hR6.obj
 obtain⟨q0,q1,_⟩:=hG6.cells
 have HR6:Hid (Read w t c w2.heap.size w5.heap.size p.1 p.2 A5 W6):=hR6
 have hend:Calls Tryz.prog 42 #[.pointer (some ⟨c,0,none⟩)] W6 λe w'=>e=.returned (.int .i64 ((endP t p.2.at_:Nat):Int))/\∃ m,w'=W6.drewN m:=by
  obtain⟨_,h2,h3,F',h4,_⟩:=hG6
  exact rdend_ok t W6 c p.2.at_ F' h4 h3 h2
 obtain⟨E,hE⟩:∃ E,E=endP t p.2.at_:=⟨_,rfl⟩
 rw[<-hE] at hend HFB
 obtain⟨ms,hms⟩:∃ ms,ms=p.2.miss:=⟨_,rfl⟩
 rw[<-hms] at q1 HFB
 clear hwh hM5 hap5 hsub5 hsn5 hr5 hb5 hst6 hR6 hG6 H4 HBZ hE hms
 cases ms
 ·by_cases hE0:E=0
  ·have hend0:Calls Tryz.prog 42 #[.pointer (some ⟨c,0,none⟩)] W6 λe w'=>e=.returned (.int .i64 0)/\∃ m,w'=W6.drewN m:=by
    rw[hE0] at hend;exact hend
   have HFB2:Hid (fineB t=rightB p.1):=by show _=_;rw[HFB.out,hE0];rfl
   clear hE0 hend
   go_wp2_with (first|(refine wpList_store_run rfl 41 _ _ rfl _ _ rfl rfl HST6.out ?_)|fail)
   refine hend0.mono ?_
   rintro e w7 ⟨rfl,m7,hw7⟩
   have HW7:Hid (w7=W6.drewN m7):=hw7
   have HR7:Hid (Read w t c w2.heap.size w5.heap.size p.1 p.2 A5 w7):=by rw[hw7];exact HR6.out.drewN m7
   have HL7:Hid ((Instr.loadAt 41 (.pointer (some ⟨w5.heap.size,0,none⟩))).run Tryz.prog w7=.ok (.agg (frC p.1 A5)) w7):=HR7.out.fr.loads
   have hck:=check_ok w7 p.1 A5 HR7.out.seen
   clear hend0 hw7 q0 q1 HR6 HST6
   obtain⟨rb,hrb⟩:∃ rb,rightB p.1=rb:=⟨_,rfl⟩
   have HFN:Hid (fineB t=rb):=by show _=_;rw[HFB2.out,hrb]
   rw[hrb] at hck
   clear hrb HFB HFB2
   cases rb
   ·rw[if_neg (by decide)] at hck
    go_wp2_with (first|(refine wpList_gload_run rfl 41 _ rfl _ _ rfl HL7.out ?_)|fail)
    refine hck.mono ?_
    rintro e w8 ⟨rfl,hb8⟩
    have hR8:FrAt w8 w.heap.size Fr.zero At.zero/\Below w.heap.size w w8:=⟨HR7.out.res.below hb8,HR7.out.bel.trans (hb8.mono HR7.out.bel.size)⟩
    obtain⟨Y,hst,hY,hsY,hbY⟩:=got_stored (w:=w) hR8.1 hR8.2 Fr.zero At.zero (Seen.zero _)
    have HBZ:Hid ((Instr.build 41 #[]).run Tryz.prog w8=.ok (.agg (frC Fr.zero At.zero)) w8):=build_zero _
    have HST:Hid ((Instr.storeAt 41 (.pointer (some ⟨w.heap.size,0,none⟩)) (.agg (frC Fr.zero At.zero))).run Tryz.prog w8=.ok () Y):=hst
    have HE:Hid (FrAt Y w.heap.size Fr.zero At.zero/\Seen Y Fr.zero At.zero/\Below w.heap.size w Y):=⟨hY,hsY,hbY⟩
    clear hst hY hsY hbY hck hb8 hR8 HL7
    go_wp2_with (first|(refine wpList_build_run rfl 41 _ rfl [] _ rfl HBZ.out ?_)|(refine wpList_store_run rfl 41 _ _ rfl _ _ rfl rfl HST.out ?_)|fail)
    refine bodyPost_ret (res_fr_tmp rfl rfl HE.out.1) rfl ?_
    rw[HRE.out.1,HRE.out.2,HFN.out]
    exact⟨At.zero,rfl,HE.out.2.1,HE.out.2.2,TagNew.zero _,Bare.nil' _⟩
   ·rw[if_pos rfl] at hck
    go_wp2_with (first|(refine wpList_gload_run rfl 41 _ rfl _ _ rfl HL7.out ?_)|fail)
    refine hck.mono ?_
    rintro e w8 ⟨rfl,hb8⟩
    have hL8:=(HR7.out.fr.below hb8).loads
    obtain⟨Y,hst,hY,hsY,hbY⟩:=got_stored (w:=w) (HR7.out.res.below hb8) (HR7.out.bel.trans (hb8.mono HR7.out.bel.size)) p.1 A5 (HR7.out.seen.below hb8)
    have HZY:Hid (Bare Y A5.ta):=Bare.laid (Bare.below (w:=w7) (by rw[HW7.out];exact HZ6.out) hb8) (HR7.out.res.below hb8) hst
    have HL8:Hid ((Instr.loadAt 41 (.pointer (some ⟨w5.heap.size,0,none⟩))).run Tryz.prog w8=.ok (.agg (frC p.1 A5)) w8):=hL8
    have HST:Hid ((Instr.storeAt 41 (.pointer (some ⟨w.heap.size,0,none⟩)) (.agg (frC p.1 A5))).run Tryz.prog w8=.ok () Y):=hst
    have HE:Hid (FrAt Y w.heap.size p.1 A5/\Seen Y p.1 A5/\Below w.heap.size w Y):=⟨hY,hsY,hbY⟩
    clear hst hY hsY hbY hck hb8 hL8 HL7
    go_wp2_with (first|(refine wpList_gload_run rfl 41 _ rfl _ _ rfl HL8.out ?_)|(refine wpList_store_run rfl 41 _ _ rfl _ _ rfl rfl HST.out ?_)|fail)
    refine bodyPost_ret (res_fr_tmp rfl rfl HE.out.1) rfl ?_
    rw[HRE.out.1,HRE.out.2,HFN.out]
    exact⟨A5,rfl,HE.out.2.1,HE.out.2.2,HTG.out,HZY.out⟩
  ·have ge:((E:Int) != 0)=true:=by simp;omega
   have HFN:Hid (fineB t=false):=by show _=_;rw[HFB.out];simp[hE0]
   clear hE0 HFB
   go_wp2_with (first|(refine wpList_store_run rfl 41 _ _ rfl _ _ rfl rfl HST6.out ?_)|fail)
   refine hend.mono ?_
   rintro e w7 ⟨rfl,m7,hw7⟩
   have HR7:Hid (Read w t c w2.heap.size w5.heap.size p.1 p.2 A5 w7):=by rw[hw7];exact HR6.out.drewN m7
   clear hend hw7 q0 q1 HR6 HST6
   obtain⟨Y,hst,hY,hsY,hbY⟩:=got_stored (w:=w) HR7.out.res HR7.out.bel Fr.zero At.zero (Seen.zero _)
   have HBZ:Hid ((Instr.build 41 #[]).run Tryz.prog w7=.ok (.agg (frC Fr.zero At.zero)) w7):=build_zero _
   have HST:Hid ((Instr.storeAt 41 (.pointer (some ⟨w.heap.size,0,none⟩)) (.agg (frC Fr.zero At.zero))).run Tryz.prog w7=.ok () Y):=hst
   have HE:Hid (FrAt Y w.heap.size Fr.zero At.zero/\Seen Y Fr.zero At.zero/\Below w.heap.size w Y):=⟨hY,hsY,hbY⟩
   clear hst hY hsY hbY
   go_wp2_with (first|(refine wpList_build_run rfl 41 _ rfl [] _ rfl HBZ.out ?_)|(refine wpList_store_run rfl 41 _ _ rfl _ _ rfl rfl HST.out ?_)|fail)
   refine bodyPost_ret (res_fr_tmp rfl rfl HE.out.1) rfl ?_
   rw[HRE.out.1,HRE.out.2,HFN.out]
   exact⟨At.zero,rfl,HE.out.2.1,HE.out.2.2,TagNew.zero _,Bare.nil' _⟩
 ·have HFN:Hid (fineB t=false):=by show _=_;rw[HFB.out];rfl
  clear HFB
  obtain⟨Y,hst,hY,hsY,hbY⟩:=got_stored (w:=w) HR6.out.res HR6.out.bel Fr.zero At.zero (Seen.zero _)
  have HBZ:Hid ((Instr.build 41 #[]).run Tryz.prog W6=.ok (.agg (frC Fr.zero At.zero)) W6):=build_zero _
  have HST:Hid ((Instr.storeAt 41 (.pointer (some ⟨w.heap.size,0,none⟩)) (.agg (frC Fr.zero At.zero))).run Tryz.prog W6=.ok () Y):=hst
  have HE:Hid (FrAt Y w.heap.size Fr.zero At.zero/\Seen Y Fr.zero At.zero/\Below w.heap.size w Y):=⟨hY,hsY,hbY⟩
  clear hst hY hsY hbY
  go_wp2_with (first|(refine wpList_store_run rfl 41 _ _ rfl _ _ rfl rfl HST6.out ?_)|(refine wpList_build_run rfl 41 _ rfl [] _ rfl HBZ.out ?_)|(refine wpList_store_run rfl 41 _ _ rfl _ _ rfl rfl HST.out ?_)|fail)
  refine bodyPost_ret (res_fr_tmp rfl rfl HE.out.1) rfl ?_
  rw[HRE.out.1,HRE.out.2,HFN.out]
  exact⟨At.zero,rfl,HE.out.2.1,HE.out.2.2,TagNew.zero _,Bare.nil' _⟩
theorem get_new (w:World)(x:Option Addr)(cx:Nat)(l:List UInt8)(hx:Sees w x cx l)(hl:l.length<=140737488351232)(hE:getE l=0):Calls Tryz.prog 15 #[.slice x l.length cx] w λe w'=>GotT w w' e (getF l) 0:=by
 have h3:¬ l.length<3:=λh=>by rw[getE_short h] at hE;cases hE
 obtain⟨g,hg⟩:∃ g,goodL l=g:=⟨_,rfl⟩
 cases g
 ·rw[getE_sum h3 hg] at hE
  cases hE
 ·have:=get_good_new w x cx l hx hl h3 hg hx.fits
  rw[hE] at this
  exact this
end Go.Proofs.YthogohkieiogiaaGreatDoor
