/-
  The contracts of Put and Core.

  The document's core: the bits of a frame but its tag.

  The contracts of the document's Put and Core.

  Put, Core and Check, of the program and of the document, at any frame; awake.
-/
import Derived.Test.YthogohkieiogiaaGreatDoorFrameC
import Derived.Test.YthogohkieiogiaaGreatDoorFrameD
import Derived.Deep.DeepCutAuto
namespace Go.Proofs.YthogohkieiogiaaGreatDoor
set_option maxRecDepth 20000
set_option maxHeartbeats 3200000
open Go.ChangeShapes Go.WideShapes Go.ChangeAt Go.RowKit
theorem exec_load {P:Program}{o:Oper}{a:Act}{w:World}(ty:TypeId)(x:Operand)(ho:o.op=.load ty x)(v r:Value)(hx:a.eval x=v)(hrun:(Instr.loadAt ty v).run P w=.ok r w):(execOp a.eval o).run P w=.ok (.value r) w:=by
 unfold execOp
 simp only[ho,hx,Sem.run_bind,hrun,Result.andThen_ok,Sem.run_pure]
theorem own_lower {w:World}{B B':Nat}{v:Value}{n:Nat}{xs:List Value}(h:w.ownsRow B 5 1 v n xs)(hB:B'<=B):w.ownsRow B' 5 1 v n xs:=by
 refine⟨h.1,?_⟩
 rcases h.2 with h0|⟨g,cap,cur,rfl,hlow,h4⟩
 ·exact .inl h0
 ·exact .inr ⟨g,cap,cur,rfl,Nat.le_trans hB hlow,h4⟩
def GivesE (w w':World)(e:Ending)(l:List UInt8):Prop:=∃ d cd r,Hid (r=l)/\e=.returned (.tuple #[.slice d r.length cd,.int .i64 0])/\Sees w' d cd r/\Below w.heap.size w w'/\w'.ownsRow w.heap.size 5 1 (.slice d r.length cd) r.length (r.map cellOf)
theorem Seen.clears {w:World}{F:Fr}{A:At}(h:Seen w F A){G:Nat->Prop}(hG:∀ k,G k->w.heap.size<=k):Clears G F A:=
 ⟨λb off e hne hg=>by have:=h.key.lt b off e hne;have:=hG b hg;omega,λb off e hne hg=>by have:=h.body.lt b off e hne;have:=hG b hg;omega,λb off e hne hg=>by have:=h.tag.lt b off e hne;have:=hG b hg;omega⟩
theorem put_yes (w:World)(F:Fr)(A:At)(hF:Seen w F A)(hn:F.n<18446744073709551616)(hr:rightB F=true):Calls Tryz.prog 16 #[.agg (frC F A)] w λe w'=>GivesE w w' e (putL F):=by
 have hN:=FrAt.new w F A
 have hb0:Below w.heap.size w (w.alloc (.cells (frC F A) 41)):=Go.Joins.below_alloc1 _ _
 have hck:=check_ok (w.alloc (.cells (frC F A) 41)) F A (hF.below hb0)
 rw[if_pos hr] at hck
 have hrc:coreB F=true:=by unfold rightB at hr;simp only[Bool.and_eq_true] at hr;exact hr.1
 have HI:Hid (InR0 F/\F.body.length<=16):=⟨(core_inr F hn hrc).1,(core_inr F hn hrc).2.1⟩
 have HB:Hid (wholeG (λ_ n _=>n) (λbs n V=>putB bs n (V:Int)) (λ_ l _=>l) (λbs l _=>bytesB bs l) [] F=(F,coreBits F++bitsOf F.tag)/\(coreBits F++bitsOf F.tag).length<=397):=wwhole_bits F hn hr
 have HF:Hid (Seen w F A):=hF
 have H0:Hid (FrAt (w.alloc (.cells (frC F A) 41)) w.heap.size F A/\Below w.heap.size w (w.alloc (.cells (frC F A) 41))):=⟨hN,hb0⟩
 have HL:Hid ((Instr.loadAt 41 (.pointer (some ⟨w.heap.size,0,none⟩))).run Tryz.prog (w.alloc (.cells (frC F A) 41))=.ok (.agg (frC F A)) (w.alloc (.cells (frC F A) 41))):=hN.loads
 clear hN hb0 hF hn hr hrc
 go_enter Tryz.func16,Tryz.ntmps16
 go_upto_region 1 with fail
 generalize w.alloc (Obj.cells (frC F A) 41)=W0 at *
 go_wp2_with (first|(refine wpList_gload_run rfl 41 _ rfl _ _ rfl HL.out ?_)|fail)
 refine hck.mono ?_
 rintro e w1 ⟨rfl,hb1⟩
 have H1:Hid (FrAt w1 w.heap.size F A/\Below w.heap.size w w1):=⟨H0.out.1.below hb1,H0.out.2.trans (hb1.mono H0.out.2.size)⟩
 have hnew:=wnew_ok w1
 clear hck HL hb1 H0
 go_wp2_with fail
 refine hnew.mono ?_
 rintro e w2 ⟨b,Fb,rfl,hRB,hb2,hFb⟩
 have hb2w:Below w.heap.size w w2:=H1.out.2.trans (hb2.mono H1.out.2.size)
 have hFw:∀ k,Fb k->w.heap.size<=k:=λk hk=>Nat.le_trans H1.out.2.size (hFb k hk)
 have H2:Hid (FrAt w2 w.heap.size F A/\WrM w2 b [] Fb/\Seen w2 F A/\Below w.heap.size w w2/\∀ k,Fb k->w.heap.size<=k):=⟨H1.out.1.below hb2,⟨hRB,by simp⟩,HF.out.below hb2w,hb2w,hFw⟩
 have HNF:Hid (¬ Fb w.heap.size):=λh=>by have:=hFb _ h;have:=H1.out.1.lt;omega
 have HCL:Hid (Clears Fb F A):=HF.out.clears hFw
 clear hnew hRB hb2 hFb hb2w hFw H1 HF
 go_wp2
 refine wp_region_noPanic ?_
 refine wp_region_held (S:=λW=>Apart Fb w2 W) (by kernel_rfl) ?_
 have hS:Apart Fb w2 w2.drew:=(Apart.refl _ _).drew
 refine tk 2 (v:=.agg (frC F A)) (hv:=λW hW=>exec_load 41 (.tmp 1) rfl (.pointer (some ⟨w.heap.size,0,none⟩)) _ rfl (H2.out.1.keep (hW.block _ H2.out.1.lt HNF.out)).loads) hS ?_
 refine tk 0 (v:=.pointer (some ⟨b,0,none⟩)) (hv:=by intro w _;go_simp) hS ?_
 clear hS
 refine any_one 1 rfl (by kernel_rfl) (by rfl) (λK hK=>?_)
 go_simp
 refine(writing_ok _ b).mono ?_
 rintro e w3 ⟨rfl,hb3⟩
 have hS3:Below w2.heap.size w2 w3:=(Below.refl _ w2).drew.trans (hb3.mono (Nat.le_refl _))
 have H3:Hid (Below w2.heap.size w2 w3):=hS3
 refine hK.out _ _ (Apart.of_below hS3) (λ_=>?_)
 clear hK hb3 hS3
 (try simp only[Act.put,sT])
 have hc:=hwhole_ok (hand_wr b) w3 [] Fb F A (wrm_kept.below H2.out.2.1 H3.out) (H2.out.2.2.1.below H3.out) HCL.out HI.out.1 HI.out.2
 rw[HB.out.1] at hc
 have HC:Hid (Calls Tryz.prog 41 #[.agg #[.func (.func 80) #[wrV b] #[],.func (.func 81) #[wrV b] #[]],.agg (frC F A)] w3 λe w'=>Leaves WrM b w3 Fb (F,coreBits F++bitsOf F.tag) e w'):=hc
 clear hc
 refine any_one 3 rfl (by kernel_rfl) (by rfl) (λK hK=>?_)
 go_simp
 refine HC.out.mono ?_
 rintro e w4 ⟨A4,F4,rfl,hM4,hap4,hsub4,_,_,_⟩
 have hb3w:Below w.heap.size w w3:=H2.out.2.2.2.1.trans (H3.out.mono H2.out.2.2.2.1.size)
 have hb4:Below w.heap.size w w4:=hap4.below hb3w H2.out.2.2.2.2 hb3w.size
 have H4:Hid (WrM w4 b (coreBits F++bitsOf F.tag) F4/\Below w.heap.size w w4):=⟨hM4,hb4⟩
 refine hK.out _ _ ((Apart.of_below H3.out).trans hap4 (λ_ h=>.inl h)) (λ_=>?_)
 clear hK HC hM4 hap4 hsub4 hb4 hb3w H3 H2
 refine wpAnyH_done (by kernel_rfl) ?_ _
 refine NoPanic.normal ?_
 have hd:=wdone_ok w4 b _ F4 H4.out.1.1 H4.out.1.2
 go_wp2_with fail
 refine hd.mono ?_
 rintro e w5 ⟨d5,c5,r5,hr5,rfl,hs5,hb5⟩
 have hlen:r5.length<=50:=by
  rw[hr5.out,packL_length];have:=HB.out.2;omega
 have hfx:=fix_ok w5 d5 c5 r5 hs5 (by omega)
 have H5:Hid (Below w.heap.size w w5/\putL F=fixL r5):=⟨H4.out.2.trans (hb5.mono H4.out.2.size),by unfold putL;rw[hr5.out]⟩
 clear hd hr5 hs5 hb5 H4 hlen
 go_wp2_with fail
 refine hfx.mono ?_
 rintro e w6 ⟨d6,c6,r6,hr6,rfl,hs6,hb6,hown⟩
 have HE:Hid (Hid (r6=putL F)/\Sees w6 d6 c6 r6/\Below w.heap.size w w6/\w6.ownsRow w.heap.size 5 1 (.slice d6 r6.length c6) r6.length (r6.map cellOf)):=
  ⟨by rw[H5.out.2];exact hr6,hs6,H5.out.1.trans (hb6.mono H5.out.1.size),own_lower hown H5.out.1.size⟩
 clear hfx hr6 hs6 hb6 hown H5
 go_wp2
 go_ret2
 exact⟨d6,c6,r6,HE.out.1,rfl,HE.out.2⟩
theorem core_yes (w:World)(F:Fr)(A:At)(hF:Seen w F A)(hn:F.n<18446744073709551616)(hr:coreB F=true):Calls Tryz.prog 105 #[.agg (frC F A)] w λe w'=>∃ d cd r,Hid (r=coreL F)/\e=.returned (.tuple #[.slice d r.length cd,.int .i64 0])/\Sees w' d cd r/\Below w.heap.size w w':=by
 have hN:=FrAt.new w F A
 have hb0:Below w.heap.size w (w.alloc (.cells (frC F A) 41)):=Go.Joins.below_alloc1 _ _
 have hck:=rcore_ok (w.alloc (.cells (frC F A) 41)) F A (hF.below hb0)
 rw[hr] at hck
 have hrc:=hr
 have HI:Hid (InR0 F/\F.body.length<=16):=⟨(core_inr F hn hrc).1,(core_inr F hn hrc).2.1⟩
 have HB:Hid (coreG (λ_ n _=>n) (λbs n V=>putB bs n (V:Int)) (λ_ l _=>l) (λbs l _=>bytesB bs l) [] F=(F,coreBits F)/\(coreBits F).length<=333):=wcore_bits F hn hr
 have HF:Hid (Seen w F A):=hF
 have H0:Hid (FrAt (w.alloc (.cells (frC F A) 41)) w.heap.size F A/\Below w.heap.size w (w.alloc (.cells (frC F A) 41))):=⟨hN,hb0⟩
 have HL:Hid ((Instr.loadAt 41 (.pointer (some ⟨w.heap.size,0,none⟩))).run Tryz.prog (w.alloc (.cells (frC F A) 41))=.ok (.agg (frC F A)) (w.alloc (.cells (frC F A) 41))):=hN.loads
 clear hN hb0 hF hn hr hrc
 go_enter Tryz.func105,Tryz.ntmps105
 go_upto_region 1 with fail
 generalize w.alloc (Obj.cells (frC F A) 41)=W0 at *
 go_wp2_with (first|(refine wpList_gload_run rfl 41 _ rfl _ _ rfl HL.out ?_)|fail)
 refine hck.mono ?_
 rintro e w1 ⟨rfl,hb1⟩
 have H1:Hid (FrAt w1 w.heap.size F A/\Below w.heap.size w w1):=⟨H0.out.1.below hb1,H0.out.2.trans (hb1.mono H0.out.2.size)⟩
 have hnew:=wnew_ok w1
 clear hck HL hb1 H0
 go_wp2_with fail
 refine hnew.mono ?_
 rintro e w2 ⟨b,Fb,rfl,hRB,hb2,hFb⟩
 have hb2w:Below w.heap.size w w2:=H1.out.2.trans (hb2.mono H1.out.2.size)
 have hFw:∀ k,Fb k->w.heap.size<=k:=λk hk=>Nat.le_trans H1.out.2.size (hFb k hk)
 have H2:Hid (FrAt w2 w.heap.size F A/\WrM w2 b [] Fb/\Seen w2 F A/\Below w.heap.size w w2/\∀ k,Fb k->w.heap.size<=k):=⟨H1.out.1.below hb2,⟨hRB,by simp⟩,HF.out.below hb2w,hb2w,hFw⟩
 have HNF:Hid (¬ Fb w.heap.size):=λh=>by have:=hFb _ h;have:=H1.out.1.lt;omega
 have HCL:Hid (Clears Fb F A):=HF.out.clears hFw
 clear hnew hRB hb2 hFb hb2w hFw H1 HF
 go_wp2
 refine wp_region_noPanic ?_
 refine wp_region_held (S:=λW=>Apart Fb w2 W) (by kernel_rfl) ?_
 have hS:Apart Fb w2 w2.drew:=(Apart.refl _ _).drew
 refine tk 2 (v:=.agg (frC F A)) (hv:=λW hW=>exec_load 41 (.tmp 1) rfl (.pointer (some ⟨w.heap.size,0,none⟩)) _ rfl (H2.out.1.keep (hW.block _ H2.out.1.lt HNF.out)).loads) hS ?_
 refine tk 0 (v:=.pointer (some ⟨b,0,none⟩)) (hv:=by intro w _;go_simp) hS ?_
 clear hS
 refine any_one 1 rfl (by kernel_rfl) (by rfl) (λK hK=>?_)
 go_simp
 refine(writing_ok _ b).mono ?_
 rintro e w3 ⟨rfl,hb3⟩
 have hS3:Below w2.heap.size w2 w3:=(Below.refl _ w2).drew.trans (hb3.mono (Nat.le_refl _))
 have H3:Hid (Below w2.heap.size w2 w3):=hS3
 refine hK.out _ _ (Apart.of_below hS3) (λ_=>?_)
 clear hK hb3 hS3
 (try simp only[Act.put,sT])
 have hc:=core_ok (hand_wr b) w3 [] Fb F A (wrm_kept.below H2.out.2.1 H3.out) (H2.out.2.2.1.below H3.out) HCL.out HI.out.1 HI.out.2
 rw[HB.out.1] at hc
 have HC:Hid (Calls Tryz.prog 75 #[.agg #[.func (.func 80) #[wrV b] #[],.func (.func 81) #[wrV b] #[]],.agg (frC F A)] w3 λe w'=>Leaves WrM b w3 Fb (F,coreBits F) e w'):=hc
 clear hc
 refine any_one 3 rfl (by kernel_rfl) (by rfl) (λK hK=>?_)
 go_simp
 refine HC.out.mono ?_
 rintro e w4 ⟨A4,F4,rfl,hM4,hap4,hsub4,_,_,_⟩
 have hb3w:Below w.heap.size w w3:=H2.out.2.2.2.1.trans (H3.out.mono H2.out.2.2.2.1.size)
 have hb4:Below w.heap.size w w4:=hap4.below hb3w H2.out.2.2.2.2 hb3w.size
 have H4:Hid (WrM w4 b (coreBits F) F4/\Below w.heap.size w w4):=⟨hM4,hb4⟩
 refine hK.out _ _ ((Apart.of_below H3.out).trans hap4 (λ_ h=>.inl h)) (λ_=>?_)
 clear hK HC hM4 hap4 hsub4 hb4 hb3w H3 H2
 refine wpAnyH_done (by kernel_rfl) ?_ _
 refine NoPanic.normal ?_
 have hd:=wdone_ok w4 b _ F4 H4.out.1.1 H4.out.1.2
 go_wp2_with fail
 refine hd.mono ?_
 rintro e w5 ⟨d5,c5,r5,hr5,rfl,hs5,hb5⟩
 have HE:Hid (Hid (r5=coreL F)/\Sees w5 d5 c5 r5/\Below w.heap.size w w5):=⟨hr5,hs5,H4.out.2.trans (hb5.mono H4.out.2.size)⟩
 clear hd hr5 hs5 hb5 H4
 go_wp2
 go_ret2
 exact⟨d5,c5,r5,HE.out.1,rfl,HE.out.2⟩
theorem put_no (w:World)(F:Fr)(A:At)(hF:Seen w F A)(hr:rightB F=false):Calls Tryz.prog 16 #[.agg (frC F A)] w λe w'=>e=.returned (.tuple #[.slice none 0 0,.int .i64 1])/\Below w.heap.size w w':=by
 have hN:=FrAt.new w F A
 have hb0:Below w.heap.size w (w.alloc (.cells (frC F A) 41)):=Go.Joins.below_alloc1 _ _
 have hck:=check_ok (w.alloc (.cells (frC F A) 41)) F A (hF.below hb0)
 rw[if_neg (by rw[hr];decide)] at hck
 have H0:Hid (Below w.heap.size w (w.alloc (.cells (frC F A) 41))):=hb0
 have HL:Hid ((Instr.loadAt 41 (.pointer (some ⟨w.heap.size,0,none⟩))).run Tryz.prog (w.alloc (.cells (frC F A) 41))=.ok (.agg (frC F A)) (w.alloc (.cells (frC F A) 41))):=hN.loads
 clear hN hb0 hF hr
 go_enter Tryz.func16,Tryz.ntmps16
 go_upto_region 1 with fail
 generalize w.alloc (Obj.cells (frC F A) 41)=W0 at *
 go_wp2_with (first|(refine wpList_gload_run rfl 41 _ rfl _ _ rfl HL.out ?_)|fail)
 refine hck.mono ?_
 rintro e w1 ⟨rfl,hb1⟩
 have HE:Hid (Below w.heap.size w w1):=H0.out.trans (hb1.mono H0.out.size)
 clear hck HL hb1 H0
 go_wp2
 go_ret2
 exact⟨rfl,HE.out⟩
theorem core_no (w:World)(F:Fr)(A:At)(hF:Seen w F A)(hr:coreB F=false):Calls Tryz.prog 105 #[.agg (frC F A)] w λe w'=>e=.returned (.tuple #[.slice none 0 0,.int .i64 1])/\Below w.heap.size w w':=by
 have hN:=FrAt.new w F A
 have hb0:Below w.heap.size w (w.alloc (.cells (frC F A) 41)):=Go.Joins.below_alloc1 _ _
 have hck:=rcore_ok (w.alloc (.cells (frC F A) 41)) F A (hF.below hb0)
 rw[hr] at hck
 have H0:Hid (Below w.heap.size w (w.alloc (.cells (frC F A) 41))):=hb0
 have HL:Hid ((Instr.loadAt 41 (.pointer (some ⟨w.heap.size,0,none⟩))).run Tryz.prog (w.alloc (.cells (frC F A) 41))=.ok (.agg (frC F A)) (w.alloc (.cells (frC F A) 41))):=hN.loads
 clear hN hb0 hF hr
 go_enter Tryz.func105,Tryz.ntmps105
 go_upto_region 1 with fail
 generalize w.alloc (Obj.cells (frC F A) 41)=W0 at *
 go_wp2_with (first|(refine wpList_gload_run rfl 41 _ rfl _ _ rfl HL.out ?_)|fail)
 refine hck.mono ?_
 rintro e w1 ⟨rfl,hb1⟩
 have HE:Hid (Below w.heap.size w w1):=H0.out.trans (hb1.mono H0.out.size)
 clear hck HL hb1 H0
 go_wp2
 go_ret2
 exact⟨rfl,HE.out⟩
theorem core_len (F:Fr)(hn:F.n<18446744073709551616)(hr:coreB F=true):(coreBits F).length<=333:=(wcore_bits F hn hr).2
def putR (F:Fr):List UInt8:=if rightB F=true then putL F else []
def putE (F:Fr):Int:=if rightB F=true then 0 else 1
def FTells (w w':World)(e:Ending)(l:List UInt8)(n:Int):Prop:=∃ d cd,e=.returned (.tuple #[.slice d l.length cd,.int .i64 n])/\Sees w' d cd l/\Below w.heap.size w w'
theorem fput_any (w:World)(F:Fr)(A:At)(hF:Seen w F A)(hn:F.n<18446744073709551616):Calls Tryz.prog 16 #[.agg (frC F A)] w λe w'=>FTells w w' e (putR F) (putE F):=by
 unfold putR putE
 by_cases h:rightB F=true
 ·rw[if_pos h,if_pos h]
  refine(put_yes w F A hF hn h).mono ?_
  rintro e w' ⟨d,cd,r,hr,rfl,hs,hb,_⟩
  have hr':=hr.out
  subst hr'
  exact⟨d,cd,rfl,hs,hb⟩
 ·rw[if_neg h,if_neg h]
  refine(put_no w F A hF (by simpa using h)).mono ?_
  rintro e w' ⟨rfl,hb⟩
  exact⟨none,0,rfl,Sees.nil' _,hb⟩
end Go.Proofs.YthogohkieiogiaaGreatDoor
